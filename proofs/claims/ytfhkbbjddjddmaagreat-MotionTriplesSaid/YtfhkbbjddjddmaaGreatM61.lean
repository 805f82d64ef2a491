/- Law: MotionTriples. -/
import Derived.Test.YtfhkbbjddjddmaaGreatM60
namespace Go.Proofs.YtfhkbbjddjddmaaGreat
set_option linter.unusedVariables false
set_option linter.unusedSimpArgs false
open Go.RowKit

theorem coupTo_comm {a b : Tr} (k : Nat) : coupTo a b k = coupTo b a k := by
  unfold coupTo
  congr 1
  funext i
  exact Int.min_comm _ _
theorem coupT_comm {a b : Tr} (hn : a.grip.length = b.grip.length) : coupT a b = coupT b a := by
  unfold coupT
  rw [coupTo_comm, hn, Int.add_comm a.mass, Int.add_comm a.len, Int.min_comm a.speed, Int.add_comm a.effort, Int.add_comm a.brake, Int.add_comm a.power, Int.add_comm a.resist, Int.add_comm a.rise, Int.min_comm a.back]
theorem gripAt_coup {a b : Tr} {i : Nat} (h : i < a.grip.length) : gripAt (coupT a b) i = min (gripAt a i) (gripAt b i) := by
  have hl : i < (coupT a b).grip.length := by rw [coupT_len]; exact h
  unfold gripAt
  rw [List.getElem?_eq_getElem hl]
  show (coupTo a b a.grip.length)[i] = _
  simp only [coupTo, List.getElem_map, List.getElem_range]
  rfl
theorem coupT_assoc {a b c : Tr} (h1 : a.grip.length = b.grip.length) (h2 : b.grip.length = c.grip.length) : coupT (coupT a b) c = coupT a (coupT b c) := by
  have hg : (coupT (coupT a b) c).grip = (coupT a (coupT b c)).grip := by
    show coupTo (coupT a b) c (coupT a b).grip.length = coupTo a (coupT b c) a.grip.length
    rw [coupT_len]
    unfold coupTo
    apply List.map_congr_left
    intro i hi
    have hi := List.mem_range.1 hi
    rw [gripAt_coup hi, gripAt_coup (by omega), Int.min_assoc]
  have e : ∀ (x y : Tr), x.mass = y.mass → x.len = y.len → x.speed = y.speed → x.effort = y.effort → x.brake = y.brake → x.power = y.power → x.resist = y.resist → x.rise = y.rise → x.back = y.back → x.grip = y.grip → x = y := fun x y a1 a2 a3 a4 a5 a6 a7 a8 a9 a10 => by cases x; cases y; simp_all
  exact e _ _ (Int.add_assoc _ _ _) (Int.add_assoc _ _ _) (Int.min_assoc _ _ _) (Int.add_assoc _ _ _) (Int.add_assoc _ _ _) (Int.add_assoc _ _ _) (Int.add_assoc _ _ _) (Int.add_assoc _ _ _) (Int.min_assoc _ _ _) hg
theorem cplE_comm {a b : Tr} : cplE a b = cplE b a := by
  unfold cplE
  by_cases h : rightB a = true ∧ rightB b = true ∧ a.grip.length = b.grip.length
  · rw [if_pos h, if_pos (show rightB b = true ∧ rightB a = true ∧ b.grip.length = a.grip.length from ⟨h.2.1, h.1, h.2.2.symm⟩), coupT_comm h.2.2]
  · rw [if_neg h, if_neg (fun k => h ⟨k.2.1, k.1, k.2.2.symm⟩)]
theorem cplE_zero {a b : Tr} (h : cplE a b = 0) : rightB a = true ∧ rightB b = true ∧ a.grip.length = b.grip.length ∧ fitsB (coupT a b) = true := by
  unfold cplE at h
  split at h
  · rename_i k
    split at h
    · rename_i f; exact ⟨k.1, k.2.1, k.2.2, f⟩
    · cases h
  · cases h
theorem cplT_comm {a b : Tr} : cplT a b = cplT b a := by
  unfold cplT
  rw [cplE_comm (a := b) (b := a)]
  by_cases h : cplE a b = 0
  · rw [if_pos h, if_pos h, coupT_comm (cplE_zero h).2.2.1]
  · rw [if_neg h, if_neg h]
theorem cplT_len (a b : Tr) (h : a.grip.length ≤ 20) : (cplT a b).grip.length ≤ 20 := by
  unfold cplT
  split
  · rw [coupT_len]; exact h
  · simp [Tr0]
theorem cpl_assoc {a b c : Tr} (h1 : cplE a b = 0) (h2 : cplE b c = 0) : cplE (cplT a b) c = cplE a (cplT b c) ∧ cplT (cplT a b) c = cplT a (cplT b c) := by
  obtain ⟨r1, r2, l1, f1⟩ := cplE_zero h1
  obtain ⟨_, r3, l2, f2⟩ := cplE_zero h2
  have e1 : cplT a b = coupT a b := by unfold cplT; rw [if_pos h1]
  have e2 : cplT b c = coupT b c := by unfold cplT; rw [if_pos h2]
  rw [e1, e2]
  have ha := coupT_assoc l1 l2
  have he : cplE (coupT a b) c = cplE a (coupT b c) := by
    unfold cplE
    rw [if_pos (show rightB (coupT a b) = true ∧ rightB c = true ∧ (coupT a b).grip.length = c.grip.length from ⟨by rw [coup_right r1 r2 l1]; exact f1, r3, by rw [coupT_len]; omega⟩), if_pos (show rightB a = true ∧ rightB (coupT b c) = true ∧ a.grip.length = (coupT b c).grip.length from ⟨r1, by rw [coup_right r2 r3 l2]; exact f2, by rw [coupT_len]; exact l1⟩), ha]
  refine ⟨he, ?_⟩
  unfold cplT
  rw [he, ha]
set_option maxRecDepth 100000 in
set_option maxHeartbeats 4000000 in
theorem MotionTriples_any (A A2 A3 : Option Addr) (c c2 c3 n n2 n3 : Nat) (a b d : Tr) (w : World) (hn : a.grip.length = n) (hn2 : b.grip.length = n2) (hn3 : d.grip.length = n3) (hx : n ≤ 140737488351232) (hy : n2 ≤ 140737488351232) (hz : n3 ≤ 140737488351232) (hS : Sl w w.heap.size 1 CI A a.grip) (hS2 : Sl w w.heap.size 1 CI A2 b.grip) (hS3 : Sl w w.heap.size 1 CI A3 d.grip) :
    Calls Tryz.prog 4 #[.agg #[.int .i64 a.mass, .int .i64 a.len, .int .i64 a.speed, .int .i64 a.effort, .int .i64 a.brake, .int .i64 a.power, .int .i64 a.resist, .int .i64 a.rise, .int .i64 a.back, .slice A n c], .agg #[.int .i64 b.mass, .int .i64 b.len, .int .i64 b.speed, .int .i64 b.effort, .int .i64 b.brake, .int .i64 b.power, .int .i64 b.resist, .int .i64 b.rise, .int .i64 b.back, .slice A2 n2 c2], .agg #[.int .i64 d.mass, .int .i64 d.len, .int .i64 d.speed, .int .i64 d.effort, .int .i64 d.brake, .int .i64 d.power, .int .i64 d.resist, .int .i64 d.rise, .int .i64 d.back, .slice A3 n3 c3]] w fun e w' => e = .returned (.bool true) ∧ Below w.heap.size w w' := by
  have hb1 := (((Below.refl w.heap.size w).alloc (Nat.le_refl _) (.cells #[.int .i64 a.mass, .int .i64 a.len, .int .i64 a.speed, .int .i64 a.effort, .int .i64 a.brake, .int .i64 a.power, .int .i64 a.resist, .int .i64 a.rise, .int .i64 a.back, .slice A n c] 24)).alloc (by simp) (.cells #[.int .i64 b.mass, .int .i64 b.len, .int .i64 b.speed, .int .i64 b.effort, .int .i64 b.brake, .int .i64 b.power, .int .i64 b.resist, .int .i64 b.rise, .int .i64 b.back, .slice A2 n2 c2] 24)).alloc (by simp; omega) (.cells #[.int .i64 d.mass, .int .i64 d.len, .int .i64 d.speed, .int .i64 d.effort, .int .i64 d.brake, .int .i64 d.power, .int .i64 d.resist, .int .i64 d.rise, .int .i64 d.back, .slice A3 n3 c3] 24)
  obtain ⟨q1, q2, q3⟩ := rows3 w #[.int .i64 a.mass, .int .i64 a.len, .int .i64 a.speed, .int .i64 a.effort, .int .i64 a.brake, .int .i64 a.power, .int .i64 a.resist, .int .i64 a.rise, .int .i64 a.back, .slice A n c] #[.int .i64 b.mass, .int .i64 b.len, .int .i64 b.speed, .int .i64 b.effort, .int .i64 b.brake, .int .i64 b.power, .int .i64 b.resist, .int .i64 b.rise, .int .i64 b.back, .slice A2 n2 c2] #[.int .i64 d.mass, .int .i64 d.len, .int .i64 d.speed, .int .i64 d.effort, .int .i64 d.brake, .int .i64 d.power, .int .i64 d.resist, .int .i64 d.rise, .int .i64 d.back, .slice A3 n3 c3] 24 24 24
  obtain ⟨W1, hW1⟩ : ∃ z, ((w.alloc (.cells #[.int .i64 a.mass, .int .i64 a.len, .int .i64 a.speed, .int .i64 a.effort, .int .i64 a.brake, .int .i64 a.power, .int .i64 a.resist, .int .i64 a.rise, .int .i64 a.back, .slice A n c] 24)).alloc (.cells #[.int .i64 b.mass, .int .i64 b.len, .int .i64 b.speed, .int .i64 b.effort, .int .i64 b.brake, .int .i64 b.power, .int .i64 b.resist, .int .i64 b.rise, .int .i64 b.back, .slice A2 n2 c2] 24)).alloc (.cells #[.int .i64 d.mass, .int .i64 d.len, .int .i64 d.speed, .int .i64 d.effort, .int .i64 d.brake, .int .i64 d.power, .int .i64 d.resist, .int .i64 d.rise, .int .i64 d.back, .slice A3 n3 c3] 24) = z := ⟨_, rfl⟩
  rw [hW1] at hb1 q1 q2 q3
  obtain ⟨B, hB⟩ : ∃ n, w.heap.size = n := ⟨_, rfl⟩
  rw [hB] at q1 q2 q3
  have HB1 := Lib.hid hb1
  have HX0 := Lib.hid (Below.refl W1.heap.size W1)
  have HK := Lib.hid (show ∀ wx, Below W1.heap.size W1 wx → Rw wx B 24 #[.int .i64 a.mass, .int .i64 a.len, .int .i64 a.speed, .int .i64 a.effort, .int .i64 a.brake, .int .i64 a.power, .int .i64 a.resist, .int .i64 a.rise, .int .i64 a.back, .slice A n c] ∧ Rw wx (B + 1) 24 #[.int .i64 b.mass, .int .i64 b.len, .int .i64 b.speed, .int .i64 b.effort, .int .i64 b.brake, .int .i64 b.power, .int .i64 b.resist, .int .i64 b.rise, .int .i64 b.back, .slice A2 n2 c2] ∧ Rw wx (B + 1 + 1) 24 #[.int .i64 d.mass, .int .i64 d.len, .int .i64 d.speed, .int .i64 d.effort, .int .i64 d.brake, .int .i64 d.power, .int .i64 d.resist, .int .i64 d.rise, .int .i64 d.back, .slice A3 n3 c3] ∧ Sl wx wx.heap.size 1 CI A a.grip ∧ Sl wx wx.heap.size 1 CI A2 b.grip ∧ Sl wx wx.heap.size 1 CI A3 d.grip from fun wx h => by
    have hb := hb1.trans (h.mono hb1.size)
    have hz := Nat.le_trans hb1.size h.size
    exact ⟨q1.below h q1.lt, q2.below h q2.lt, q3.below h q3.lt, (hS.below hb).more (fun _ _ h => h) hz, (hS2.below hb).more (fun _ _ h => h) hz, (hS3.below hb).more (fun _ _ h => h) hz⟩)
  have HKN := Lib.hid (show ∀ wx, Below W1.heap.size W1 wx → Calls Tryz.prog 14 #[] wx fun e w' => e = .returned (.bool true) ∧ Below wx.heap.size wx w' from fun wx _ => known_any wx)
  obtain ⟨s1, h1⟩ : ∃ q, decide (n ≤ 20) = q := ⟨_, rfl⟩
  have HSH1 := Lib.hid (show ∀ wx, Below W1.heap.size W1 wx → Calls Tryz.prog 13 #[.agg #[.int .i64 a.mass, .int .i64 a.len, .int .i64 a.speed, .int .i64 a.effort, .int .i64 a.brake, .int .i64 a.power, .int .i64 a.resist, .int .i64 a.rise, .int .i64 a.back, .slice A n c]] wx fun e w' => e = .returned (.bool s1) ∧ Below wx.heap.size wx w' from fun wx h => by have := short_any A c n a wx (by omega); rwa [h1] at this)
  obtain ⟨r1, hr1⟩ : ∃ q, rightB a = q := ⟨_, rfl⟩
  have HTR1 := Lib.hid (show ∀ wx, Below W1.heap.size W1 wx → Calls Tryz.prog 17 #[.agg #[.int .i64 a.mass, .int .i64 a.len, .int .i64 a.speed, .int .i64 a.effort, .int .i64 a.brake, .int .i64 a.power, .int .i64 a.resist, .int .i64 a.rise, .int .i64 a.back, .slice A n c]] wx fun e w' => e = .returned (.bool r1) ∧ Below wx.heap.size wx w' from fun wx h => by have := rTrain_any A c n a wx hn (by omega) (HK.out wx h).2.2.2.1; rwa [hr1] at this)
  obtain ⟨s2, h2⟩ : ∃ q, decide (n2 ≤ 20) = q := ⟨_, rfl⟩
  have HSH2 := Lib.hid (show ∀ wx, Below W1.heap.size W1 wx → Calls Tryz.prog 13 #[.agg #[.int .i64 b.mass, .int .i64 b.len, .int .i64 b.speed, .int .i64 b.effort, .int .i64 b.brake, .int .i64 b.power, .int .i64 b.resist, .int .i64 b.rise, .int .i64 b.back, .slice A2 n2 c2]] wx fun e w' => e = .returned (.bool s2) ∧ Below wx.heap.size wx w' from fun wx h => by have := short_any A2 c2 n2 b wx (by omega); rwa [h2] at this)
  obtain ⟨r2, hr2⟩ : ∃ q, rightB b = q := ⟨_, rfl⟩
  have HTR2 := Lib.hid (show ∀ wx, Below W1.heap.size W1 wx → Calls Tryz.prog 17 #[.agg #[.int .i64 b.mass, .int .i64 b.len, .int .i64 b.speed, .int .i64 b.effort, .int .i64 b.brake, .int .i64 b.power, .int .i64 b.resist, .int .i64 b.rise, .int .i64 b.back, .slice A2 n2 c2]] wx fun e w' => e = .returned (.bool r2) ∧ Below wx.heap.size wx w' from fun wx h => by have := rTrain_any A2 c2 n2 b wx hn2 (by omega) (HK.out wx h).2.2.2.2.1; rwa [hr2] at this)
  obtain ⟨s3, h3⟩ : ∃ q, decide (n3 ≤ 20) = q := ⟨_, rfl⟩
  have HSH3 := Lib.hid (show ∀ wx, Below W1.heap.size W1 wx → Calls Tryz.prog 13 #[.agg #[.int .i64 d.mass, .int .i64 d.len, .int .i64 d.speed, .int .i64 d.effort, .int .i64 d.brake, .int .i64 d.power, .int .i64 d.resist, .int .i64 d.rise, .int .i64 d.back, .slice A3 n3 c3]] wx fun e w' => e = .returned (.bool s3) ∧ Below wx.heap.size wx w' from fun wx h => by have := short_any A3 c3 n3 d wx (by omega); rwa [h3] at this)
  obtain ⟨r3, hr3⟩ : ∃ q, rightB d = q := ⟨_, rfl⟩
  have HTR3 := Lib.hid (show ∀ wx, Below W1.heap.size W1 wx → Calls Tryz.prog 17 #[.agg #[.int .i64 d.mass, .int .i64 d.len, .int .i64 d.speed, .int .i64 d.effort, .int .i64 d.brake, .int .i64 d.power, .int .i64 d.resist, .int .i64 d.rise, .int .i64 d.back, .slice A3 n3 c3]] wx fun e w' => e = .returned (.bool r3) ∧ Below wx.heap.size wx w' from fun wx h => by have := rTrain_any A3 c3 n3 d wx hn3 (by omega) (HK.out wx h).2.2.2.2.2; rwa [hr3] at this)
  have HN := Lib.hid (And.intro hn (And.intro hn2 hn3))
  have HSS := Lib.hid (And.intro h1 (And.intro h2 h3))
  obtain ⟨ct1, hct1⟩ : ∃ t, cplT a b = t := ⟨_, rfl⟩
  obtain ⟨ce1, hce1⟩ : ∃ t, cplE a b = t := ⟨_, rfl⟩
  obtain ⟨ct3, hct3⟩ : ∃ t, cplT b d = t := ⟨_, rfl⟩
  obtain ⟨ce3, hce3⟩ : ∃ t, cplE b d = t := ⟨_, rfl⟩
  have HCP1 := Lib.hid (show ∀ wx, Below W1.heap.size W1 wx → Calls Tryz.prog 15 #[.agg #[.int .i64 a.mass, .int .i64 a.len, .int .i64 a.speed, .int .i64 a.effort, .int .i64 a.brake, .int .i64 a.power, .int .i64 a.resist, .int .i64 a.rise, .int .i64 a.back, .slice A n c], .agg #[.int .i64 b.mass, .int .i64 b.len, .int .i64 b.speed, .int .i64 b.effort, .int .i64 b.brake, .int .i64 b.power, .int .i64 b.resist, .int .i64 b.rise, .int .i64 b.back, .slice A2 n2 c2]] wx fun e w' => ∃ Ac1 cc1, e = .returned (.tuple #[.agg #[.int .i64 ct1.mass, .int .i64 ct1.len, .int .i64 ct1.speed, .int .i64 ct1.effort, .int .i64 ct1.brake, .int .i64 ct1.power, .int .i64 ct1.resist, .int .i64 ct1.rise, .int .i64 ct1.back, .slice Ac1 ct1.grip.length cc1], .int .i64 ce1]) ∧ Sl w' w'.heap.size 1 CI Ac1 ct1.grip ∧ Below wx.heap.size wx w' from fun wx h => by
    have := Couple_any A A2 c c2 n n2 a b wx hn hn2 (by omega) (by omega) (HK.out wx h).2.2.2.1 (HK.out wx h).2.2.2.2.1
    unfold CplPost at this
    rwa [hct1, hce1] at this)
  have HCP2 := Lib.hid (show ∀ wx, Below W1.heap.size W1 wx → Calls Tryz.prog 15 #[.agg #[.int .i64 b.mass, .int .i64 b.len, .int .i64 b.speed, .int .i64 b.effort, .int .i64 b.brake, .int .i64 b.power, .int .i64 b.resist, .int .i64 b.rise, .int .i64 b.back, .slice A2 n2 c2], .agg #[.int .i64 a.mass, .int .i64 a.len, .int .i64 a.speed, .int .i64 a.effort, .int .i64 a.brake, .int .i64 a.power, .int .i64 a.resist, .int .i64 a.rise, .int .i64 a.back, .slice A n c]] wx fun e w' => ∃ Ac2 cc2, e = .returned (.tuple #[.agg #[.int .i64 ct1.mass, .int .i64 ct1.len, .int .i64 ct1.speed, .int .i64 ct1.effort, .int .i64 ct1.brake, .int .i64 ct1.power, .int .i64 ct1.resist, .int .i64 ct1.rise, .int .i64 ct1.back, .slice Ac2 ct1.grip.length cc2], .int .i64 ce1]) ∧ Sl w' w'.heap.size 1 CI Ac2 ct1.grip ∧ Below wx.heap.size wx w' from fun wx h => by
    have := Couple_any A2 A c2 c n2 n b a wx hn2 hn (by omega) (by omega) (HK.out wx h).2.2.2.2.1 (HK.out wx h).2.2.2.1
    unfold CplPost at this
    rwa [cplT_comm, cplE_comm, hct1, hce1] at this)
  have HCP3 := Lib.hid (show ∀ wx, Below W1.heap.size W1 wx → Calls Tryz.prog 15 #[.agg #[.int .i64 b.mass, .int .i64 b.len, .int .i64 b.speed, .int .i64 b.effort, .int .i64 b.brake, .int .i64 b.power, .int .i64 b.resist, .int .i64 b.rise, .int .i64 b.back, .slice A2 n2 c2], .agg #[.int .i64 d.mass, .int .i64 d.len, .int .i64 d.speed, .int .i64 d.effort, .int .i64 d.brake, .int .i64 d.power, .int .i64 d.resist, .int .i64 d.rise, .int .i64 d.back, .slice A3 n3 c3]] wx fun e w' => ∃ Ac3 cc3, e = .returned (.tuple #[.agg #[.int .i64 ct3.mass, .int .i64 ct3.len, .int .i64 ct3.speed, .int .i64 ct3.effort, .int .i64 ct3.brake, .int .i64 ct3.power, .int .i64 ct3.resist, .int .i64 ct3.rise, .int .i64 ct3.back, .slice Ac3 ct3.grip.length cc3], .int .i64 ce3]) ∧ Sl w' w'.heap.size 1 CI Ac3 ct3.grip ∧ Below wx.heap.size wx w' from fun wx h => by
    have := Couple_any A2 A3 c2 c3 n2 n3 b d wx hn2 hn3 (by omega) (by omega) (HK.out wx h).2.2.2.2.1 (HK.out wx h).2.2.2.2.2
    unfold CplPost at this
    rwa [hct3, hce3] at this)
  have HE1 := Lib.hid (And.intro hct1 hce1); have HE3 := Lib.hid (And.intro hct3 hce3)
  have e := q1.cell; have f := q2.cell; have g := q3.cell
  clear hb1 q1 q2 q3 hS hS2 hS3 hn hn2 hn3 h1 h2 h3 hct1 hce1 hct3 hce3 hr1 hr2 hr3
  go_enter Tryz.func4, Tryz.ntmps4
  go_wp2_with fail
  (with_reducible refine (HSH1.out _ HX0.out).mono ?_)
  rintro e w2 ⟨rfl, hb⟩
  have HX1 := Lib.hid (HX0.out.trans (hb.mono HX0.out.size))
  clear hb
  clear e f g
  obtain ⟨z1, z2, z3, _⟩ := HK.out _ HX1.out
  have e := z1.cell; have f := z2.cell; have g := z3.cell
  clear z1 z2 z3
  clear hW1 hB
  cases s1 with
  | false =>
    go_wp2_with fail
    (with_reducible refine (HKN.out _ HX1.out).mono ?_)
    rintro e w3 ⟨rfl, hb⟩
    have HX2 := Lib.hid (HX1.out.trans (hb.mono HX1.out.size))
    clear hb
    go_wp2
    go_ret
    exact ⟨by rfl, HB1.out.trans (HX2.out.mono HB1.out.size)⟩
  | true =>
    go_wp2_with fail
    (with_reducible refine (HSH2.out _ HX1.out).mono ?_)
    rintro e w3 ⟨rfl, hb⟩
    have HX2 := Lib.hid (HX1.out.trans (hb.mono HX1.out.size))
    clear hb
    clear e f g
    obtain ⟨z1, z2, z3, _⟩ := HK.out _ HX2.out
    have e := z1.cell; have f := z2.cell; have g := z3.cell
    clear z1 z2 z3
    cases s2 with
    | false =>
      go_wp2_with fail
      (with_reducible refine (HKN.out _ HX2.out).mono ?_)
      rintro e w4 ⟨rfl, hb⟩
      have HX3 := Lib.hid (HX2.out.trans (hb.mono HX2.out.size))
      clear hb
      go_wp2
      go_ret
      exact ⟨by rfl, HB1.out.trans (HX3.out.mono HB1.out.size)⟩
    | true =>
      go_wp2_with fail
      (with_reducible refine (HSH3.out _ HX2.out).mono ?_)
      rintro e w4 ⟨rfl, hb⟩
      have HX3 := Lib.hid (HX2.out.trans (hb.mono HX2.out.size))
      clear hb
      clear e f g
      obtain ⟨z1, z2, z3, _⟩ := HK.out _ HX3.out
      have e := z1.cell; have f := z2.cell; have g := z3.cell
      clear z1 z2 z3
      cases s3 with
      | false =>
        go_wp2_with fail
        (with_reducible refine (HKN.out _ HX3.out).mono ?_)
        rintro e w5 ⟨rfl, hb⟩
        have HX4 := Lib.hid (HX3.out.trans (hb.mono HX3.out.size))
        clear hb
        go_wp2
        go_ret
        exact ⟨by rfl, HB1.out.trans (HX4.out.mono HB1.out.size)⟩
      | true =>
        go_wp2_with fail
        (with_reducible refine (HTR1.out _ HX3.out).mono ?_)
        rintro e w5 ⟨rfl, hb⟩
        have HX4 := Lib.hid (HX3.out.trans (hb.mono HX3.out.size))
        clear hb
        clear e f g
        obtain ⟨z1, z2, z3, _⟩ := HK.out _ HX4.out
        have e := z1.cell; have f := z2.cell; have g := z3.cell
        clear z1 z2 z3
        cases r1 with
        | false =>
          go_wp2_with fail
          (with_reducible refine (HKN.out _ HX4.out).mono ?_)
          rintro e w6 ⟨rfl, hb⟩
          have HX5 := Lib.hid (HX4.out.trans (hb.mono HX4.out.size))
          clear hb
          go_wp2
          go_ret
          exact ⟨by rfl, HB1.out.trans (HX5.out.mono HB1.out.size)⟩
        | true =>
          go_wp2_with fail
          (with_reducible refine (HTR2.out _ HX4.out).mono ?_)
          rintro e w6 ⟨rfl, hb⟩
          have HX5 := Lib.hid (HX4.out.trans (hb.mono HX4.out.size))
          clear hb
          clear e f g
          obtain ⟨z1, z2, z3, _⟩ := HK.out _ HX5.out
          have e := z1.cell; have f := z2.cell; have g := z3.cell
          clear z1 z2 z3
          cases r2 with
          | false =>
            go_wp2_with fail
            (with_reducible refine (HKN.out _ HX5.out).mono ?_)
            rintro e w7 ⟨rfl, hb⟩
            have HX6 := Lib.hid (HX5.out.trans (hb.mono HX5.out.size))
            clear hb
            go_wp2
            go_ret
            exact ⟨by rfl, HB1.out.trans (HX6.out.mono HB1.out.size)⟩
          | true =>
            go_wp2_with fail
            (with_reducible refine (HTR3.out _ HX5.out).mono ?_)
            rintro e w7 ⟨rfl, hb⟩
            have HX6 := Lib.hid (HX5.out.trans (hb.mono HX5.out.size))
            clear hb
            clear e f g
            obtain ⟨z1, z2, z3, _⟩ := HK.out _ HX6.out
            have e := z1.cell; have f := z2.cell; have g := z3.cell
            clear z1 z2 z3
            cases r3 with
            | false =>
              go_wp2_with fail
              (with_reducible refine (HKN.out _ HX6.out).mono ?_)
              rintro e w8 ⟨rfl, hb⟩
              have HX7 := Lib.hid (HX6.out.trans (hb.mono HX6.out.size))
              clear hb
              go_wp2
              go_ret
              exact ⟨by rfl, HB1.out.trans (HX7.out.mono HB1.out.size)⟩
            | true =>
              by_cases h12 : n = n2
              · subst h12
                by_cases h23 : n = n3
                · subst h23
                  go_wp2_with fail
                  (with_reducible refine (HCP1.out _ HX6.out).mono ?_)
                  rintro e w8 ⟨Ac1, cc1, rfl, hsc, hb⟩
                  have HX7 := Lib.hid (HX6.out.trans (hb.mono HX6.out.size))
                  have HSC1 := Lib.hid hsc
                  clear hsc
                  clear hb
                  clear e f g
                  obtain ⟨z1, z2, z3, _⟩ := HK.out _ HX7.out
                  have e := z1.cell; have f := z2.cell; have g := z3.cell
                  clear z1 z2 z3
                  go_upto_region 4 with (fail)
                  have hba := (Below.refl w8.heap.size w8).alloc (Nat.le_refl _) (.cells #[.int .i64 ct1.mass, .int .i64 ct1.len, .int .i64 ct1.speed, .int .i64 ct1.effort, .int .i64 ct1.brake, .int .i64 ct1.power, .int .i64 ct1.resist, .int .i64 ct1.rise, .int .i64 ct1.back, .slice Ac1 ct1.grip.length cc1] 24)
                  have qa := Rw.new w8 #[.int .i64 ct1.mass, .int .i64 ct1.len, .int .i64 ct1.speed, .int .i64 ct1.effort, .int .i64 ct1.brake, .int .i64 ct1.power, .int .i64 ct1.resist, .int .i64 ct1.rise, .int .i64 ct1.back, .slice Ac1 ct1.grip.length cc1] 24
                  obtain ⟨w9, hwa⟩ : ∃ z, w8.alloc (.cells #[.int .i64 ct1.mass, .int .i64 ct1.len, .int .i64 ct1.speed, .int .i64 ct1.effort, .int .i64 ct1.brake, .int .i64 ct1.power, .int .i64 ct1.resist, .int .i64 ct1.rise, .int .i64 ct1.back, .slice Ac1 ct1.grip.length cc1] 24) = z := ⟨_, rfl⟩
                  rw [hwa] at hba qa ⊢
                  clear hwa
                  obtain ⟨MP, hM⟩ : ∃ n, w8.heap.size = n := ⟨_, rfl⟩
                  rw [hM] at qa ⊢
                  clear hM
                  have HX8 := Lib.hid (HX7.out.trans (hba.mono HX7.out.size))
                  have HQP := Lib.hid (show ∀ wx, Below w9.heap.size w9 wx → Rw wx MP 24 #[.int .i64 ct1.mass, .int .i64 ct1.len, .int .i64 ct1.speed, .int .i64 ct1.effort, .int .i64 ct1.brake, .int .i64 ct1.power, .int .i64 ct1.resist, .int .i64 ct1.rise, .int .i64 ct1.back, .slice Ac1 ct1.grip.length cc1] ∧ Sl wx wx.heap.size 1 CI Ac1 ct1.grip from fun wx h => ⟨qa.below h qa.lt, (HSC1.out.below (hba.trans (h.mono hba.size))).more (fun _ _ h => h) (Nat.le_trans hba.size h.size)⟩)
                  have HYP_8 := Lib.hid (Below.refl w9.heap.size w9)
                  clear hba qa
                  clear e f g
                  obtain ⟨z1, z2, z3, _⟩ := HK.out _ HX8.out
                  have e := z1.cell; have f := z2.cell; have g := z3.cell
                  clear z1 z2 z3
                  have yP := (HQP.out _ HYP_8.out).1.cell
                  go_wp2_with fail
                  (with_reducible refine (HCP2.out _ HX8.out).mono ?_)
                  rintro e w10 ⟨Ac2, cc2, rfl, hsc, hb⟩
                  have HX9 := Lib.hid (HX8.out.trans (hb.mono HX8.out.size))
                  have HYP_9 := Lib.hid (HYP_8.out.trans (hb.mono HYP_8.out.size))
                  have HSC2 := Lib.hid hsc
                  clear hsc
                  clear hb
                  clear e f g yP
                  obtain ⟨z1, z2, z3, _⟩ := HK.out _ HX9.out
                  have e := z1.cell; have f := z2.cell; have g := z3.cell
                  clear z1 z2 z3
                  have yP := (HQP.out _ HYP_9.out).1.cell
                  go_upto_region 5 with (fail)
                  have hba := (Below.refl w10.heap.size w10).alloc (Nat.le_refl _) (.cells #[.int .i64 ct1.mass, .int .i64 ct1.len, .int .i64 ct1.speed, .int .i64 ct1.effort, .int .i64 ct1.brake, .int .i64 ct1.power, .int .i64 ct1.resist, .int .i64 ct1.rise, .int .i64 ct1.back, .slice Ac2 ct1.grip.length cc2] 24)
                  have qa := Rw.new w10 #[.int .i64 ct1.mass, .int .i64 ct1.len, .int .i64 ct1.speed, .int .i64 ct1.effort, .int .i64 ct1.brake, .int .i64 ct1.power, .int .i64 ct1.resist, .int .i64 ct1.rise, .int .i64 ct1.back, .slice Ac2 ct1.grip.length cc2] 24
                  obtain ⟨w11, hwa⟩ : ∃ z, w10.alloc (.cells #[.int .i64 ct1.mass, .int .i64 ct1.len, .int .i64 ct1.speed, .int .i64 ct1.effort, .int .i64 ct1.brake, .int .i64 ct1.power, .int .i64 ct1.resist, .int .i64 ct1.rise, .int .i64 ct1.back, .slice Ac2 ct1.grip.length cc2] 24) = z := ⟨_, rfl⟩
                  rw [hwa] at hba qa ⊢
                  clear hwa
                  obtain ⟨MQ, hM⟩ : ∃ n, w10.heap.size = n := ⟨_, rfl⟩
                  rw [hM] at qa ⊢
                  clear hM
                  have HX10 := Lib.hid (HX9.out.trans (hba.mono HX9.out.size))
                  have HYP_10 := Lib.hid (HYP_9.out.trans (hba.mono HYP_9.out.size))
                  have HQQ := Lib.hid (show ∀ wx, Below w11.heap.size w11 wx → Rw wx MQ 24 #[.int .i64 ct1.mass, .int .i64 ct1.len, .int .i64 ct1.speed, .int .i64 ct1.effort, .int .i64 ct1.brake, .int .i64 ct1.power, .int .i64 ct1.resist, .int .i64 ct1.rise, .int .i64 ct1.back, .slice Ac2 ct1.grip.length cc2] ∧ Sl wx wx.heap.size 1 CI Ac2 ct1.grip from fun wx h => ⟨qa.below h qa.lt, (HSC2.out.below (hba.trans (h.mono hba.size))).more (fun _ _ h => h) (Nat.le_trans hba.size h.size)⟩)
                  have HYQ_10 := Lib.hid (Below.refl w11.heap.size w11)
                  clear hba qa
                  clear e f g yP
                  obtain ⟨z1, z2, z3, _⟩ := HK.out _ HX10.out
                  have e := z1.cell; have f := z2.cell; have g := z3.cell
                  clear z1 z2 z3
                  have yP := (HQP.out _ HYP_10.out).1.cell
                  have yQ := (HQQ.out _ HYQ_10.out).1.cell
                  go_wp2_with fail
                  (with_reducible refine (HCP3.out _ HX10.out).mono ?_)
                  rintro e w12 ⟨Ac3, cc3, rfl, hsc, hb⟩
                  have HX11 := Lib.hid (HX10.out.trans (hb.mono HX10.out.size))
                  have HYP_11 := Lib.hid (HYP_10.out.trans (hb.mono HYP_10.out.size))
                  have HYQ_11 := Lib.hid (HYQ_10.out.trans (hb.mono HYQ_10.out.size))
                  have HSC3 := Lib.hid hsc
                  clear hsc
                  clear hb
                  clear e f g yP yQ
                  obtain ⟨z1, z2, z3, _⟩ := HK.out _ HX11.out
                  have e := z1.cell; have f := z2.cell; have g := z3.cell
                  clear z1 z2 z3
                  have yP := (HQP.out _ HYP_11.out).1.cell
                  have yQ := (HQQ.out _ HYQ_11.out).1.cell
                  go_upto_region 6 with (fail)
                  have hba := (Below.refl w12.heap.size w12).alloc (Nat.le_refl _) (.cells #[.int .i64 ct3.mass, .int .i64 ct3.len, .int .i64 ct3.speed, .int .i64 ct3.effort, .int .i64 ct3.brake, .int .i64 ct3.power, .int .i64 ct3.resist, .int .i64 ct3.rise, .int .i64 ct3.back, .slice Ac3 ct3.grip.length cc3] 24)
                  have qa := Rw.new w12 #[.int .i64 ct3.mass, .int .i64 ct3.len, .int .i64 ct3.speed, .int .i64 ct3.effort, .int .i64 ct3.brake, .int .i64 ct3.power, .int .i64 ct3.resist, .int .i64 ct3.rise, .int .i64 ct3.back, .slice Ac3 ct3.grip.length cc3] 24
                  obtain ⟨w13, hwa⟩ : ∃ z, w12.alloc (.cells #[.int .i64 ct3.mass, .int .i64 ct3.len, .int .i64 ct3.speed, .int .i64 ct3.effort, .int .i64 ct3.brake, .int .i64 ct3.power, .int .i64 ct3.resist, .int .i64 ct3.rise, .int .i64 ct3.back, .slice Ac3 ct3.grip.length cc3] 24) = z := ⟨_, rfl⟩
                  rw [hwa] at hba qa ⊢
                  clear hwa
                  obtain ⟨MR, hM⟩ : ∃ n, w12.heap.size = n := ⟨_, rfl⟩
                  rw [hM] at qa ⊢
                  clear hM
                  have HX12 := Lib.hid (HX11.out.trans (hba.mono HX11.out.size))
                  have HYP_12 := Lib.hid (HYP_11.out.trans (hba.mono HYP_11.out.size))
                  have HYQ_12 := Lib.hid (HYQ_11.out.trans (hba.mono HYQ_11.out.size))
                  have HQR := Lib.hid (show ∀ wx, Below w13.heap.size w13 wx → Rw wx MR 24 #[.int .i64 ct3.mass, .int .i64 ct3.len, .int .i64 ct3.speed, .int .i64 ct3.effort, .int .i64 ct3.brake, .int .i64 ct3.power, .int .i64 ct3.resist, .int .i64 ct3.rise, .int .i64 ct3.back, .slice Ac3 ct3.grip.length cc3] ∧ Sl wx wx.heap.size 1 CI Ac3 ct3.grip from fun wx h => ⟨qa.below h qa.lt, (HSC3.out.below (hba.trans (h.mono hba.size))).more (fun _ _ h => h) (Nat.le_trans hba.size h.size)⟩)
                  have HYR_12 := Lib.hid (Below.refl w13.heap.size w13)
                  clear hba qa
                  clear e f g yP yQ
                  obtain ⟨z1, z2, z3, _⟩ := HK.out _ HX12.out
                  have e := z1.cell; have f := z2.cell; have g := z3.cell
                  clear z1 z2 z3
                  have yP := (HQP.out _ HYP_12.out).1.cell
                  have yQ := (HQQ.out _ HYQ_12.out).1.cell
                  have yR := (HQR.out _ HYR_12.out).1.cell
                  have HLN := Lib.hid (show ct1.grip.length ≤ 20 ∧ ct3.grip.length ≤ 20 from by
                    have h1 := of_decide_eq_true HSS.out.1
                    rw [← HE1.out.1, ← HE3.out.1]
                    exact ⟨cplT_len a b (by have := HN.out.1; omega), cplT_len b d (by have := HN.out.2.1; omega)⟩)
                  have HSM := Lib.hid (show ∀ wx, Sl wx wx.heap.size 1 CI Ac1 ct1.grip → Sl wx wx.heap.size 1 CI Ac2 ct1.grip → Calls Tryz.prog 18 #[.agg #[.int .i64 ct1.mass, .int .i64 ct1.len, .int .i64 ct1.speed, .int .i64 ct1.effort, .int .i64 ct1.brake, .int .i64 ct1.power, .int .i64 ct1.resist, .int .i64 ct1.rise, .int .i64 ct1.back, .slice Ac1 ct1.grip.length cc1], .agg #[.int .i64 ct1.mass, .int .i64 ct1.len, .int .i64 ct1.speed, .int .i64 ct1.effort, .int .i64 ct1.brake, .int .i64 ct1.power, .int .i64 ct1.resist, .int .i64 ct1.rise, .int .i64 ct1.back, .slice Ac2 ct1.grip.length cc2]] wx fun e w' => e = .returned (.bool true) ∧ Below wx.heap.size wx w' from fun wx h1 h2 => by
                    have := rSame_any Ac1 Ac2 cc1 ct1.grip.length cc2 ct1.grip.length ct1 ct1 wx rfl rfl (by have := HLN.out.1; omega) (by have := HLN.out.1; omega) h1 h2
                    rwa [sameB_refl] at this)
                  have hbe : (ce1 == ce1) = true := by rw [beq_iff_eq]
                  go_wp2_with fail
                  (with_reducible refine (HSM.out _ (HQP.out _ HYP_12.out).2 (HQQ.out _ HYQ_12.out).2).mono ?_)
                  rintro e w14 ⟨rfl, hb⟩
                  have HX13 := Lib.hid (HX12.out.trans (hb.mono HX12.out.size))
                  have HYP_13 := Lib.hid (HYP_12.out.trans (hb.mono HYP_12.out.size))
                  have HYQ_13 := Lib.hid (HYQ_12.out.trans (hb.mono HYQ_12.out.size))
                  have HYR_13 := Lib.hid (HYR_12.out.trans (hb.mono HYR_12.out.size))
                  clear hb
                  clear e f g yP yQ yR
                  obtain ⟨z1, z2, z3, _⟩ := HK.out _ HX13.out
                  have e := z1.cell; have f := z2.cell; have g := z3.cell
                  clear z1 z2 z3
                  have yP := (HQP.out _ HYP_13.out).1.cell
                  have yQ := (HQQ.out _ HYQ_13.out).1.cell
                  have yR := (HQR.out _ HYR_13.out).1.cell
                  clear hbe
                  by_cases h0 : ce1 = 0
                  · subst h0
                    by_cases h3 : ce3 = 0
                    · subst h3
                      obtain ⟨as1, as2⟩ := cpl_assoc HE1.out.2 HE3.out.2
                      rw [HE1.out.1, HE3.out.1] at as1 as2
                      obtain ⟨ct4, hct4⟩ : ∃ t, cplT ct1 d = t := ⟨_, rfl⟩
                      obtain ⟨ce4, hce4⟩ : ∃ t, cplE ct1 d = t := ⟨_, rfl⟩
                      rw [hct4] at as2
                      rw [hce4] at as1
                      have HCP4 := Lib.hid (show ∀ wx, Below W1.heap.size W1 wx → Sl wx wx.heap.size 1 CI Ac1 ct1.grip → Calls Tryz.prog 15 #[.agg #[.int .i64 ct1.mass, .int .i64 ct1.len, .int .i64 ct1.speed, .int .i64 ct1.effort, .int .i64 ct1.brake, .int .i64 ct1.power, .int .i64 ct1.resist, .int .i64 ct1.rise, .int .i64 ct1.back, .slice Ac1 ct1.grip.length cc1], .agg #[.int .i64 d.mass, .int .i64 d.len, .int .i64 d.speed, .int .i64 d.effort, .int .i64 d.brake, .int .i64 d.power, .int .i64 d.resist, .int .i64 d.rise, .int .i64 d.back, .slice A3 n c3]] wx fun e w' => ∃ Ac4 cc4, e = .returned (.tuple #[.agg #[.int .i64 ct4.mass, .int .i64 ct4.len, .int .i64 ct4.speed, .int .i64 ct4.effort, .int .i64 ct4.brake, .int .i64 ct4.power, .int .i64 ct4.resist, .int .i64 ct4.rise, .int .i64 ct4.back, .slice Ac4 ct4.grip.length cc4], .int .i64 ce4]) ∧ Sl w' w'.heap.size 1 CI Ac4 ct4.grip ∧ Below wx.heap.size wx w' from fun wx h h1 => by
                        have := Couple_any Ac1 A3 cc1 c3 ct1.grip.length n ct1 d wx rfl HN.out.2.2 (by have := HLN.out.1; omega) (by omega) h1 (HK.out wx h).2.2.2.2.2
                        unfold CplPost at this
                        rwa [hct4, hce4] at this)
                      have HCP5 := Lib.hid (show ∀ wx, Below W1.heap.size W1 wx → Sl wx wx.heap.size 1 CI Ac3 ct3.grip → Calls Tryz.prog 15 #[.agg #[.int .i64 a.mass, .int .i64 a.len, .int .i64 a.speed, .int .i64 a.effort, .int .i64 a.brake, .int .i64 a.power, .int .i64 a.resist, .int .i64 a.rise, .int .i64 a.back, .slice A n c], .agg #[.int .i64 ct3.mass, .int .i64 ct3.len, .int .i64 ct3.speed, .int .i64 ct3.effort, .int .i64 ct3.brake, .int .i64 ct3.power, .int .i64 ct3.resist, .int .i64 ct3.rise, .int .i64 ct3.back, .slice Ac3 ct3.grip.length cc3]] wx fun e w' => ∃ Ac5 cc5, e = .returned (.tuple #[.agg #[.int .i64 ct4.mass, .int .i64 ct4.len, .int .i64 ct4.speed, .int .i64 ct4.effort, .int .i64 ct4.brake, .int .i64 ct4.power, .int .i64 ct4.resist, .int .i64 ct4.rise, .int .i64 ct4.back, .slice Ac5 ct4.grip.length cc5], .int .i64 ce4]) ∧ Sl w' w'.heap.size 1 CI Ac5 ct4.grip ∧ Below wx.heap.size wx w' from fun wx h h1 => by
                        have := Couple_any A Ac3 c cc3 n ct3.grip.length a ct3 wx HN.out.1 rfl (by omega) (by have := HLN.out.2; omega) (HK.out wx h).2.2.2.1 h1
                        unfold CplPost at this
                        rwa [← as2, ← as1] at this)
                      have HL4 := Lib.hid (show ct4.grip.length ≤ 20 from by rw [← hct4]; exact cplT_len ct1 d HLN.out.1)
                      clear as1 as2 hct4 hce4
                      go_wp2_with fail
                      (with_reducible refine (HCP4.out _ HX13.out (HQP.out _ HYP_13.out).2).mono ?_)
                      rintro e w15 ⟨Ac4, cc4, rfl, hsc, hb⟩
                      have HX14 := Lib.hid (HX13.out.trans (hb.mono HX13.out.size))
                      have HYP_14 := Lib.hid (HYP_13.out.trans (hb.mono HYP_13.out.size))
                      have HYQ_14 := Lib.hid (HYQ_13.out.trans (hb.mono HYQ_13.out.size))
                      have HYR_14 := Lib.hid (HYR_13.out.trans (hb.mono HYR_13.out.size))
                      have HSC4 := Lib.hid hsc
                      clear hsc
                      clear hb
                      clear e f g yP yQ yR
                      obtain ⟨z1, z2, z3, _⟩ := HK.out _ HX14.out
                      have e := z1.cell; have f := z2.cell; have g := z3.cell
                      clear z1 z2 z3
                      have yP := (HQP.out _ HYP_14.out).1.cell
                      have yQ := (HQQ.out _ HYQ_14.out).1.cell
                      have yR := (HQR.out _ HYR_14.out).1.cell
                      go_upto_region 11 with (fail)
                      have hba := (Below.refl w15.heap.size w15).alloc (Nat.le_refl _) (.cells #[.int .i64 ct4.mass, .int .i64 ct4.len, .int .i64 ct4.speed, .int .i64 ct4.effort, .int .i64 ct4.brake, .int .i64 ct4.power, .int .i64 ct4.resist, .int .i64 ct4.rise, .int .i64 ct4.back, .slice Ac4 ct4.grip.length cc4] 24)
                      have qa := Rw.new w15 #[.int .i64 ct4.mass, .int .i64 ct4.len, .int .i64 ct4.speed, .int .i64 ct4.effort, .int .i64 ct4.brake, .int .i64 ct4.power, .int .i64 ct4.resist, .int .i64 ct4.rise, .int .i64 ct4.back, .slice Ac4 ct4.grip.length cc4] 24
                      obtain ⟨w16, hwa⟩ : ∃ z, w15.alloc (.cells #[.int .i64 ct4.mass, .int .i64 ct4.len, .int .i64 ct4.speed, .int .i64 ct4.effort, .int .i64 ct4.brake, .int .i64 ct4.power, .int .i64 ct4.resist, .int .i64 ct4.rise, .int .i64 ct4.back, .slice Ac4 ct4.grip.length cc4] 24) = z := ⟨_, rfl⟩
                      rw [hwa] at hba qa ⊢
                      clear hwa
                      obtain ⟨MS, hM⟩ : ∃ n, w15.heap.size = n := ⟨_, rfl⟩
                      rw [hM] at qa ⊢
                      clear hM
                      have HX15 := Lib.hid (HX14.out.trans (hba.mono HX14.out.size))
                      have HYP_15 := Lib.hid (HYP_14.out.trans (hba.mono HYP_14.out.size))
                      have HYQ_15 := Lib.hid (HYQ_14.out.trans (hba.mono HYQ_14.out.size))
                      have HYR_15 := Lib.hid (HYR_14.out.trans (hba.mono HYR_14.out.size))
                      have HQS := Lib.hid (show ∀ wx, Below w16.heap.size w16 wx → Rw wx MS 24 #[.int .i64 ct4.mass, .int .i64 ct4.len, .int .i64 ct4.speed, .int .i64 ct4.effort, .int .i64 ct4.brake, .int .i64 ct4.power, .int .i64 ct4.resist, .int .i64 ct4.rise, .int .i64 ct4.back, .slice Ac4 ct4.grip.length cc4] ∧ Sl wx wx.heap.size 1 CI Ac4 ct4.grip from fun wx h => ⟨qa.below h qa.lt, (HSC4.out.below (hba.trans (h.mono hba.size))).more (fun _ _ h => h) (Nat.le_trans hba.size h.size)⟩)
                      have HYS_15 := Lib.hid (Below.refl w16.heap.size w16)
                      clear hba qa
                      clear e f g yP yQ yR
                      obtain ⟨z1, z2, z3, _⟩ := HK.out _ HX15.out
                      have e := z1.cell; have f := z2.cell; have g := z3.cell
                      clear z1 z2 z3
                      have yP := (HQP.out _ HYP_15.out).1.cell
                      have yQ := (HQQ.out _ HYQ_15.out).1.cell
                      have yR := (HQR.out _ HYR_15.out).1.cell
                      have yS := (HQS.out _ HYS_15.out).1.cell
                      go_wp2_with fail
                      (with_reducible refine (HCP5.out _ HX15.out (HQR.out _ HYR_15.out).2).mono ?_)
                      rintro e w17 ⟨Ac5, cc5, rfl, hsc, hb⟩
                      have HX16 := Lib.hid (HX15.out.trans (hb.mono HX15.out.size))
                      have HYP_16 := Lib.hid (HYP_15.out.trans (hb.mono HYP_15.out.size))
                      have HYQ_16 := Lib.hid (HYQ_15.out.trans (hb.mono HYQ_15.out.size))
                      have HYR_16 := Lib.hid (HYR_15.out.trans (hb.mono HYR_15.out.size))
                      have HYS_16 := Lib.hid (HYS_15.out.trans (hb.mono HYS_15.out.size))
                      have HSC5 := Lib.hid hsc
                      clear hsc
                      clear hb
                      clear e f g yP yQ yR yS
                      obtain ⟨z1, z2, z3, _⟩ := HK.out _ HX16.out
                      have e := z1.cell; have f := z2.cell; have g := z3.cell
                      clear z1 z2 z3
                      have yP := (HQP.out _ HYP_16.out).1.cell
                      have yQ := (HQQ.out _ HYQ_16.out).1.cell
                      have yR := (HQR.out _ HYR_16.out).1.cell
                      have yS := (HQS.out _ HYS_16.out).1.cell
                      go_upto_region 12 with (fail)
                      have hba := (Below.refl w17.heap.size w17).alloc (Nat.le_refl _) (.cells #[.int .i64 ct4.mass, .int .i64 ct4.len, .int .i64 ct4.speed, .int .i64 ct4.effort, .int .i64 ct4.brake, .int .i64 ct4.power, .int .i64 ct4.resist, .int .i64 ct4.rise, .int .i64 ct4.back, .slice Ac5 ct4.grip.length cc5] 24)
                      have qa := Rw.new w17 #[.int .i64 ct4.mass, .int .i64 ct4.len, .int .i64 ct4.speed, .int .i64 ct4.effort, .int .i64 ct4.brake, .int .i64 ct4.power, .int .i64 ct4.resist, .int .i64 ct4.rise, .int .i64 ct4.back, .slice Ac5 ct4.grip.length cc5] 24
                      obtain ⟨w18, hwa⟩ : ∃ z, w17.alloc (.cells #[.int .i64 ct4.mass, .int .i64 ct4.len, .int .i64 ct4.speed, .int .i64 ct4.effort, .int .i64 ct4.brake, .int .i64 ct4.power, .int .i64 ct4.resist, .int .i64 ct4.rise, .int .i64 ct4.back, .slice Ac5 ct4.grip.length cc5] 24) = z := ⟨_, rfl⟩
                      rw [hwa] at hba qa ⊢
                      clear hwa
                      obtain ⟨MU, hM⟩ : ∃ n, w17.heap.size = n := ⟨_, rfl⟩
                      rw [hM] at qa ⊢
                      clear hM
                      have HX17 := Lib.hid (HX16.out.trans (hba.mono HX16.out.size))
                      have HYP_17 := Lib.hid (HYP_16.out.trans (hba.mono HYP_16.out.size))
                      have HYQ_17 := Lib.hid (HYQ_16.out.trans (hba.mono HYQ_16.out.size))
                      have HYR_17 := Lib.hid (HYR_16.out.trans (hba.mono HYR_16.out.size))
                      have HYS_17 := Lib.hid (HYS_16.out.trans (hba.mono HYS_16.out.size))
                      have HQU := Lib.hid (show ∀ wx, Below w18.heap.size w18 wx → Rw wx MU 24 #[.int .i64 ct4.mass, .int .i64 ct4.len, .int .i64 ct4.speed, .int .i64 ct4.effort, .int .i64 ct4.brake, .int .i64 ct4.power, .int .i64 ct4.resist, .int .i64 ct4.rise, .int .i64 ct4.back, .slice Ac5 ct4.grip.length cc5] ∧ Sl wx wx.heap.size 1 CI Ac5 ct4.grip from fun wx h => ⟨qa.below h qa.lt, (HSC5.out.below (hba.trans (h.mono hba.size))).more (fun _ _ h => h) (Nat.le_trans hba.size h.size)⟩)
                      have HYU_17 := Lib.hid (Below.refl w18.heap.size w18)
                      clear hba qa
                      clear e f g yP yQ yR yS
                      obtain ⟨z1, z2, z3, _⟩ := HK.out _ HX17.out
                      have e := z1.cell; have f := z2.cell; have g := z3.cell
                      clear z1 z2 z3
                      have yP := (HQP.out _ HYP_17.out).1.cell
                      have yQ := (HQQ.out _ HYQ_17.out).1.cell
                      have yR := (HQR.out _ HYR_17.out).1.cell
                      have yS := (HQS.out _ HYS_17.out).1.cell
                      have yU := (HQU.out _ HYU_17.out).1.cell
                      have HSN := Lib.hid (show ∀ wx, Sl wx wx.heap.size 1 CI Ac4 ct4.grip → Sl wx wx.heap.size 1 CI Ac5 ct4.grip → Calls Tryz.prog 18 #[.agg #[.int .i64 ct4.mass, .int .i64 ct4.len, .int .i64 ct4.speed, .int .i64 ct4.effort, .int .i64 ct4.brake, .int .i64 ct4.power, .int .i64 ct4.resist, .int .i64 ct4.rise, .int .i64 ct4.back, .slice Ac4 ct4.grip.length cc4], .agg #[.int .i64 ct4.mass, .int .i64 ct4.len, .int .i64 ct4.speed, .int .i64 ct4.effort, .int .i64 ct4.brake, .int .i64 ct4.power, .int .i64 ct4.resist, .int .i64 ct4.rise, .int .i64 ct4.back, .slice Ac5 ct4.grip.length cc5]] wx fun e w' => e = .returned (.bool true) ∧ Below wx.heap.size wx w' from fun wx h1 h2 => by
                        have := rSame_any Ac4 Ac5 cc4 ct4.grip.length cc5 ct4.grip.length ct4 ct4 wx rfl rfl (by have := HL4.out; omega) (by have := HL4.out; omega) h1 h2
                        rwa [sameB_refl] at this)
                      have hbe : (ce4 == ce4) = true := by rw [beq_iff_eq]
                      go_wp2_with fail
                      (with_reducible refine (HSN.out _ (HQS.out _ HYS_17.out).2 (HQU.out _ HYU_17.out).2).mono ?_)
                      rintro e w19 ⟨rfl, hb⟩
                      have HX18 := Lib.hid (HX17.out.trans (hb.mono HX17.out.size))
                      have HYP_18 := Lib.hid (HYP_17.out.trans (hb.mono HYP_17.out.size))
                      have HYQ_18 := Lib.hid (HYQ_17.out.trans (hb.mono HYQ_17.out.size))
                      have HYR_18 := Lib.hid (HYR_17.out.trans (hb.mono HYR_17.out.size))
                      have HYS_18 := Lib.hid (HYS_17.out.trans (hb.mono HYS_17.out.size))
                      have HYU_18 := Lib.hid (HYU_17.out.trans (hb.mono HYU_17.out.size))
                      clear hb
                      clear e f g yP yQ yR yS yU
                      obtain ⟨z1, z2, z3, _⟩ := HK.out _ HX18.out
                      have e := z1.cell; have f := z2.cell; have g := z3.cell
                      clear z1 z2 z3
                      have yP := (HQP.out _ HYP_18.out).1.cell
                      have yQ := (HQQ.out _ HYQ_18.out).1.cell
                      have yR := (HQR.out _ HYR_18.out).1.cell
                      have yS := (HQS.out _ HYS_18.out).1.cell
                      have yU := (HQU.out _ HYU_18.out).1.cell
                      go_wp2_with fail
                      (with_reducible refine (HKN.out _ HX18.out).mono ?_)
                      rintro e w20 ⟨rfl, hb⟩
                      have HX19 := Lib.hid (HX18.out.trans (hb.mono HX18.out.size))
                      have HYP_19 := Lib.hid (HYP_18.out.trans (hb.mono HYP_18.out.size))
                      have HYQ_19 := Lib.hid (HYQ_18.out.trans (hb.mono HYQ_18.out.size))
                      have HYR_19 := Lib.hid (HYR_18.out.trans (hb.mono HYR_18.out.size))
                      have HYS_19 := Lib.hid (HYS_18.out.trans (hb.mono HYS_18.out.size))
                      have HYU_19 := Lib.hid (HYU_18.out.trans (hb.mono HYU_18.out.size))
                      clear hb
                      go_wp2
                      go_ret
                      exact ⟨by rfl, HB1.out.trans (HX19.out.mono HB1.out.size)⟩
                    · have hn0 : (ce3 == 0) = false := by rw [beq_eq_false_iff_ne]; exact h3
                      clear h3
                      go_wp2_with fail
                      (with_reducible refine (HKN.out _ HX13.out).mono ?_)
                      rintro e w15 ⟨rfl, hb⟩
                      have HX14 := Lib.hid (HX13.out.trans (hb.mono HX13.out.size))
                      have HYP_14 := Lib.hid (HYP_13.out.trans (hb.mono HYP_13.out.size))
                      have HYQ_14 := Lib.hid (HYQ_13.out.trans (hb.mono HYQ_13.out.size))
                      have HYR_14 := Lib.hid (HYR_13.out.trans (hb.mono HYR_13.out.size))
                      clear hb
                      go_wp2
                      go_ret
                      exact ⟨by rfl, HB1.out.trans (HX14.out.mono HB1.out.size)⟩
                  · have hn0 : (ce1 == 0) = false := by rw [beq_eq_false_iff_ne]; exact h0
                    clear h0
                    go_wp2_with fail
                    (with_reducible refine (HKN.out _ HX13.out).mono ?_)
                    rintro e w15 ⟨rfl, hb⟩
                    have HX14 := Lib.hid (HX13.out.trans (hb.mono HX13.out.size))
                    have HYP_14 := Lib.hid (HYP_13.out.trans (hb.mono HYP_13.out.size))
                    have HYQ_14 := Lib.hid (HYQ_13.out.trans (hb.mono HYQ_13.out.size))
                    have HYR_14 := Lib.hid (HYR_13.out.trans (hb.mono HYR_13.out.size))
                    clear hb
                    go_wp2
                    go_ret
                    exact ⟨by rfl, HB1.out.trans (HX14.out.mono HB1.out.size)⟩
                · have hnb : ((n : Int) == (n3 : Int)) = false := by rw [beq_eq_false_iff_ne]; omega
                  clear h23
                  go_wp2_with fail
                  (with_reducible refine (HKN.out _ HX6.out).mono ?_)
                  rintro e w8 ⟨rfl, hb⟩
                  have HX7 := Lib.hid (HX6.out.trans (hb.mono HX6.out.size))
                  clear hb
                  go_wp2
                  go_ret
                  exact ⟨by rfl, HB1.out.trans (HX7.out.mono HB1.out.size)⟩
              · have hnb : ((n : Int) == (n2 : Int)) = false := by rw [beq_eq_false_iff_ne]; omega
                clear h12
                go_wp2_with fail
                (with_reducible refine (HKN.out _ HX6.out).mono ?_)
                rintro e w8 ⟨rfl, hb⟩
                have HX7 := Lib.hid (HX6.out.trans (hb.mono HX6.out.size))
                clear hb
                go_wp2
                go_ret
                exact ⟨by rfl, HB1.out.trans (HX7.out.mono HB1.out.size)⟩
end Go.Proofs.YtfhkbbjddjddmaaGreat
