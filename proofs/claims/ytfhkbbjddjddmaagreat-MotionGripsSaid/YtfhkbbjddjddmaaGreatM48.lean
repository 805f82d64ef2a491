/- Law: MotionGrips, where it compares. -/
import Derived.Test.YtfhkbbjddjddmaaGreatM49
namespace Go.Proofs.YtfhkbbjddjddmaaGreat
set_option linter.unusedVariables false
set_option linter.unusedSimpArgs false
open Go.RowKit

set_option maxRecDepth 100000 in
set_option maxHeartbeats 4000000 in
theorem MotionGrips_m (A : Option Addr) (c : Nat) (t : Tr) (m less sl more add g : Int) (w : World) (hg : t.grip = [g]) (hS : Sl w w.heap.size 1 CI A t.grip) (hl0 : 0 ≤ less) (hl : less ≤ 9223372036854775807) (hm0 : 0 ≤ more) (hm2 : more ≤ 240) (ha0 : 0 ≤ add) (ha1 : add ≤ 1000) (hr : t.rise = 0) :
    Calls Tryz.prog 10 #[.agg #[.int .i64 t.mass, .int .i64 t.len, .int .i64 t.speed, .int .i64 t.effort, .int .i64 t.brake, .int .i64 t.power, .int .i64 t.resist, .int .i64 t.rise, .int .i64 t.back, .slice A 1 c], .int .i64 m, .int .i64 less, .int .i64 sl, .int .i64 more, .int .i64 add] w fun e w' => e = .returned (.bool true) ∧ Below w.heap.size w w' := by
  have hn : t.grip.length = 1 := by rw [hg]; rfl
  have HR := Lib.hid hr
  rw [hr]
  obtain ⟨b, o, rfl, hb0, c00⟩ := int_at hS (i := 0) (by omega)
  have hb1 := (Below.refl w.heap.size w).alloc (Nat.le_refl _) (.cells #[.int .i64 t.mass, .int .i64 t.len, .int .i64 t.speed, .int .i64 t.effort, .int .i64 t.brake, .int .i64 t.power, .int .i64 t.resist, .int .i64 0, .int .i64 t.back, .slice (some ⟨b, o, none⟩) 1 c] 24)
  have q1 := Rw.new w #[.int .i64 t.mass, .int .i64 t.len, .int .i64 t.speed, .int .i64 t.effort, .int .i64 t.brake, .int .i64 t.power, .int .i64 t.resist, .int .i64 0, .int .i64 t.back, .slice (some ⟨b, o, none⟩) 1 c] 24
  obtain ⟨W1, hW1⟩ : ∃ z, w.alloc (.cells #[.int .i64 t.mass, .int .i64 t.len, .int .i64 t.speed, .int .i64 t.effort, .int .i64 t.brake, .int .i64 t.power, .int .i64 t.resist, .int .i64 0, .int .i64 t.back, .slice (some ⟨b, o, none⟩) 1 c] 24) = z := ⟨_, rfl⟩
  rw [hW1] at hb1 q1
  obtain ⟨N, hN⟩ : ∃ n, w.heap.size = n := ⟨_, rfl⟩
  rw [hN] at q1
  have HB1 := Lib.hid hb1
  have HK := Lib.hid (show ∀ wx, Below W1.heap.size W1 wx → Rw wx N 24 #[.int .i64 t.mass, .int .i64 t.len, .int .i64 t.speed, .int .i64 t.effort, .int .i64 t.brake, .int .i64 t.power, .int .i64 t.resist, .int .i64 0, .int .i64 t.back, .slice (some ⟨b, o, none⟩) 1 c] ∧ Sl wx wx.heap.size 1 CI (some ⟨b, o, none⟩) t.grip from fun wx h => ⟨q1.below h q1.lt, (hS.below (hb1.trans (h.mono hb1.size))).more (fun _ _ h => h) (Nat.le_trans hb1.size h.size)⟩)
  have HKN := Lib.hid (show ∀ wx : World, Calls Tryz.prog 14 #[] wx fun e w' => e = .returned (.bool true) ∧ Below wx.heap.size wx w' from fun wx => known_any wx)
  have c0 := (hb1.cell (p := ⟨b, o + 0, none⟩) (by first | exact hb0 | (rw [← hN]; exact hb0))).trans c00
  have hb : b < W1.heap.size := by have := hb1.size; omega
  simp only [hg, List.getElem_cons_zero, Nat.add_zero] at c0
  have g1 : ¬ less < 0 := by omega
  have g2 : ¬ more < 0 := by omega
  have g3 : ¬ add < 0 := by omega
  have g4 : ¬ 1000 < add := by omega
  have g6 : ¬ 240 < more := by omega
  have e0 := q1.cell 0; have e1 := q1.cell 1; have e2 := q1.cell 2; have e3 := q1.cell 3; have e4 := q1.cell 4; have e5 := q1.cell 5; have e6 := q1.cell 6; have e7 := q1.cell 7; have e8 := q1.cell 8; have e9 := q1.cell 9
  have HG := Lib.hid hg; have HNN := Lib.hid hn
  have HBD := Lib.hid (And.intro hl0 (And.intro hl (And.intro hm0 (And.intro hm2 (And.intro ha0 ha1)))))
  clear hb1 q1 hS hr hg hn hb0 c00 hl0 hl hm0 hm2 ha0 ha1
  go_enter Tryz.func10, Tryz.ntmps10
  go_upto_region 3 with (fail)
  clear hW1 hN g1 g2 g3 g4 g6
  go_upto_region 4 with (fail)
  have hb2 := (Below.refl W1.heap.size W1).alloc (Nat.le_refl _) (.cells #[.int .i64 t.mass, .int .i64 t.len, .int .i64 t.speed, .int .i64 t.effort, .int .i64 t.brake, .int .i64 t.power, .int .i64 t.resist, .int .i64 0, .int .i64 t.back, .slice (some ⟨b, o, none⟩) 1 c] 24)
  have q2 := Rw.new W1 #[.int .i64 t.mass, .int .i64 t.len, .int .i64 t.speed, .int .i64 t.effort, .int .i64 t.brake, .int .i64 t.power, .int .i64 t.resist, .int .i64 0, .int .i64 t.back, .slice (some ⟨b, o, none⟩) 1 c] 24
  have hz2 : (W1.alloc (.cells #[.int .i64 t.mass, .int .i64 t.len, .int .i64 t.speed, .int .i64 t.effort, .int .i64 t.brake, .int .i64 t.power, .int .i64 t.resist, .int .i64 0, .int .i64 t.back, .slice (some ⟨b, o, none⟩) 1 c] 24)).heap.size = W1.heap.size + 1 := by simp
  obtain ⟨W2, hW2⟩ : ∃ z, W1.alloc (.cells #[.int .i64 t.mass, .int .i64 t.len, .int .i64 t.speed, .int .i64 t.effort, .int .i64 t.brake, .int .i64 t.power, .int .i64 t.resist, .int .i64 0, .int .i64 t.back, .slice (some ⟨b, o, none⟩) 1 c] 24) = z := ⟨_, rfl⟩
  rw [hW2] at hb2 q2 hz2 ⊢
  obtain ⟨B, hB⟩ : ∃ n, W1.heap.size = n := ⟨_, rfl⟩
  rw [hB] at q2 hz2 hb2 hb ⊢
  clear hW2 e0 e1 e2 e3 e4 e5 e6 e7 e8 e9
  have r1 := (HK.out W2 (by rw [hB]; exact hb2)).1
  have e9 := r1.cell 9
  have c2 : W2.cell? ⟨b, o, none⟩ = some (.int .i64 g) := (hb2.cell (p := ⟨b, o, none⟩) hb).trans c0
  obtain ⟨ga, hga⟩ : ∃ z, IntKind.i64.wrap (g + add) = z := ⟨_, rfl⟩
  have HGA := Lib.hid hga
  have hb3 := (Below.refl W2.heap.size W2).alloc (Nat.le_refl _) (.cells #[.int .i64 (min 1000 ga)] 3)
  have q3 := Rw.new W2 #[.int .i64 (min 1000 ga)] 3
  have q4 : Rw (W2.alloc (.cells #[.int .i64 (min 1000 ga)] 3)) B 24 #[.int .i64 t.mass, .int .i64 t.len, .int .i64 t.speed, .int .i64 t.effort, .int .i64 t.brake, .int .i64 t.power, .int .i64 t.resist, .int .i64 0, .int .i64 t.back, .slice (some ⟨b, o, none⟩) 1 c] := q2.below hb3 (by omega)
  rw [hz2] at q3
  have k9 := q4.cell 9; have z9 := q4.frozen 9
  have hbA := hb2.trans (hb3.mono (by omega))
  have HB2 := Lib.hid hb2; have HQ2 := Lib.hid q2; have HB3 := Lib.hid hbA; have HQ3 := Lib.hid (And.intro q3 q4); have HBB := Lib.hid hB
  clear hb2 hb3 q2 q3 q4 r1 c0 hbA
  go_upto_region 5 with (fail)
  have hs2 : (W2.setCell ⟨B, 9, none⟩ (.slice (some ⟨B + 1, 0, none⟩) 1 1)).heap.size = B + 1 := by rw [World.size_setCell]; exact hz2
  have p2s : Rw (W2.setCell ⟨B, 9, none⟩ (.slice (some ⟨B + 1, 0, none⟩) 1 1)) B 24 #[.int .i64 t.mass, .int .i64 t.len, .int .i64 t.speed, .int .i64 t.effort, .int .i64 t.brake, .int .i64 t.power, .int .i64 t.resist, .int .i64 0, .int .i64 t.back, .slice (some ⟨B + 1, 0, none⟩) 1 1] := HQ2.out.set 9 (.slice (some ⟨B + 1, 0, none⟩) 1 1)
  have hbS : Below B W1 (W2.setCell ⟨B, 9, none⟩ (.slice (some ⟨B + 1, 0, none⟩) 1 1)) := HB2.out.setCell (Nat.le_refl B) _
  have p1 := Rw.new (W2.setCell ⟨B, 9, none⟩ (.slice (some ⟨B + 1, 0, none⟩) 1 1)) #[.int .i64 (min 1000 ga)] 3
  have hb3 := (Below.refl (B + 1) (W2.setCell ⟨B, 9, none⟩ (.slice (some ⟨B + 1, 0, none⟩) 1 1))).alloc (by omega) (.cells #[.int .i64 (min 1000 ga)] 3)
  have p2 := p2s.below hb3 (by omega)
  have hbB := hbS.trans (hb3.mono (by omega))
  have hzB : ((W2.setCell ⟨B, 9, none⟩ (.slice (some ⟨B + 1, 0, none⟩) 1 1)).alloc (.cells #[.int .i64 (min 1000 ga)] 3)).heap.size = B + 2 := by simp; omega
  rw [hs2] at p1
  clear hs2 p2s hbS hb3
  obtain ⟨W3, hW3⟩ : ∃ z, (W2.setCell ⟨B, 9, none⟩ (.slice (some ⟨B + 1, 0, none⟩) 1 1)).alloc (.cells #[.int .i64 (min 1000 ga)] 3) = z := ⟨_, rfl⟩
  rw [hW3] at p1 p2 hbB hzB ⊢
  clear hW3 k9 z9 e9 c2 hz2
  have HP := Lib.hid (And.intro p1 (And.intro p2 (And.intro hbB hzB)))
  clear p1 p2 hbB hzB
  go_upto_region 6 with (fail)
  have q5 := Rw.new W3 #[.int .i64 m, .int .i64 0] 35
  have hb5 := (Below.refl W3.heap.size W3).alloc (Nat.le_refl _) (.cells #[.int .i64 m, .int .i64 0] 35)
  obtain ⟨p1, p2, hbB, hzB⟩ := HP.out
  obtain ⟨W4, hW4⟩ : ∃ z, W3.alloc (.cells #[.int .i64 m, .int .i64 0] 35) = z := ⟨_, rfl⟩
  rw [hW4] at q5 hb5 ⊢
  rw [hzB] at q5 ⊢
  have hb14 : Below W1.heap.size W1 W4 := by rw [HBB.out]; exact hbB.trans (hb5.mono (by omega))
  have HX0 := Lib.hid hb14
  have HY0 := Lib.hid (Below.refl W4.heap.size W4)
  have p1' := p1.below hb5 (by omega)
  have p2' := p2.below hb5 (by omega)
  have HR4 := Lib.hid (show ∀ wx, Below W4.heap.size W4 wx → Rw wx B 24 #[.int .i64 t.mass, .int .i64 t.len, .int .i64 t.speed, .int .i64 t.effort, .int .i64 t.brake, .int .i64 t.power, .int .i64 t.resist, .int .i64 0, .int .i64 t.back, .slice (some ⟨B + 1, 0, none⟩) 1 1] ∧ Rw wx (B + 2) 35 #[.int .i64 m, .int .i64 0] ∧ Sl wx wx.heap.size 1 CI (some ⟨B + 1, 0, none⟩) [min 1000 ga] from fun wx h => ⟨p2'.below h p2'.lt, q5.below h q5.lt, by
    have hr := p1'.below h p1'.lt
    exact Sl.blk hr hr.lt fun i x hx => by
      rcases i with _ | i
      · obtain rfl : _ = x := by simpa using hx
        exact ⟨_, rfl, fun j u hu => by rcases j with _ | j <;> simp_all⟩
      · simp at hx⟩)
  clear q5 hb5 p1 p2 hbB hzB hW4 hb14 p1' p2'
  obtain ⟨r1, _⟩ := HK.out _ HX0.out
  obtain ⟨r2, r3, _⟩ := HR4.out _ HY0.out
  have e0 := r1.cell 0; have e1 := r1.cell 1; have e2 := r1.cell 2; have e3 := r1.cell 3; have e4 := r1.cell 4; have e5 := r1.cell 5; have e6 := r1.cell 6; have e7 := r1.cell 7; have e8 := r1.cell 8; have e9 := r1.cell 9; have k0 := r2.cell 0; have k1 := r2.cell 1; have k2 := r2.cell 2; have k3 := r2.cell 3; have k4 := r2.cell 4; have k5 := r2.cell 5; have k6 := r2.cell 6; have k7 := r2.cell 7; have k8 := r2.cell 8; have k9 := r2.cell 9; have f0 := r3.cell 0; have f1 := r3.cell 1
  clear r1 r2 r3
  have HKM := Lib.hid (show ∀ wx, Below W1.heap.size W1 wx → Below W4.heap.size W4 wx → Calls Tryz.prog 14 #[] wx fun e w' => e = .returned (.bool true) ∧ Below wx.heap.size wx w' from fun wx _ _ => HKN.out wx)
  obtain ⟨b1, hv1⟩ : ∃ v, brkB t m 0 sl 0 = v := ⟨_, rfl⟩
  obtain ⟨b2, hv2⟩ : ∃ v, brkB t m 0 (sl + more) 0 = v := ⟨_, rfl⟩
  have HF1 := Lib.hid (show ∀ wx, Below W1.heap.size W1 wx → Below W4.heap.size W4 wx → Calls Tryz.prog 22 #[.agg #[.int .i64 t.mass, .int .i64 t.len, .int .i64 t.speed, .int .i64 t.effort, .int .i64 t.brake, .int .i64 t.power, .int .i64 t.resist, .int .i64 0, .int .i64 t.back, .slice (some ⟨b, o, none⟩) 1 c], .agg #[.int .i64 m, .int .i64 0], .int .i64 0, .int .i64 sl, .int .i64 0] wx fun e w' => e = .returned (.bool b1) ∧ Below wx.heap.size wx w' from fun wx h _ => by have := rFine_any (some ⟨b, o, none⟩) c 1 t m 0 0 sl 0 wx HNN.out (by omega) (HK.out wx h).2; rwa [brkB_fine t m 0 0 sl 0 (by omega) (by omega), hv1, HR.out] at this)
  have HF2 := Lib.hid (show ∀ wx, Below W1.heap.size W1 wx → Below W4.heap.size W4 wx → Calls Tryz.prog 22 #[.agg #[.int .i64 t.mass, .int .i64 t.len, .int .i64 t.speed, .int .i64 t.effort, .int .i64 t.brake, .int .i64 t.power, .int .i64 t.resist, .int .i64 0, .int .i64 t.back, .slice (some ⟨b, o, none⟩) 1 c], .agg #[.int .i64 m, .int .i64 0], .int .i64 0, .int .i64 (sl + more), .int .i64 0] wx fun e w' => e = .returned (.bool b2) ∧ Below wx.heap.size wx w' from fun wx h _ => by have := rFine_any (some ⟨b, o, none⟩) c 1 t m 0 0 (sl + more) 0 wx HNN.out (by omega) (HK.out wx h).2; rwa [brkB_fine t m 0 0 (sl + more) 0 (by omega) (by omega), hv2, HR.out] at this)
  have HBK := Lib.hid (show ∀ (m' sl' v e' : Int), brkR t m' 0 sl' 0 = v → brkE t m' 0 sl' 0 = e' → ∀ wx, Below W1.heap.size W1 wx → Below W4.heap.size W4 wx → Calls Tryz.prog 25 #[.agg #[.int .i64 t.mass, .int .i64 t.len, .int .i64 t.speed, .int .i64 t.effort, .int .i64 t.brake, .int .i64 t.power, .int .i64 t.resist, .int .i64 0, .int .i64 t.back, .slice (some ⟨b, o, none⟩) 1 c], .agg #[.int .i64 m', .int .i64 0], .int .i64 sl', .int .i64 0] wx fun e w' => e = .returned (.tuple #[.int .i64 v, .int .i64 e']) ∧ Below wx.heap.size wx w' from fun m' sl' v e' h1 h2 wx h _ => by have := Braking_any (some ⟨b, o, none⟩) c 1 t m' 0 sl' 0 wx HNN.out (by omega) (HK.out wx h).2; rwa [h1, h2, HR.out] at this)
  have HBT := Lib.hid (show ∀ (v e' : Int), brkR { t with grip := [min 1000 ga] } m 0 sl 0 = v → brkE { t with grip := [min 1000 ga] } m 0 sl 0 = e' → ∀ wx, Below W1.heap.size W1 wx → Below W4.heap.size W4 wx → Calls Tryz.prog 25 #[.agg #[.int .i64 t.mass, .int .i64 t.len, .int .i64 t.speed, .int .i64 t.effort, .int .i64 t.brake, .int .i64 t.power, .int .i64 t.resist, .int .i64 0, .int .i64 t.back, .slice (some ⟨B + 1, 0, none⟩) 1 1], .agg #[.int .i64 m, .int .i64 0], .int .i64 sl, .int .i64 0] wx fun e w' => e = .returned (.tuple #[.int .i64 v, .int .i64 e']) ∧ Below wx.heap.size wx w' from fun v e' h1 h2 wx _ h => by
    have h3 := Braking_any (some ⟨B + 1, 0, none⟩) 1 1 { t with grip := [min 1000 ga] } m 0 sl 0 wx rfl (by omega) (HR4.out wx h).2.2
    rw [h1, h2] at h3
    have h4 : Calls Tryz.prog 25 #[.agg #[.int .i64 t.mass, .int .i64 t.len, .int .i64 t.speed, .int .i64 t.effort, .int .i64 t.brake, .int .i64 t.power, .int .i64 t.resist, .int .i64 t.rise, .int .i64 t.back, .slice (some ⟨B + 1, 0, none⟩) 1 1], .agg #[.int .i64 m, .int .i64 0], .int .i64 sl, .int .i64 0] wx fun e w' => e = .returned (.tuple #[.int .i64 v, .int .i64 e']) ∧ Below wx.heap.size wx w' := h3
    rwa [HR.out] at h4)
  have HV := Lib.hid (And.intro hv1 hv2)
  clear hv1 hv2
  go_wp2_with fail
  (with_reducible refine (HF1.out _ HX0.out HY0.out).mono ?_)
  rintro e w2 ⟨rfl, hb2⟩
  have HX1 := Lib.hid (HX0.out.trans (hb2.mono HX0.out.size))
  have HY1 := Lib.hid (HY0.out.trans (hb2.mono HY0.out.size))
  clear hb2
  clear e0 k0 e1 k1 e2 k2 e3 k3 e4 k4 e5 k5 e6 k6 e7 k7 e8 k8 e9 k9 f0 f1
  obtain ⟨r1, _⟩ := HK.out _ HX1.out
  obtain ⟨r2, r3, _⟩ := HR4.out _ HY1.out
  have e0 := r1.cell 0; have e1 := r1.cell 1; have e2 := r1.cell 2; have e3 := r1.cell 3; have e4 := r1.cell 4; have e5 := r1.cell 5; have e6 := r1.cell 6; have e7 := r1.cell 7; have e8 := r1.cell 8; have e9 := r1.cell 9; have k0 := r2.cell 0; have k1 := r2.cell 1; have k2 := r2.cell 2; have k3 := r2.cell 3; have k4 := r2.cell 4; have k5 := r2.cell 5; have k6 := r2.cell 6; have k7 := r2.cell 7; have k8 := r2.cell 8; have k9 := r2.cell 9; have f0 := r3.cell 0; have f1 := r3.cell 1
  clear r1 r2 r3
  cases b1 with
  | false =>
    go_wp2_with fail
    (with_reducible refine (HKM.out _ HX1.out HY1.out).mono ?_)
    rintro e w3 ⟨rfl, hb3⟩
    have HX2 := Lib.hid (HX1.out.trans (hb3.mono HX1.out.size))
    have HY2 := Lib.hid (HY1.out.trans (hb3.mono HY1.out.size))
    clear hb3
    go_wp2
    go_ret
    exact ⟨by rfl, HB1.out.trans (HX2.out.mono HB1.out.size)⟩
  | true =>
    have v1 := HV.out.1
    have v1' := v1
    unfold brkB stateB placeB at v1'
    simp only [Bool.and_eq_true, inB_iff] at v1'
    obtain ⟨hrt, ⟨⟨hm0, hm1⟩, _, _⟩, ⟨hs0, hs1⟩, _, _⟩ := v1'
    have ht := TrOk.of hrt
    have hms := ht.m1; have hms2 := ht.m2
    obtain ⟨hl0, hl1, hmo0, hmo1, had0, had1⟩ := HBD.out
    have hgg := ht.gs g (by rw [HG.out]; simp)
    have hga2 : ga = g + add := by rw [← HGA.out, IntKind.wrap_i64]; omega
    have hws : IntKind.i64.wrap (sl + more) = sl + more := by rw [IntKind.wrap_i64]; omega
    have hwl : IntKind.i64.wrap (m - less) = m - less := by rw [IntKind.wrap_i64]; omega
    have HFX := Lib.hid (And.intro hrt (And.intro ht (And.intro hgg (And.intro hga2 (And.intro hm0 (And.intro hm1 (And.intro hs0 (And.intro hs1 (And.intro hms hms2)))))))))
    clear v1 hrt hm0 hm1 hs0 hs1 ht hms hms2 hgg hga2 hl0 hl1 hmo0 hmo1 had0 had1
    go_wp2_with fail
    (with_reducible refine (HF2.out _ HX1.out HY1.out).mono ?_)
    rintro e w3 ⟨rfl, hb3⟩
    have HX2 := Lib.hid (HX1.out.trans (hb3.mono HX1.out.size))
    have HY2 := Lib.hid (HY1.out.trans (hb3.mono HY1.out.size))
    clear hb3
    clear e0 k0 e1 k1 e2 k2 e3 k3 e4 k4 e5 k5 e6 k6 e7 k7 e8 k8 e9 k9 f0 f1
    obtain ⟨r1, _⟩ := HK.out _ HX2.out
    obtain ⟨r2, r3, _⟩ := HR4.out _ HY2.out
    have e0 := r1.cell 0; have e1 := r1.cell 1; have e2 := r1.cell 2; have e3 := r1.cell 3; have e4 := r1.cell 4; have e5 := r1.cell 5; have e6 := r1.cell 6; have e7 := r1.cell 7; have e8 := r1.cell 8; have e9 := r1.cell 9; have k0 := r2.cell 0; have k1 := r2.cell 1; have k2 := r2.cell 2; have k3 := r2.cell 3; have k4 := r2.cell 4; have k5 := r2.cell 5; have k6 := r2.cell 6; have k7 := r2.cell 7; have k8 := r2.cell 8; have k9 := r2.cell 9; have f0 := r3.cell 0; have f1 := r3.cell 1
    clear r1 r2 r3
    cases b2 with
    | false =>
      go_wp2_with fail
      (with_reducible refine (HKM.out _ HX2.out HY2.out).mono ?_)
      rintro e w4 ⟨rfl, hb4⟩
      have HX3 := Lib.hid (HX2.out.trans (hb4.mono HX2.out.size))
      have HY3 := Lib.hid (HY2.out.trans (hb4.mono HY2.out.size))
      clear hb4
      go_wp2
      go_ret
      exact ⟨by rfl, HB1.out.trans (HX3.out.mono HB1.out.size)⟩
    | true =>
      obtain ⟨v1, v2⟩ := HV.out
      obtain ⟨hrt, ht, hgg, hga2, hm0, hm1, hs0, hs1, hms, hms2⟩ := HFX.out
      obtain ⟨hl0, hl1, hmo0, hmo1, had0, had1⟩ := HBD.out
      have v3 : brkB { t with grip := [min 1000 ga] } m 0 sl 0 = true := by
        unfold brkB stateB placeB at v1 ⊢
        have hrt2 : rightB { t with grip := [min 1000 ga] } = true := by
          unfold rightB gripsB at hrt ⊢
          simp only [Bool.and_eq_true] at hrt ⊢
          refine ⟨hrt.1, hrt.2.1, hrt.2.2.1, ?_, rfl⟩
          simp only [List.all_cons, List.all_nil, Bool.and_true, inB_iff]
          omega
        simp only [Bool.and_eq_true, inB_iff] at v1 ⊢
        exact ⟨hrt2, v1.2.1, v1.2.2.1, by omega, by simp⟩
      have v4 : brkB t (max 0 (m - less)) 0 sl 0 = true := by
        unfold brkB stateB at v1 ⊢
        simp only [Bool.and_eq_true, inB_iff] at v1 ⊢
        exact ⟨v1.1, ⟨by omega, v1.2.1.2⟩, v1.2.2⟩
      obtain ⟨r0, hr0⟩ : ∃ r, brkR t m 0 sl 0 = r := ⟨_, rfl⟩
      have he : brkE t m 0 sl 0 = 0 ∨ brkE t m 0 sl 0 = 4 := by
        unfold brkE
        rw [if_pos v1]
        cases (brakeW t sl 0 36000 m 0).isSome <;> simp
      rcases he with he | he
      · have hr := HR.out
        have x1 := brk_mono (t' := { t with grip := [min 1000 ga] }) hr hr rfl ht (forC_grip t g (min 1000 ga) sl ht HG.out (by omega)) (Int.le_refl m) v1 v3 he
        have x2 := brk_mono (t' := t) hr hr rfl ht (forC_hill t sl more 0 ht hmo0) (Int.le_refl m) v1 v2 he
        have x3 := brk_mono (t' := t) hr hr rfl ht (Int.le_refl (forC t sl 0)) (show max 0 (m - less) ≤ m by omega) v1 v4 he
        obtain ⟨r1, hr1⟩ : ∃ r, brkR { t with grip := [min 1000 ga] } m 0 sl 0 = r := ⟨_, rfl⟩
        obtain ⟨r2, hr2⟩ : ∃ r, brkR t m 0 (sl + more) 0 = r := ⟨_, rfl⟩
        obtain ⟨r3, hr3⟩ : ∃ r, brkR t (max 0 (m - less)) 0 sl 0 = r := ⟨_, rfl⟩
        have HC0 := Lib.hid (HBK.out m sl r0 0 hr0 he)
        have HC1 := Lib.hid (HBT.out r1 0 hr1 x1.1)
        have HC2 := Lib.hid (HBK.out m (sl + more) r2 0 hr2 x2.1)
        have HC3 := Lib.hid (HBK.out (max 0 (m - less)) sl r3 0 hr3 x3.1)
        rw [hr0, hr1] at x1
        rw [hr0, hr2] at x2
        rw [hr0, hr3] at x3
        have y1 := x1.2; have y2 := x2.2; have y3 := x3.2
        clear v1 v2 v3 v4 hrt ht hgg hga2 hm0 hm1 hs0 hs1 hms hms2 hl0 hl1 hmo0 hmo1 had0 had1 x1 x2 x3 hr0 hr1 hr2 hr3 he hr
        go_wp2_with fail
        (with_reducible refine (HC0.out _ HX2.out HY2.out).mono ?_)
        rintro e w4 ⟨rfl, hb4⟩
        have HX3 := Lib.hid (HX2.out.trans (hb4.mono HX2.out.size))
        have HY3 := Lib.hid (HY2.out.trans (hb4.mono HY2.out.size))
        clear hb4
        clear e0 k0 e1 k1 e2 k2 e3 k3 e4 k4 e5 k5 e6 k6 e7 k7 e8 k8 e9 k9 f0 f1
        obtain ⟨r1, _⟩ := HK.out _ HX3.out
        obtain ⟨r2, r3, _⟩ := HR4.out _ HY3.out
        have e0 := r1.cell 0; have e1 := r1.cell 1; have e2 := r1.cell 2; have e3 := r1.cell 3; have e4 := r1.cell 4; have e5 := r1.cell 5; have e6 := r1.cell 6; have e7 := r1.cell 7; have e8 := r1.cell 8; have e9 := r1.cell 9; have k0 := r2.cell 0; have k1 := r2.cell 1; have k2 := r2.cell 2; have k3 := r2.cell 3; have k4 := r2.cell 4; have k5 := r2.cell 5; have k6 := r2.cell 6; have k7 := r2.cell 7; have k8 := r2.cell 8; have k9 := r2.cell 9; have f0 := r3.cell 0; have f1 := r3.cell 1
        clear r1 r2 r3
        go_wp2_with fail
        (with_reducible refine (HC1.out _ HX3.out HY3.out).mono ?_)
        rintro e w5 ⟨rfl, hb5⟩
        have HX4 := Lib.hid (HX3.out.trans (hb5.mono HX3.out.size))
        have HY4 := Lib.hid (HY3.out.trans (hb5.mono HY3.out.size))
        clear hb5
        clear e0 k0 e1 k1 e2 k2 e3 k3 e4 k4 e5 k5 e6 k6 e7 k7 e8 k8 e9 k9 f0 f1
        obtain ⟨r1, _⟩ := HK.out _ HX4.out
        obtain ⟨r2, r3, _⟩ := HR4.out _ HY4.out
        have e0 := r1.cell 0; have e1 := r1.cell 1; have e2 := r1.cell 2; have e3 := r1.cell 3; have e4 := r1.cell 4; have e5 := r1.cell 5; have e6 := r1.cell 6; have e7 := r1.cell 7; have e8 := r1.cell 8; have e9 := r1.cell 9; have k0 := r2.cell 0; have k1 := r2.cell 1; have k2 := r2.cell 2; have k3 := r2.cell 3; have k4 := r2.cell 4; have k5 := r2.cell 5; have k6 := r2.cell 6; have k7 := r2.cell 7; have k8 := r2.cell 8; have k9 := r2.cell 9; have f0 := r3.cell 0; have f1 := r3.cell 1
        clear r1 r2 r3
        go_wp2_with fail
        (with_reducible refine (HC2.out _ HX4.out HY4.out).mono ?_)
        rintro e w6 ⟨rfl, hb6⟩
        have HX5 := Lib.hid (HX4.out.trans (hb6.mono HX4.out.size))
        have HY5 := Lib.hid (HY4.out.trans (hb6.mono HY4.out.size))
        clear hb6
        clear e0 k0 e1 k1 e2 k2 e3 k3 e4 k4 e5 k5 e6 k6 e7 k7 e8 k8 e9 k9 f0 f1
        obtain ⟨r1, _⟩ := HK.out _ HX5.out
        obtain ⟨r2, r3, _⟩ := HR4.out _ HY5.out
        have e0 := r1.cell 0; have e1 := r1.cell 1; have e2 := r1.cell 2; have e3 := r1.cell 3; have e4 := r1.cell 4; have e5 := r1.cell 5; have e6 := r1.cell 6; have e7 := r1.cell 7; have e8 := r1.cell 8; have e9 := r1.cell 9; have k0 := r2.cell 0; have k1 := r2.cell 1; have k2 := r2.cell 2; have k3 := r2.cell 3; have k4 := r2.cell 4; have k5 := r2.cell 5; have k6 := r2.cell 6; have k7 := r2.cell 7; have k8 := r2.cell 8; have k9 := r2.cell 9; have f0 := r3.cell 0; have f1 := r3.cell 1
        clear r1 r2 r3
        go_wp2_with fail
        (with_reducible refine (HC3.out _ HX5.out HY5.out).mono ?_)
        rintro e w7 ⟨rfl, hb7⟩
        have HX6 := Lib.hid (HX5.out.trans (hb7.mono HX5.out.size))
        have HY6 := Lib.hid (HY5.out.trans (hb7.mono HY5.out.size))
        clear hb7
        clear e0 k0 e1 k1 e2 k2 e3 k3 e4 k4 e5 k5 e6 k6 e7 k7 e8 k8 e9 k9 f0 f1
        obtain ⟨r1, _⟩ := HK.out _ HX6.out
        obtain ⟨r2, r3, _⟩ := HR4.out _ HY6.out
        have e0 := r1.cell 0; have e1 := r1.cell 1; have e2 := r1.cell 2; have e3 := r1.cell 3; have e4 := r1.cell 4; have e5 := r1.cell 5; have e6 := r1.cell 6; have e7 := r1.cell 7; have e8 := r1.cell 8; have e9 := r1.cell 9; have k0 := r2.cell 0; have k1 := r2.cell 1; have k2 := r2.cell 2; have k3 := r2.cell 3; have k4 := r2.cell 4; have k5 := r2.cell 5; have k6 := r2.cell 6; have k7 := r2.cell 7; have k8 := r2.cell 8; have k9 := r2.cell 9; have f0 := r3.cell 0; have f1 := r3.cell 1
        clear r1 r2 r3
        go_wp2_with fail
        (with_reducible refine (HKM.out _ HX6.out HY6.out).mono ?_)
        rintro e w8 ⟨rfl, hb8⟩
        have HX7 := Lib.hid (HX6.out.trans (hb8.mono HX6.out.size))
        have HY7 := Lib.hid (HY6.out.trans (hb8.mono HY6.out.size))
        clear hb8
        go_wp2
        go_ret
        exact ⟨by rfl, HB1.out.trans (HX7.out.mono HB1.out.size)⟩
      · have HC0 := Lib.hid (HBK.out m sl r0 4 hr0 he)
        clear v1 v2 v3 v4 hrt ht hgg hga2 hm0 hm1 hs0 hs1 hms hms2 hl0 hl1 hmo0 hmo1 had0 had1 hr0 he
        go_wp2_with fail
        (with_reducible refine (HC0.out _ HX2.out HY2.out).mono ?_)
        rintro e w4 ⟨rfl, hb4⟩
        have HX3 := Lib.hid (HX2.out.trans (hb4.mono HX2.out.size))
        have HY3 := Lib.hid (HY2.out.trans (hb4.mono HY2.out.size))
        clear hb4
        clear e0 k0 e1 k1 e2 k2 e3 k3 e4 k4 e5 k5 e6 k6 e7 k7 e8 k8 e9 k9 f0 f1
        obtain ⟨r1, _⟩ := HK.out _ HX3.out
        obtain ⟨r2, r3, _⟩ := HR4.out _ HY3.out
        have e0 := r1.cell 0; have e1 := r1.cell 1; have e2 := r1.cell 2; have e3 := r1.cell 3; have e4 := r1.cell 4; have e5 := r1.cell 5; have e6 := r1.cell 6; have e7 := r1.cell 7; have e8 := r1.cell 8; have e9 := r1.cell 9; have k0 := r2.cell 0; have k1 := r2.cell 1; have k2 := r2.cell 2; have k3 := r2.cell 3; have k4 := r2.cell 4; have k5 := r2.cell 5; have k6 := r2.cell 6; have k7 := r2.cell 7; have k8 := r2.cell 8; have k9 := r2.cell 9; have f0 := r3.cell 0; have f1 := r3.cell 1
        clear r1 r2 r3
        go_wp2_with fail
        (with_reducible refine (HKM.out _ HX3.out HY3.out).mono ?_)
        rintro e w5 ⟨rfl, hb5⟩
        have HX4 := Lib.hid (HX3.out.trans (hb5.mono HX3.out.size))
        have HY4 := Lib.hid (HY3.out.trans (hb5.mono HY3.out.size))
        clear hb5
        go_wp2
        go_ret
        exact ⟨by rfl, HB1.out.trans (HX4.out.mono HB1.out.size)⟩
end Go.Proofs.YtfhkbbjddjddmaaGreat
