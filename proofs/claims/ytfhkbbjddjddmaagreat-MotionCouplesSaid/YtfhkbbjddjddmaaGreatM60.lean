/- Law: MotionCouples. -/
import Derived.Test.YtfhkbbjddjddmaaGreatM59
import Derived.Test.YtfhkbbjddjddmaaGreatMj
namespace Go.Proofs.YtfhkbbjddjddmaaGreat
set_option linter.unusedVariables false
set_option linter.unusedSimpArgs false
open Go.RowKit

theorem sameB_refl (a : Tr) : sameB a a = true := by unfold sameB; simp
theorem Sl.nilCI (w : World) (B : Nat) : Sl w B 1 CI none [] := fun h => absurd rfl h
theorem coupT_ref {a b : Tr} (hn : a.grip.length = b.grip.length) (h : cplE a b = 0) : cplT a b = coupT a b := by unfold cplT; rw [if_pos h]
set_option maxRecDepth 100000 in
set_option maxHeartbeats 4000000 in
theorem MotionCouples_any (A A2 : Option Addr) (c c2 n n2 : Nat) (a b : Tr) (w : World) (hn : a.grip.length = n) (hn' : b.grip.length = n2) (hx : n ≤ 140737488351232) (hy : n2 ≤ 140737488351232) (hS : Sl w w.heap.size 1 CI A a.grip) (hS2 : Sl w w.heap.size 1 CI A2 b.grip) :
    Calls Tryz.prog 3 #[.agg #[.int .i64 a.mass, .int .i64 a.len, .int .i64 a.speed, .int .i64 a.effort, .int .i64 a.brake, .int .i64 a.power, .int .i64 a.resist, .int .i64 a.rise, .int .i64 a.back, .slice A n c], .agg #[.int .i64 b.mass, .int .i64 b.len, .int .i64 b.speed, .int .i64 b.effort, .int .i64 b.brake, .int .i64 b.power, .int .i64 b.resist, .int .i64 b.rise, .int .i64 b.back, .slice A2 n2 c2]] w fun e w' => e = .returned (.bool true) ∧ Below w.heap.size w w' := by
  have hb1 := ((Below.refl w.heap.size w).alloc (Nat.le_refl _) (.cells #[.int .i64 a.mass, .int .i64 a.len, .int .i64 a.speed, .int .i64 a.effort, .int .i64 a.brake, .int .i64 a.power, .int .i64 a.resist, .int .i64 a.rise, .int .i64 a.back, .slice A n c] 24)).alloc (by simp) (.cells #[.int .i64 b.mass, .int .i64 b.len, .int .i64 b.speed, .int .i64 b.effort, .int .i64 b.brake, .int .i64 b.power, .int .i64 b.resist, .int .i64 b.rise, .int .i64 b.back, .slice A2 n2 c2] 24)
  obtain ⟨q1, q2⟩ := rows2 w #[.int .i64 a.mass, .int .i64 a.len, .int .i64 a.speed, .int .i64 a.effort, .int .i64 a.brake, .int .i64 a.power, .int .i64 a.resist, .int .i64 a.rise, .int .i64 a.back, .slice A n c] #[.int .i64 b.mass, .int .i64 b.len, .int .i64 b.speed, .int .i64 b.effort, .int .i64 b.brake, .int .i64 b.power, .int .i64 b.resist, .int .i64 b.rise, .int .i64 b.back, .slice A2 n2 c2] 24 24
  obtain ⟨W1, hW1⟩ : ∃ z, (w.alloc (.cells #[.int .i64 a.mass, .int .i64 a.len, .int .i64 a.speed, .int .i64 a.effort, .int .i64 a.brake, .int .i64 a.power, .int .i64 a.resist, .int .i64 a.rise, .int .i64 a.back, .slice A n c] 24)).alloc (.cells #[.int .i64 b.mass, .int .i64 b.len, .int .i64 b.speed, .int .i64 b.effort, .int .i64 b.brake, .int .i64 b.power, .int .i64 b.resist, .int .i64 b.rise, .int .i64 b.back, .slice A2 n2 c2] 24) = z := ⟨_, rfl⟩
  rw [hW1] at hb1 q1 q2
  obtain ⟨B, hB⟩ : ∃ n, w.heap.size = n := ⟨_, rfl⟩
  rw [hB] at q1 q2
  have HB1 := Lib.hid hb1
  have HX0 := Lib.hid (Below.refl W1.heap.size W1)
  have HK := Lib.hid (show ∀ wx, Below W1.heap.size W1 wx → Rw wx B 24 #[.int .i64 a.mass, .int .i64 a.len, .int .i64 a.speed, .int .i64 a.effort, .int .i64 a.brake, .int .i64 a.power, .int .i64 a.resist, .int .i64 a.rise, .int .i64 a.back, .slice A n c] ∧ Rw wx (B + 1) 24 #[.int .i64 b.mass, .int .i64 b.len, .int .i64 b.speed, .int .i64 b.effort, .int .i64 b.brake, .int .i64 b.power, .int .i64 b.resist, .int .i64 b.rise, .int .i64 b.back, .slice A2 n2 c2] ∧ Sl wx wx.heap.size 1 CI A a.grip ∧ Sl wx wx.heap.size 1 CI A2 b.grip from fun wx h => by
    have hb := hb1.trans (h.mono hb1.size)
    have hz := Nat.le_trans hb1.size h.size
    exact ⟨q1.below h q1.lt, q2.below h q2.lt, (hS.below hb).more (fun _ _ h => h) hz, (hS2.below hb).more (fun _ _ h => h) hz⟩)
  have HKN := Lib.hid (show ∀ wx, Below W1.heap.size W1 wx → Calls Tryz.prog 14 #[] wx fun e w' => e = .returned (.bool true) ∧ Below wx.heap.size wx w' from fun wx _ => known_any wx)
  obtain ⟨s1, h1⟩ : ∃ b, decide (n ≤ 20) = b := ⟨_, rfl⟩
  obtain ⟨s2, h2⟩ : ∃ b, decide (n2 ≤ 20) = b := ⟨_, rfl⟩
  have HSA := Lib.hid (show ∀ wx, Below W1.heap.size W1 wx → Calls Tryz.prog 13 #[.agg #[.int .i64 a.mass, .int .i64 a.len, .int .i64 a.speed, .int .i64 a.effort, .int .i64 a.brake, .int .i64 a.power, .int .i64 a.resist, .int .i64 a.rise, .int .i64 a.back, .slice A n c]] wx fun e w' => e = .returned (.bool s1) ∧ Below wx.heap.size wx w' from fun wx h => by have := short_any A c n a wx (by omega); rwa [h1] at this)
  have HSB := Lib.hid (show ∀ wx, Below W1.heap.size W1 wx → Calls Tryz.prog 13 #[.agg #[.int .i64 b.mass, .int .i64 b.len, .int .i64 b.speed, .int .i64 b.effort, .int .i64 b.brake, .int .i64 b.power, .int .i64 b.resist, .int .i64 b.rise, .int .i64 b.back, .slice A2 n2 c2]] wx fun e w' => e = .returned (.bool s2) ∧ Below wx.heap.size wx w' from fun wx h => by have := short_any A2 c2 n2 b wx (by omega); rwa [h2] at this)
  have HN := Lib.hid (And.intro hn hn')
  obtain ⟨ct, hct⟩ : ∃ t, cplT a b = t := ⟨_, rfl⟩
  obtain ⟨ce, hce⟩ : ∃ t, cplE a b = t := ⟨_, rfl⟩
  have HCP := Lib.hid (show ∀ wx, Below W1.heap.size W1 wx → Calls Tryz.prog 15 #[.agg #[.int .i64 a.mass, .int .i64 a.len, .int .i64 a.speed, .int .i64 a.effort, .int .i64 a.brake, .int .i64 a.power, .int .i64 a.resist, .int .i64 a.rise, .int .i64 a.back, .slice A n c], .agg #[.int .i64 b.mass, .int .i64 b.len, .int .i64 b.speed, .int .i64 b.effort, .int .i64 b.brake, .int .i64 b.power, .int .i64 b.resist, .int .i64 b.rise, .int .i64 b.back, .slice A2 n2 c2]] wx fun e w' => ∃ Ac cc, e = .returned (.tuple #[.agg #[.int .i64 ct.mass, .int .i64 ct.len, .int .i64 ct.speed, .int .i64 ct.effort, .int .i64 ct.brake, .int .i64 ct.power, .int .i64 ct.resist, .int .i64 ct.rise, .int .i64 ct.back, .slice Ac ct.grip.length cc], .int .i64 ce]) ∧ Sl w' w'.heap.size 1 CI Ac ct.grip ∧ Below wx.heap.size wx w' from fun wx h => by
    have := Couple_any A A2 c c2 n n2 a b wx hn hn' (by omega) (by omega) (HK.out wx h).2.2.1 (HK.out wx h).2.2.2
    unfold CplPost at this
    rwa [hct, hce] at this)
  obtain ⟨ra, hra⟩ : ∃ r, rightB a = r := ⟨_, rfl⟩
  obtain ⟨rb, hrb⟩ : ∃ r, rightB b = r := ⟨_, rfl⟩
  have HRA := Lib.hid hra; have HRB := Lib.hid hrb
  have HTR := Lib.hid (show ∀ wx, Below W1.heap.size W1 wx → Calls Tryz.prog 17 #[.agg #[.int .i64 a.mass, .int .i64 a.len, .int .i64 a.speed, .int .i64 a.effort, .int .i64 a.brake, .int .i64 a.power, .int .i64 a.resist, .int .i64 a.rise, .int .i64 a.back, .slice A n c]] wx fun e w' => e = .returned (.bool ra) ∧ Below wx.heap.size wx w' from fun wx h => by have := rTrain_any A c n a wx hn (by omega) (HK.out wx h).2.2.1; rwa [hra] at this)
  have HTB := Lib.hid (show ∀ wx, Below W1.heap.size W1 wx → Calls Tryz.prog 17 #[.agg #[.int .i64 b.mass, .int .i64 b.len, .int .i64 b.speed, .int .i64 b.effort, .int .i64 b.brake, .int .i64 b.power, .int .i64 b.resist, .int .i64 b.rise, .int .i64 b.back, .slice A2 n2 c2]] wx fun e w' => e = .returned (.bool rb) ∧ Below wx.heap.size wx w' from fun wx h => by have := rTrain_any A2 c2 n2 b wx hn' (by omega) (HK.out wx h).2.2.2; rwa [hrb] at this)
  have HCK0 := Lib.hid (show ∀ wx, Below W1.heap.size W1 wx → Calls Tryz.prog 16 #[.agg #[.int .i64 a.mass, .int .i64 a.len, .int .i64 a.speed, .int .i64 a.effort, .int .i64 a.brake, .int .i64 a.power, .int .i64 a.resist, .int .i64 a.rise, .int .i64 a.back, .slice A n c]] wx fun e w' => e = .returned (.int .i64 (if ra = true then 0 else 2)) ∧ Below wx.heap.size wx w' from fun wx h => by have := check_any A c n a wx hn (by omega) (HK.out wx h).2.2.1; rwa [hra] at this)
  have HCT := Lib.hid hct; have HCE := Lib.hid hce
  have e := q1.cell; have f := q2.cell
  clear hb1 q1 q2 hS hS2 hn hn' h1 h2 hct hce hra hrb
  go_enter Tryz.func3, Tryz.ntmps3
  go_wp2_with fail
  (with_reducible refine (HSA.out _ HX0.out).mono ?_)
  rintro e w2 ⟨rfl, hb⟩
  have HX1 := Lib.hid (HX0.out.trans (hb.mono HX0.out.size))
  clear hb
  clear e f
  obtain ⟨r1, r2, _⟩ := HK.out _ HX1.out
  have e := r1.cell; have f := r2.cell
  clear r1 r2
  clear hW1 hB
  cases s1 with
  | false =>
    go_wp2_with fail
    (with_reducible refine (HKN.out _ HX1.out).mono ?_)
    rintro e w3 ⟨rfl, hb⟩
    have HX2 := Lib.hid (HX1.out.trans (hb.mono HX1.out.size))
    clear hb
    go_wp2
    go_ret
    exact ⟨by rfl, HB1.out.trans (HX2.out.mono HB1.out.size)⟩
  | true =>
    go_wp2_with fail
    (with_reducible refine (HSB.out _ HX1.out).mono ?_)
    rintro e w3 ⟨rfl, hb⟩
    have HX2 := Lib.hid (HX1.out.trans (hb.mono HX1.out.size))
    clear hb
    clear e f
    obtain ⟨r1, r2, _⟩ := HK.out _ HX2.out
    have e := r1.cell; have f := r2.cell
    clear r1 r2
    cases s2 with
    | false =>
      go_wp2_with fail
      (with_reducible refine (HKN.out _ HX2.out).mono ?_)
      rintro e w4 ⟨rfl, hb⟩
      have HX3 := Lib.hid (HX2.out.trans (hb.mono HX2.out.size))
      clear hb
      go_wp2
      go_ret
      exact ⟨by rfl, HB1.out.trans (HX3.out.mono HB1.out.size)⟩
    | true =>
      go_wp2_with fail
      (with_reducible refine (HCP.out _ HX2.out).mono ?_)
      rintro e w4 ⟨Ac, cc, rfl, hsc, hb⟩
      have HX3 := Lib.hid (HX2.out.trans (hb.mono HX2.out.size))
      have HSC := Lib.hid hsc
      clear hsc
      clear hb
      clear e f
      obtain ⟨r1, r2, _⟩ := HK.out _ HX3.out
      have e := r1.cell; have f := r2.cell
      clear r1 r2
      go_upto_region 4 with (fail)
      have hba := (Below.refl w4.heap.size w4).alloc (Nat.le_refl _) (.cells #[.int .i64 ct.mass, .int .i64 ct.len, .int .i64 ct.speed, .int .i64 ct.effort, .int .i64 ct.brake, .int .i64 ct.power, .int .i64 ct.resist, .int .i64 ct.rise, .int .i64 ct.back, .slice Ac ct.grip.length cc] 24)
      have qa := Rw.new w4 #[.int .i64 ct.mass, .int .i64 ct.len, .int .i64 ct.speed, .int .i64 ct.effort, .int .i64 ct.brake, .int .i64 ct.power, .int .i64 ct.resist, .int .i64 ct.rise, .int .i64 ct.back, .slice Ac ct.grip.length cc] 24
      obtain ⟨w5, hwa⟩ : ∃ z, w4.alloc (.cells #[.int .i64 ct.mass, .int .i64 ct.len, .int .i64 ct.speed, .int .i64 ct.effort, .int .i64 ct.brake, .int .i64 ct.power, .int .i64 ct.resist, .int .i64 ct.rise, .int .i64 ct.back, .slice Ac ct.grip.length cc] 24) = z := ⟨_, rfl⟩
      rw [hwa] at hba qa ⊢
      clear hwa
      obtain ⟨MC, hM⟩ : ∃ n, w4.heap.size = n := ⟨_, rfl⟩
      rw [hM] at qa ⊢
      clear hM
      have HX4 := Lib.hid (HX3.out.trans (hba.mono HX3.out.size))
      have HQC := Lib.hid (show ∀ wx, Below w5.heap.size w5 wx → Rw wx MC 24 #[.int .i64 ct.mass, .int .i64 ct.len, .int .i64 ct.speed, .int .i64 ct.effort, .int .i64 ct.brake, .int .i64 ct.power, .int .i64 ct.resist, .int .i64 ct.rise, .int .i64 ct.back, .slice Ac ct.grip.length cc] ∧ Sl wx wx.heap.size 1 CI Ac ct.grip from fun wx h => ⟨qa.below h qa.lt, (HSC.out.below (hba.trans (h.mono hba.size))).more (fun _ _ h => h) (Nat.le_trans hba.size h.size)⟩)
      have HYC_4 := Lib.hid (Below.refl w5.heap.size w5)
      clear hba qa
      clear e f
      obtain ⟨r1, r2, _⟩ := HK.out _ HX4.out
      have e := r1.cell; have f := r2.cell
      clear r1 r2
      have yC := (HQC.out _ HYC_4.out).1.cell
      have hbq : Below w5.heap.size w5 w5.drew := (Below.refl _ _).drew
      have HSK := Lib.hid (show ∀ wx, Below w5.heap.size w5 wx → Rw wx B 24 #[.int .i64 a.mass, .int .i64 a.len, .int .i64 a.speed, .int .i64 a.effort, .int .i64 a.brake, .int .i64 a.power, .int .i64 a.resist, .int .i64 a.rise, .int .i64 a.back, .slice A n c] from fun wx h => (HK.out wx (HX4.out.trans (h.mono HX4.out.size))).1)
      cases ra with
      | false =>
        have HCK := Lib.hid (show ∀ wx, Below w5.heap.size w5 wx → Calls Tryz.prog 16 #[.agg #[.int .i64 a.mass, .int .i64 a.len, .int .i64 a.speed, .int .i64 a.effort, .int .i64 a.brake, .int .i64 a.power, .int .i64 a.resist, .int .i64 a.rise, .int .i64 a.back, .slice A n c]] wx fun e w' => e = .returned (.int .i64 2) ∧ Below wx.heap.size wx w' from fun wx h => HCK0.out wx (HX4.out.trans (h.mono HX4.out.size)))
        have HTR0 := HTR
        have HTR := Lib.hid (show ∀ wx, Below w5.heap.size w5 wx → Calls Tryz.prog 17 #[.agg #[.int .i64 a.mass, .int .i64 a.len, .int .i64 a.speed, .int .i64 a.effort, .int .i64 a.brake, .int .i64 a.power, .int .i64 a.resist, .int .i64 a.rise, .int .i64 a.back, .slice A n c]] wx fun e w' => e = .returned (.bool false) ∧ Below wx.heap.size wx w' from fun wx h => HTR0.out wx (HX4.out.trans (h.mono HX4.out.size)))
        have HS := Lib.hid (HSK.out _ hbq)
        clear e f yC
        refine wp_region_held_drew (S := fun wx => Rw wx B 24 #[.int .i64 a.mass, .int .i64 a.len, .int .i64 a.speed, .int .i64 a.effort, .int .i64 a.brake, .int .i64 a.power, .int .i64 a.resist, .int .i64 a.rise, .int .i64 a.back, .slice A n c]) (by kernel_rfl) HS.out (fun _ => ?_)
        refine hTk (i := 0) (d := 23) (v := .agg #[.int .i64 a.mass, .int .i64 a.len, .int .i64 a.speed, .int .i64 a.effort, .int .i64 a.brake, .int .i64 a.power, .int .i64 a.resist, .int .i64 a.rise, .int .i64 a.back, .slice A n c]) rfl rfl (Or.inl ⟨rfl, by rintro W' s0; have y := s0.cell; go_simp⟩) HS.out ?_
        simp only [Act.put, sB, sZ, sS]
        refine hTk (i := 3) (d := 26) (v := .agg #[.int .i64 a.mass, .int .i64 a.len, .int .i64 a.speed, .int .i64 a.effort, .int .i64 a.brake, .int .i64 a.power, .int .i64 a.resist, .int .i64 a.rise, .int .i64 a.back, .slice A n c]) rfl rfl (Or.inl ⟨rfl, by rintro W' s0; have y := s0.cell; go_simp⟩) HS.out ?_
        simp only [Act.put, sB, sZ, sS]
        refine wpAnyH_ready (rs := [1]) (by kernel_rfl) (by simp) ?_
        refine AllReadyH.cons rfl (fun K hK => ?_) AllReadyH.nil
        rw [if_pos (by rfl)]
        go_simp
        go_at_call 16
        (with_reducible refine (HCK.out _ hbq).mono ?_)
        rintro e v1 ⟨rfl, hbn⟩
        replace hbq := hbq.trans (hbn.mono hbq.size)
        clear hbn
        have HS := Lib.hid (HSK.out _ hbq)
        refine hK.out _ _ HS.out (fun _ => ?_)
        clear hK K
        try simp only [Act.put, sB, sZ, sS]
        refine hTk (i := 2) (d := 25) (v := .bool false) rfl rfl (Or.inl ⟨rfl, by rintro W' s0; have y := s0.cell; go_simp⟩) HS.out ?_
        simp only [Act.put, sB, sZ, sS]
        refine wpAnyH_ready (rs := [4]) (by kernel_rfl) (by simp) ?_
        refine AllReadyH.cons rfl (fun K hK => ?_) AllReadyH.nil
        rw [if_pos (by rfl)]
        go_simp
        go_at_call 17
        (with_reducible refine (HTR.out _ hbq).mono ?_)
        rintro e v2 ⟨rfl, hbn⟩
        replace hbq := hbq.trans (hbn.mono hbq.size)
        clear hbn
        have HS := Lib.hid (HSK.out _ hbq)
        refine hK.out _ _ HS.out (fun _ => ?_)
        clear hK K
        try simp only [Act.put, sB, sZ, sS]
        refine hTk (i := 5) (d := 28) (v := .bool false) rfl rfl (Or.inl ⟨rfl, by rintro W' s0; have y := s0.cell; go_simp⟩) HS.out ?_
        simp only [Act.put, sB, sZ, sS]
        refine hTk (i := 6) (d := 29) (v := .bool false) rfl rfl (Or.inl ⟨rfl, by rintro W' s0; have y := s0.cell; go_simp⟩) HS.out ?_
        simp only [Act.put, sB, sZ, sS]
        refine hTk (i := 7) (d := 30) (v := .agg #[.int .i64 a.mass, .int .i64 a.len, .int .i64 a.speed, .int .i64 a.effort, .int .i64 a.brake, .int .i64 a.power, .int .i64 a.resist, .int .i64 a.rise, .int .i64 a.back, .slice A n c]) rfl rfl (Or.inl ⟨rfl, by rintro W' s0; have y := s0.cell; go_simp⟩) HS.out ?_
        simp only [Act.put, sB, sZ, sS]
        refine wpAnyH_ready (rs := [8]) (by kernel_rfl) (by simp) ?_
        refine AllReadyH.cons rfl (fun K hK => ?_) AllReadyH.nil
        rw [if_pos (by rfl)]
        go_simp
        go_at_call 17
        (with_reducible refine (HTR.out _ hbq).mono ?_)
        rintro e v2 ⟨rfl, hbn⟩
        replace hbq := hbq.trans (hbn.mono hbq.size)
        clear hbn
        have HS := Lib.hid (HSK.out _ hbq)
        refine hK.out _ _ HS.out (fun _ => ?_)
        clear hK K
        try simp only [Act.put, sB, sZ, sS]
        refine hTk (i := 9) (d := 32) (v := .bool true) rfl rfl (Or.inl ⟨rfl, by rintro W' s0; have y := s0.cell; go_simp⟩) HS.out ?_
        simp only [Act.put, sB, sZ, sS]
        refine hTk (i := 10) (d := 33) (v := .bool true) rfl rfl (Or.inl ⟨rfl, by rintro W' s0; have y := s0.cell; go_simp⟩) HS.out ?_
        simp only [Act.put, sB, sZ, sS]
        refine hTk (i := 11) (d := 34) (v := .agg #[.int .i64 a.mass, .int .i64 a.len, .int .i64 a.speed, .int .i64 a.effort, .int .i64 a.brake, .int .i64 a.power, .int .i64 a.resist, .int .i64 a.rise, .int .i64 a.back, .slice A n c]) rfl rfl (Or.inl ⟨rfl, by rintro W' s0; have y := s0.cell; go_simp⟩) HS.out ?_
        simp only [Act.put, sB, sZ, sS]
        refine wpAnyH_ready (rs := [12]) (by kernel_rfl) (by simp) ?_
        refine AllReadyH.cons rfl (fun K hK => ?_) AllReadyH.nil
        rw [if_pos (by rfl)]
        go_simp
        go_at_call 16
        (with_reducible refine (HCK.out _ hbq).mono ?_)
        rintro e v1 ⟨rfl, hbn⟩
        replace hbq := hbq.trans (hbn.mono hbq.size)
        clear hbn
        have HS := Lib.hid (HSK.out _ hbq)
        refine hK.out _ _ HS.out (fun _ => ?_)
        clear hK K
        try simp only [Act.put, sB, sZ, sS]
        refine hTk (i := 13) (d := 36) (v := .bool false) rfl rfl (Or.inl ⟨rfl, by rintro W' s0; have y := s0.cell; go_simp⟩) HS.out ?_
        simp only [Act.put, sB, sZ, sS]
        refine hTk (i := 14) (d := 37) (v := .bool false) rfl rfl (Or.inl ⟨rfl, by rintro W' s0; have y := s0.cell; go_simp⟩) HS.out ?_
        simp only [Act.put, sB, sZ, sS]
        refine hTk (i := 15) (d := 38) (v := .bool false) rfl rfl (Or.inl ⟨rfl, by rintro W' s0; have y := s0.cell; go_simp⟩) HS.out ?_
        simp only [Act.put, sB, sZ, sS]
        refine wpAnyH_done (by kernel_rfl) ?_ _
        have HTR := HTR0
        have hb := hbq
        have HX5 := Lib.hid (HX4.out.trans (hb.mono HX4.out.size))
        have HYC_5 := Lib.hid (HYC_4.out.trans (hb.mono HYC_4.out.size))
        clear hb hbq HS
        obtain ⟨r1, r2, _⟩ := HK.out _ HX5.out
        have e := r1.cell; have f := r2.cell
        clear r1 r2
        have yC := (HQC.out _ HYC_5.out).1.cell
        go_wp2_with fail
        (with_reducible refine (HTR.out _ HX5.out).mono ?_)
        rintro e w7 ⟨rfl, hb⟩
        have HX6 := Lib.hid (HX5.out.trans (hb.mono HX5.out.size))
        have HYC_6 := Lib.hid (HYC_5.out.trans (hb.mono HYC_5.out.size))
        clear hb
        clear e f yC
        obtain ⟨r1, r2, _⟩ := HK.out _ HX6.out
        have e := r1.cell; have f := r2.cell
        clear r1 r2
        have yC := (HQC.out _ HYC_6.out).1.cell
        have HZ := Lib.hid (show ct = Tr0 ∧ ce = 2 from by
          have h : cplE a b = 2 := by unfold cplE; rw [if_neg (fun h => by have := h.1; rw [HRA.out] at this; cases this)]
          exact ⟨by rw [← HCT.out]; unfold cplT; rw [h]; rfl, by rw [← HCE.out, h]⟩)
        obtain ⟨z1, z2⟩ := HZ.out
        subst z2
        have HSZ := Lib.hid (show ∀ wx, Sl wx wx.heap.size 1 CI Ac ct.grip → Calls Tryz.prog 18 #[.agg #[.int .i64 ct.mass, .int .i64 ct.len, .int .i64 ct.speed, .int .i64 ct.effort, .int .i64 ct.brake, .int .i64 ct.power, .int .i64 ct.resist, .int .i64 ct.rise, .int .i64 ct.back, .slice Ac ct.grip.length cc], .agg #[.int .i64 0, .int .i64 0, .int .i64 0, .int .i64 0, .int .i64 0, .int .i64 0, .int .i64 0, .int .i64 0, .int .i64 0, .slice none 0 0]] wx fun e w' => e = .returned (.bool true) ∧ Below wx.heap.size wx w' from fun wx h => by
          have := rSame_any Ac none cc ct.grip.length 0 0 ct Tr0 wx rfl rfl (by rw [z1]; simp [Tr0]) (by omega) h (Sl.nilCI _ _)
          rw [show sameB ct Tr0 = true from by rw [z1]; rfl] at this
          exact this)
        clear z1
        go_wp2_with fail
        (with_reducible refine (HSZ.out _ (HQC.out _ HYC_6.out).2).mono ?_)
        rintro e w8 ⟨rfl, hb⟩
        have HX7 := Lib.hid (HX6.out.trans (hb.mono HX6.out.size))
        have HYC_7 := Lib.hid (HYC_6.out.trans (hb.mono HYC_6.out.size))
        clear hb
        clear e f yC
        obtain ⟨r1, r2, _⟩ := HK.out _ HX7.out
        have e := r1.cell; have f := r2.cell
        clear r1 r2
        have yC := (HQC.out _ HYC_7.out).1.cell
        go_wp2_with fail
        (with_reducible refine (HKN.out _ HX7.out).mono ?_)
        rintro e w9 ⟨rfl, hb⟩
        have HX8 := Lib.hid (HX7.out.trans (hb.mono HX7.out.size))
        have HYC_8 := Lib.hid (HYC_7.out.trans (hb.mono HYC_7.out.size))
        clear hb
        go_wp2
        go_ret
        exact ⟨by rfl, HB1.out.trans (HX8.out.mono HB1.out.size)⟩
      | true =>
        have HCK := Lib.hid (show ∀ wx, Below w5.heap.size w5 wx → Calls Tryz.prog 16 #[.agg #[.int .i64 a.mass, .int .i64 a.len, .int .i64 a.speed, .int .i64 a.effort, .int .i64 a.brake, .int .i64 a.power, .int .i64 a.resist, .int .i64 a.rise, .int .i64 a.back, .slice A n c]] wx fun e w' => e = .returned (.int .i64 0) ∧ Below wx.heap.size wx w' from fun wx h => HCK0.out wx (HX4.out.trans (h.mono HX4.out.size)))
        have HTR0 := HTR
        have HTR := Lib.hid (show ∀ wx, Below w5.heap.size w5 wx → Calls Tryz.prog 17 #[.agg #[.int .i64 a.mass, .int .i64 a.len, .int .i64 a.speed, .int .i64 a.effort, .int .i64 a.brake, .int .i64 a.power, .int .i64 a.resist, .int .i64 a.rise, .int .i64 a.back, .slice A n c]] wx fun e w' => e = .returned (.bool true) ∧ Below wx.heap.size wx w' from fun wx h => HTR0.out wx (HX4.out.trans (h.mono HX4.out.size)))
        have HS := Lib.hid (HSK.out _ hbq)
        clear e f yC
        refine wp_region_held_drew (S := fun wx => Rw wx B 24 #[.int .i64 a.mass, .int .i64 a.len, .int .i64 a.speed, .int .i64 a.effort, .int .i64 a.brake, .int .i64 a.power, .int .i64 a.resist, .int .i64 a.rise, .int .i64 a.back, .slice A n c]) (by kernel_rfl) HS.out (fun _ => ?_)
        refine hTk (i := 0) (d := 23) (v := .agg #[.int .i64 a.mass, .int .i64 a.len, .int .i64 a.speed, .int .i64 a.effort, .int .i64 a.brake, .int .i64 a.power, .int .i64 a.resist, .int .i64 a.rise, .int .i64 a.back, .slice A n c]) rfl rfl (Or.inl ⟨rfl, by rintro W' s0; have y := s0.cell; go_simp⟩) HS.out ?_
        simp only [Act.put, sB, sZ, sS]
        refine hTk (i := 3) (d := 26) (v := .agg #[.int .i64 a.mass, .int .i64 a.len, .int .i64 a.speed, .int .i64 a.effort, .int .i64 a.brake, .int .i64 a.power, .int .i64 a.resist, .int .i64 a.rise, .int .i64 a.back, .slice A n c]) rfl rfl (Or.inl ⟨rfl, by rintro W' s0; have y := s0.cell; go_simp⟩) HS.out ?_
        simp only [Act.put, sB, sZ, sS]
        refine wpAnyH_ready (rs := [1]) (by kernel_rfl) (by simp) ?_
        refine AllReadyH.cons rfl (fun K hK => ?_) AllReadyH.nil
        rw [if_pos (by rfl)]
        go_simp
        go_at_call 16
        (with_reducible refine (HCK.out _ hbq).mono ?_)
        rintro e v1 ⟨rfl, hbn⟩
        replace hbq := hbq.trans (hbn.mono hbq.size)
        clear hbn
        have HS := Lib.hid (HSK.out _ hbq)
        refine hK.out _ _ HS.out (fun _ => ?_)
        clear hK K
        try simp only [Act.put, sB, sZ, sS]
        refine hTk (i := 2) (d := 25) (v := .bool true) rfl rfl (Or.inl ⟨rfl, by rintro W' s0; have y := s0.cell; go_simp⟩) HS.out ?_
        simp only [Act.put, sB, sZ, sS]
        refine wpAnyH_ready (rs := [4]) (by kernel_rfl) (by simp) ?_
        refine AllReadyH.cons rfl (fun K hK => ?_) AllReadyH.nil
        rw [if_pos (by rfl)]
        go_simp
        go_at_call 17
        (with_reducible refine (HTR.out _ hbq).mono ?_)
        rintro e v2 ⟨rfl, hbn⟩
        replace hbq := hbq.trans (hbn.mono hbq.size)
        clear hbn
        have HS := Lib.hid (HSK.out _ hbq)
        refine hK.out _ _ HS.out (fun _ => ?_)
        clear hK K
        try simp only [Act.put, sB, sZ, sS]
        refine hTk (i := 5) (d := 28) (v := .bool false) rfl rfl (Or.inl ⟨rfl, by rintro W' s0; have y := s0.cell; go_simp⟩) HS.out ?_
        simp only [Act.put, sB, sZ, sS]
        refine hTk (i := 6) (d := 29) (v := .bool false) rfl rfl (Or.inl ⟨rfl, by rintro W' s0; have y := s0.cell; go_simp⟩) HS.out ?_
        simp only [Act.put, sB, sZ, sS]
        refine hTk (i := 7) (d := 30) (v := .agg #[.int .i64 a.mass, .int .i64 a.len, .int .i64 a.speed, .int .i64 a.effort, .int .i64 a.brake, .int .i64 a.power, .int .i64 a.resist, .int .i64 a.rise, .int .i64 a.back, .slice A n c]) rfl rfl (Or.inl ⟨rfl, by rintro W' s0; have y := s0.cell; go_simp⟩) HS.out ?_
        simp only [Act.put, sB, sZ, sS]
        refine wpAnyH_ready (rs := [8]) (by kernel_rfl) (by simp) ?_
        refine AllReadyH.cons rfl (fun K hK => ?_) AllReadyH.nil
        rw [if_pos (by rfl)]
        go_simp
        go_at_call 17
        (with_reducible refine (HTR.out _ hbq).mono ?_)
        rintro e v2 ⟨rfl, hbn⟩
        replace hbq := hbq.trans (hbn.mono hbq.size)
        clear hbn
        have HS := Lib.hid (HSK.out _ hbq)
        refine hK.out _ _ HS.out (fun _ => ?_)
        clear hK K
        try simp only [Act.put, sB, sZ, sS]
        refine hTk (i := 9) (d := 32) (v := .bool false) rfl rfl (Or.inl ⟨rfl, by rintro W' s0; have y := s0.cell; go_simp⟩) HS.out ?_
        simp only [Act.put, sB, sZ, sS]
        refine hTk (i := 10) (d := 33) (v := .bool false) rfl rfl (Or.inl ⟨rfl, by rintro W' s0; have y := s0.cell; go_simp⟩) HS.out ?_
        simp only [Act.put, sB, sZ, sS]
        refine hTk (i := 11) (d := 34) (v := undef) rfl rfl (Or.inr ⟨rfl, rfl⟩) HS.out ?_
        simp only [Act.put, sB, sZ, sS]
        refine hTk (i := 12) (d := 35) (v := undef) rfl rfl (Or.inr ⟨rfl, rfl⟩) HS.out ?_
        simp only [Act.put, sB, sZ, sS]
        refine hTk (i := 13) (d := 36) (v := undef) rfl rfl (Or.inr ⟨rfl, rfl⟩) HS.out ?_
        simp only [Act.put, sB, sZ, sS]
        refine hTk (i := 14) (d := 37) (v := .bool false) rfl rfl (Or.inl ⟨rfl, by rintro W' s0; have y := s0.cell; go_simp⟩) HS.out ?_
        simp only [Act.put, sB, sZ, sS]
        refine hTk (i := 15) (d := 38) (v := .bool false) rfl rfl (Or.inl ⟨rfl, by rintro W' s0; have y := s0.cell; go_simp⟩) HS.out ?_
        simp only [Act.put, sB, sZ, sS]
        refine wpAnyH_done (by kernel_rfl) ?_ _
        have HTR := HTR0
        have hb := hbq
        have HX5 := Lib.hid (HX4.out.trans (hb.mono HX4.out.size))
        have HYC_5 := Lib.hid (HYC_4.out.trans (hb.mono HYC_4.out.size))
        clear hb hbq HS
        obtain ⟨r1, r2, _⟩ := HK.out _ HX5.out
        have e := r1.cell; have f := r2.cell
        clear r1 r2
        have yC := (HQC.out _ HYC_5.out).1.cell
        go_wp2_with fail
        (with_reducible refine (HTR.out _ HX5.out).mono ?_)
        rintro e w7 ⟨rfl, hb⟩
        have HX6 := Lib.hid (HX5.out.trans (hb.mono HX5.out.size))
        have HYC_6 := Lib.hid (HYC_5.out.trans (hb.mono HYC_5.out.size))
        clear hb
        clear e f yC
        obtain ⟨r1, r2, _⟩ := HK.out _ HX6.out
        have e := r1.cell; have f := r2.cell
        clear r1 r2
        have yC := (HQC.out _ HYC_6.out).1.cell
        go_wp2_with fail
        (with_reducible refine (HTB.out _ HX6.out).mono ?_)
        rintro e w8 ⟨rfl, hb⟩
        have HX7 := Lib.hid (HX6.out.trans (hb.mono HX6.out.size))
        have HYC_7 := Lib.hid (HYC_6.out.trans (hb.mono HYC_6.out.size))
        clear hb
        clear e f yC
        obtain ⟨r1, r2, _⟩ := HK.out _ HX7.out
        have e := r1.cell; have f := r2.cell
        clear r1 r2
        have yC := (HQC.out _ HYC_7.out).1.cell
        cases rb with
        | false =>
          have HZ := Lib.hid (show ct = Tr0 ∧ ce = 2 from by
            have h : cplE a b = 2 := by unfold cplE; rw [if_neg (fun h => by have := h.2.1; rw [HRB.out] at this; cases this)]
            exact ⟨by rw [← HCT.out]; unfold cplT; rw [h]; rfl, by rw [← HCE.out, h]⟩)
          obtain ⟨z1, z2⟩ := HZ.out
          subst z2
          have HSZ := Lib.hid (show ∀ wx, Sl wx wx.heap.size 1 CI Ac ct.grip → Calls Tryz.prog 18 #[.agg #[.int .i64 ct.mass, .int .i64 ct.len, .int .i64 ct.speed, .int .i64 ct.effort, .int .i64 ct.brake, .int .i64 ct.power, .int .i64 ct.resist, .int .i64 ct.rise, .int .i64 ct.back, .slice Ac ct.grip.length cc], .agg #[.int .i64 0, .int .i64 0, .int .i64 0, .int .i64 0, .int .i64 0, .int .i64 0, .int .i64 0, .int .i64 0, .int .i64 0, .slice none 0 0]] wx fun e w' => e = .returned (.bool true) ∧ Below wx.heap.size wx w' from fun wx h => by
            have := rSame_any Ac none cc ct.grip.length 0 0 ct Tr0 wx rfl rfl (by rw [z1]; simp [Tr0]) (by omega) h (Sl.nilCI _ _)
            rw [show sameB ct Tr0 = true from by rw [z1]; rfl] at this
            exact this)
          clear z1
          go_wp2_with fail
          (with_reducible refine (HSZ.out _ (HQC.out _ HYC_7.out).2).mono ?_)
          rintro e w9 ⟨rfl, hb⟩
          have HX8 := Lib.hid (HX7.out.trans (hb.mono HX7.out.size))
          have HYC_8 := Lib.hid (HYC_7.out.trans (hb.mono HYC_7.out.size))
          clear hb
          clear e f yC
          obtain ⟨r1, r2, _⟩ := HK.out _ HX8.out
          have e := r1.cell; have f := r2.cell
          clear r1 r2
          have yC := (HQC.out _ HYC_8.out).1.cell
          go_wp2_with fail
          (with_reducible refine (HKN.out _ HX8.out).mono ?_)
          rintro e w10 ⟨rfl, hb⟩
          have HX9 := Lib.hid (HX8.out.trans (hb.mono HX8.out.size))
          have HYC_9 := Lib.hid (HYC_8.out.trans (hb.mono HYC_8.out.size))
          clear hb
          go_wp2
          go_ret
          exact ⟨by rfl, HB1.out.trans (HX9.out.mono HB1.out.size)⟩
        | true =>
          by_cases hnn : n = n2
          · subst hnn
            have HNN := Lib.hid (show a.grip.length = b.grip.length from HN.out.1.trans HN.out.2.symm)
            have HRC := Lib.hid (show ∀ wx, Below W1.heap.size W1 wx → Calls Tryz.prog 19 #[.agg #[.int .i64 a.mass, .int .i64 a.len, .int .i64 a.speed, .int .i64 a.effort, .int .i64 a.brake, .int .i64 a.power, .int .i64 a.resist, .int .i64 a.rise, .int .i64 a.back, .slice A n c], .agg #[.int .i64 b.mass, .int .i64 b.len, .int .i64 b.speed, .int .i64 b.effort, .int .i64 b.brake, .int .i64 b.power, .int .i64 b.resist, .int .i64 b.rise, .int .i64 b.back, .slice A2 n c2]] wx fun e w' => ∃ v, e = .returned (.agg #[.int .i64 (a.mass + b.mass), .int .i64 (a.len + b.len), .int .i64 (min a.speed b.speed), .int .i64 (a.effort + b.effort), .int .i64 (a.brake + b.brake), .int .i64 (a.power + b.power), .int .i64 (a.resist + b.resist), .int .i64 (a.rise + b.rise), .int .i64 (min a.back b.back), v]) ∧ Own w' wx.heap.size 3 1 fI v (coupT a b).grip ∧ Below wx.heap.size wx w' from fun wx h => rCouple_any A A2 c c2 n a b wx (TrOk.of HRA.out) (TrOk.of HRB.out) HN.out.1 HN.out.2 (HK.out wx h).2.2.1 (HK.out wx h).2.2.2)
            go_wp2_with fail
            (with_reducible refine (HRC.out _ HX7.out).mono ?_)
            rintro e w9 ⟨v, rfl, hown, hb⟩
            have HX8 := Lib.hid (HX7.out.trans (hb.mono HX7.out.size))
            have HYC_8 := Lib.hid (HYC_7.out.trans (hb.mono HYC_7.out.size))
            obtain ⟨Av, cv, hve, _, _, _⟩ := hown.form
            have hnl : (coupT a b).grip.length = n := (coupT_len a b).trans HN.out.1
            have hsv : Sl w9 w9.heap.size 1 CI Av (coupT a b).grip := (hown.sl fI_len hve).more (fun _ _ h => h) (Nat.le_refl _)
            rw [hnl] at hve
            subst hve
            have HSV := Lib.hid hsv; have HNL := Lib.hid hnl
            clear hown hsv hnl
            clear hb
            clear e f yC
            obtain ⟨r1, r2, _⟩ := HK.out _ HX8.out
            have e := r1.cell; have f := r2.cell
            clear r1 r2
            have yC := (HQC.out _ HYC_8.out).1.cell
            go_upto_region 9 with (fail)
            have hba := (Below.refl w9.heap.size w9).alloc (Nat.le_refl _) (.cells #[.int .i64 (a.mass + b.mass), .int .i64 (a.len + b.len), .int .i64 (min a.speed b.speed), .int .i64 (a.effort + b.effort), .int .i64 (a.brake + b.brake), .int .i64 (a.power + b.power), .int .i64 (a.resist + b.resist), .int .i64 (a.rise + b.rise), .int .i64 (min a.back b.back), .slice Av n cv] 24)
            have qa := Rw.new w9 #[.int .i64 (a.mass + b.mass), .int .i64 (a.len + b.len), .int .i64 (min a.speed b.speed), .int .i64 (a.effort + b.effort), .int .i64 (a.brake + b.brake), .int .i64 (a.power + b.power), .int .i64 (a.resist + b.resist), .int .i64 (a.rise + b.rise), .int .i64 (min a.back b.back), .slice Av n cv] 24
            obtain ⟨w10, hwa⟩ : ∃ z, w9.alloc (.cells #[.int .i64 (a.mass + b.mass), .int .i64 (a.len + b.len), .int .i64 (min a.speed b.speed), .int .i64 (a.effort + b.effort), .int .i64 (a.brake + b.brake), .int .i64 (a.power + b.power), .int .i64 (a.resist + b.resist), .int .i64 (a.rise + b.rise), .int .i64 (min a.back b.back), .slice Av n cv] 24) = z := ⟨_, rfl⟩
            rw [hwa] at hba qa ⊢
            clear hwa
            obtain ⟨MD, hM⟩ : ∃ n, w9.heap.size = n := ⟨_, rfl⟩
            rw [hM] at qa ⊢
            clear hM
            have HX9 := Lib.hid (HX8.out.trans (hba.mono HX8.out.size))
            have HYC_9 := Lib.hid (HYC_8.out.trans (hba.mono HYC_8.out.size))
            have HQD := Lib.hid (show ∀ wx, Below w10.heap.size w10 wx → Rw wx MD 24 #[.int .i64 (a.mass + b.mass), .int .i64 (a.len + b.len), .int .i64 (min a.speed b.speed), .int .i64 (a.effort + b.effort), .int .i64 (a.brake + b.brake), .int .i64 (a.power + b.power), .int .i64 (a.resist + b.resist), .int .i64 (a.rise + b.rise), .int .i64 (min a.back b.back), .slice Av n cv] ∧ Sl wx wx.heap.size 1 CI Av (coupT a b).grip from fun wx h => ⟨qa.below h qa.lt, (HSV.out.below (hba.trans (h.mono hba.size))).more (fun _ _ h => h) (Nat.le_trans hba.size h.size)⟩)
            have HYD_9 := Lib.hid (Below.refl w10.heap.size w10)
            clear hba qa
            clear e f yC
            obtain ⟨r1, r2, _⟩ := HK.out _ HX9.out
            have e := r1.cell; have f := r2.cell
            clear r1 r2
            have yC := (HQC.out _ HYC_9.out).1.cell
            have yD := (HQD.out _ HYD_9.out).1.cell
            obtain ⟨fb, hfb⟩ : ∃ f, fitsB (coupT a b) = f := ⟨_, rfl⟩
            have HFB := Lib.hid hfb
            have HTw := Lib.hid (show ∀ wx, Sl wx wx.heap.size 1 CI Av (coupT a b).grip → Calls Tryz.prog 17 #[.agg #[.int .i64 (a.mass + b.mass), .int .i64 (a.len + b.len), .int .i64 (min a.speed b.speed), .int .i64 (a.effort + b.effort), .int .i64 (a.brake + b.brake), .int .i64 (a.power + b.power), .int .i64 (a.resist + b.resist), .int .i64 (a.rise + b.rise), .int .i64 (min a.back b.back), .slice Av n cv]] wx fun e w' => e = .returned (.bool fb) ∧ Below wx.heap.size wx w' from fun wx h => by
              have := rTrain_any Av cv n (coupT a b) wx HNL.out (by omega) h
              rw [coup_right HRA.out HRB.out HNN.out, hfb] at this
              exact this)
            clear hfb
            go_wp2_with fail
            (with_reducible refine (HTw.out _ (HQD.out _ HYD_9.out).2).mono ?_)
            rintro e w11 ⟨rfl, hb⟩
            have HX10 := Lib.hid (HX9.out.trans (hb.mono HX9.out.size))
            have HYC_10 := Lib.hid (HYC_9.out.trans (hb.mono HYC_9.out.size))
            have HYD_10 := Lib.hid (HYD_9.out.trans (hb.mono HYD_9.out.size))
            clear hb
            clear e f yC yD
            obtain ⟨r1, r2, _⟩ := HK.out _ HX10.out
            have e := r1.cell; have f := r2.cell
            clear r1 r2
            have yC := (HQC.out _ HYC_10.out).1.cell
            have yD := (HQD.out _ HYD_10.out).1.cell
            cases fb with
            | false =>
              have HZ := Lib.hid (show ct = Tr0 ∧ ce = 3 from by
                have h : cplE a b = 3 := by unfold cplE; rw [if_pos ⟨HRA.out, HRB.out, HNN.out⟩, if_neg (by rw [HFB.out]; simp)]
                exact ⟨by rw [← HCT.out]; unfold cplT; rw [h]; rfl, by rw [← HCE.out, h]⟩)
              obtain ⟨z1, z2⟩ := HZ.out
              subst z2
              have HSZ := Lib.hid (show ∀ wx, Sl wx wx.heap.size 1 CI Ac ct.grip → Calls Tryz.prog 18 #[.agg #[.int .i64 ct.mass, .int .i64 ct.len, .int .i64 ct.speed, .int .i64 ct.effort, .int .i64 ct.brake, .int .i64 ct.power, .int .i64 ct.resist, .int .i64 ct.rise, .int .i64 ct.back, .slice Ac ct.grip.length cc], .agg #[.int .i64 0, .int .i64 0, .int .i64 0, .int .i64 0, .int .i64 0, .int .i64 0, .int .i64 0, .int .i64 0, .int .i64 0, .slice none 0 0]] wx fun e w' => e = .returned (.bool true) ∧ Below wx.heap.size wx w' from fun wx h => by
                have := rSame_any Ac none cc ct.grip.length 0 0 ct Tr0 wx rfl rfl (by rw [z1]; simp [Tr0]) (by omega) h (Sl.nilCI _ _)
                rw [show sameB ct Tr0 = true from by rw [z1]; rfl] at this
                exact this)
              clear z1
              go_wp2_with fail
              (with_reducible refine (HSZ.out _ (HQC.out _ HYC_10.out).2).mono ?_)
              rintro e w12 ⟨rfl, hb⟩
              have HX11 := Lib.hid (HX10.out.trans (hb.mono HX10.out.size))
              have HYC_11 := Lib.hid (HYC_10.out.trans (hb.mono HYC_10.out.size))
              have HYD_11 := Lib.hid (HYD_10.out.trans (hb.mono HYD_10.out.size))
              clear hb
              clear e f yC yD
              obtain ⟨r1, r2, _⟩ := HK.out _ HX11.out
              have e := r1.cell; have f := r2.cell
              clear r1 r2
              have yC := (HQC.out _ HYC_11.out).1.cell
              have yD := (HQD.out _ HYD_11.out).1.cell
              go_wp2_with fail
              (with_reducible refine (HKN.out _ HX11.out).mono ?_)
              rintro e w13 ⟨rfl, hb⟩
              have HX12 := Lib.hid (HX11.out.trans (hb.mono HX11.out.size))
              have HYC_12 := Lib.hid (HYC_11.out.trans (hb.mono HYC_11.out.size))
              have HYD_12 := Lib.hid (HYD_11.out.trans (hb.mono HYD_11.out.size))
              clear hb
              go_wp2
              go_ret
              exact ⟨by rfl, HB1.out.trans (HX12.out.mono HB1.out.size)⟩
            | true =>
              have HZ := Lib.hid (show ct = coupT a b ∧ ce = 0 from by
                have h : cplE a b = 0 := by unfold cplE; rw [if_pos ⟨HRA.out, HRB.out, HNN.out⟩, if_pos HFB.out]
                exact ⟨by rw [← HCT.out]; exact coupT_ref HNN.out h, by rw [← HCE.out, h]⟩)
              obtain ⟨z1, z2⟩ := HZ.out
              subst z2
              have HSW := Lib.hid (show ∀ wx, Sl wx wx.heap.size 1 CI Ac ct.grip → Sl wx wx.heap.size 1 CI Av (coupT a b).grip → Calls Tryz.prog 18 #[.agg #[.int .i64 ct.mass, .int .i64 ct.len, .int .i64 ct.speed, .int .i64 ct.effort, .int .i64 ct.brake, .int .i64 ct.power, .int .i64 ct.resist, .int .i64 ct.rise, .int .i64 ct.back, .slice Ac ct.grip.length cc], .agg #[.int .i64 (a.mass + b.mass), .int .i64 (a.len + b.len), .int .i64 (min a.speed b.speed), .int .i64 (a.effort + b.effort), .int .i64 (a.brake + b.brake), .int .i64 (a.power + b.power), .int .i64 (a.resist + b.resist), .int .i64 (a.rise + b.rise), .int .i64 (min a.back b.back), .slice Av n cv]] wx fun e w' => e = .returned (.bool true) ∧ Below wx.heap.size wx w' from fun wx h1 h2 => by
                have := rSame_any Ac Av cc ct.grip.length cv n ct (coupT a b) wx rfl HNL.out (by have := (TrOk.of HRA.out).g2; have := HN.out.1; rw [z1, HNL.out]; omega) (by have := (TrOk.of HRA.out).g2; have := HN.out.1; omega) h1 h2
                rw [show sameB ct (coupT a b) = true from by rw [z1]; exact sameB_refl _] at this
                exact this)
              clear z1
              go_wp2_with fail
              (with_reducible refine (HSW.out _ (HQC.out _ HYC_10.out).2 (HQD.out _ HYD_10.out).2).mono ?_)
              rintro e w12 ⟨rfl, hb⟩
              have HX11 := Lib.hid (HX10.out.trans (hb.mono HX10.out.size))
              have HYC_11 := Lib.hid (HYC_10.out.trans (hb.mono HYC_10.out.size))
              have HYD_11 := Lib.hid (HYD_10.out.trans (hb.mono HYD_10.out.size))
              clear hb
              clear e f yC yD
              obtain ⟨r1, r2, _⟩ := HK.out _ HX11.out
              have e := r1.cell; have f := r2.cell
              clear r1 r2
              have yC := (HQC.out _ HYC_11.out).1.cell
              have yD := (HQD.out _ HYD_11.out).1.cell
              go_wp2_with fail
              (with_reducible refine (HKN.out _ HX11.out).mono ?_)
              rintro e w13 ⟨rfl, hb⟩
              have HX12 := Lib.hid (HX11.out.trans (hb.mono HX11.out.size))
              have HYC_12 := Lib.hid (HYC_11.out.trans (hb.mono HYC_11.out.size))
              have HYD_12 := Lib.hid (HYD_11.out.trans (hb.mono HYD_11.out.size))
              clear hb
              go_wp2
              go_ret
              exact ⟨by rfl, HB1.out.trans (HX12.out.mono HB1.out.size)⟩
          · have hnb : ((n : Int) == (n2 : Int)) = false := by rw [beq_eq_false_iff_ne]; omega
            have HNN := Lib.hid (show ¬ a.grip.length = b.grip.length from by rw [HN.out.1, HN.out.2]; exact hnn)
            clear hnn
            have HZ := Lib.hid (show ct = Tr0 ∧ ce = 2 from by
              have h : cplE a b = 2 := by unfold cplE; rw [if_neg (fun h => HNN.out h.2.2)]
              exact ⟨by rw [← HCT.out]; unfold cplT; rw [h]; rfl, by rw [← HCE.out, h]⟩)
            obtain ⟨z1, z2⟩ := HZ.out
            subst z2
            have HSZ := Lib.hid (show ∀ wx, Sl wx wx.heap.size 1 CI Ac ct.grip → Calls Tryz.prog 18 #[.agg #[.int .i64 ct.mass, .int .i64 ct.len, .int .i64 ct.speed, .int .i64 ct.effort, .int .i64 ct.brake, .int .i64 ct.power, .int .i64 ct.resist, .int .i64 ct.rise, .int .i64 ct.back, .slice Ac ct.grip.length cc], .agg #[.int .i64 0, .int .i64 0, .int .i64 0, .int .i64 0, .int .i64 0, .int .i64 0, .int .i64 0, .int .i64 0, .int .i64 0, .slice none 0 0]] wx fun e w' => e = .returned (.bool true) ∧ Below wx.heap.size wx w' from fun wx h => by
              have := rSame_any Ac none cc ct.grip.length 0 0 ct Tr0 wx rfl rfl (by rw [z1]; simp [Tr0]) (by omega) h (Sl.nilCI _ _)
              rw [show sameB ct Tr0 = true from by rw [z1]; rfl] at this
              exact this)
            clear z1
            go_wp2_with fail
            (with_reducible refine (HSZ.out _ (HQC.out _ HYC_7.out).2).mono ?_)
            rintro e w9 ⟨rfl, hb⟩
            have HX8 := Lib.hid (HX7.out.trans (hb.mono HX7.out.size))
            have HYC_8 := Lib.hid (HYC_7.out.trans (hb.mono HYC_7.out.size))
            clear hb
            clear e f yC
            obtain ⟨r1, r2, _⟩ := HK.out _ HX8.out
            have e := r1.cell; have f := r2.cell
            clear r1 r2
            have yC := (HQC.out _ HYC_8.out).1.cell
            go_wp2_with fail
            (with_reducible refine (HKN.out _ HX8.out).mono ?_)
            rintro e w10 ⟨rfl, hb⟩
            have HX9 := Lib.hid (HX8.out.trans (hb.mono HX8.out.size))
            have HYC_9 := Lib.hid (HYC_8.out.trans (hb.mono HYC_8.out.size))
            clear hb
            go_wp2
            go_ret
            exact ⟨by rfl, HB1.out.trans (HX9.out.mono HB1.out.size)⟩
end Go.Proofs.YtfhkbbjddjddmaaGreat
