/- Law: MotionSteps. -/
import Derived.Test.YtfhkbbjddjddmaaGreatMj
namespace Go.Proofs.YtfhkbbjddjddmaaGreat
set_option linter.unusedVariables false
set_option linter.unusedSimpArgs false
open Go.RowKit

set_option maxRecDepth 100000 in
set_option maxHeartbeats 4000000 in
theorem MotionSteps_a (A : Option Addr) (c n : Nat) (t : Tr) (m y d sl st : Int) (w : World) (hn : t.grip.length = n) (hn2 : n ≤ 140737488351232) (hS : Sl w w.heap.size 1 CI A t.grip) (v6 : fineB t m y d sl st = false) :
    Calls Tryz.prog 5 #[.agg #[.int .i64 t.mass, .int .i64 t.len, .int .i64 t.speed, .int .i64 t.effort, .int .i64 t.brake, .int .i64 t.power, .int .i64 t.resist, .int .i64 t.rise, .int .i64 t.back, .slice A n c], .agg #[.int .i64 m, .int .i64 y], .int .i64 d, .int .i64 sl, .int .i64 st] w fun e w' => e = .returned (.bool true) ∧ Below w.heap.size w w' := by
  have hb1 := ((Below.refl w.heap.size w).alloc (Nat.le_refl _) (.cells #[.int .i64 t.mass, .int .i64 t.len, .int .i64 t.speed, .int .i64 t.effort, .int .i64 t.brake, .int .i64 t.power, .int .i64 t.resist, .int .i64 t.rise, .int .i64 t.back, .slice A n c] 24)).alloc (by simp) (.cells #[.int .i64 m, .int .i64 y] 35)
  obtain ⟨q1, q2⟩ := rows2 w #[.int .i64 t.mass, .int .i64 t.len, .int .i64 t.speed, .int .i64 t.effort, .int .i64 t.brake, .int .i64 t.power, .int .i64 t.resist, .int .i64 t.rise, .int .i64 t.back, .slice A n c] #[.int .i64 m, .int .i64 y] 24 35
  obtain ⟨W1, hW1⟩ : ∃ z, (w.alloc (.cells #[.int .i64 t.mass, .int .i64 t.len, .int .i64 t.speed, .int .i64 t.effort, .int .i64 t.brake, .int .i64 t.power, .int .i64 t.resist, .int .i64 t.rise, .int .i64 t.back, .slice A n c] 24)).alloc (.cells #[.int .i64 m, .int .i64 y] 35) = z := ⟨_, rfl⟩
  rw [hW1] at hb1 q1 q2
  obtain ⟨N, hN⟩ : ∃ n, w.heap.size = n := ⟨_, rfl⟩
  rw [hN] at q1 q2
  have HB1 := Lib.hid hb1
  have HX0 := Lib.hid (Below.refl W1.heap.size W1)
  have HK := Lib.hid (show ∀ wx, Below W1.heap.size W1 wx → Rw wx N 24 #[.int .i64 t.mass, .int .i64 t.len, .int .i64 t.speed, .int .i64 t.effort, .int .i64 t.brake, .int .i64 t.power, .int .i64 t.resist, .int .i64 t.rise, .int .i64 t.back, .slice A n c] ∧ Rw wx (N + 1) 35 #[.int .i64 m, .int .i64 y] ∧ Sl wx wx.heap.size 1 CI A t.grip from fun wx h => ⟨q1.below h q1.lt, q2.below h q2.lt, (hS.below (hb1.trans (h.mono hb1.size))).more (fun _ _ h => h) (Nat.le_trans hb1.size h.size)⟩)
  have e0 := q1.cell 0; have e1 := q1.cell 1; have e2 := q1.cell 2; have e3 := q1.cell 3; have e4 := q1.cell 4; have e5 := q1.cell 5; have e6 := q1.cell 6; have e7 := q1.cell 7; have e8 := q1.cell 8; have e9 := q1.cell 9; have f0 := q2.cell 0; have f1 := q2.cell 1
  obtain ⟨b0, h0⟩ : ∃ b, decide (n ≤ 20) = b := ⟨_, rfl⟩
  have HSH := Lib.hid (show ∀ wx, Below W1.heap.size W1 wx → Calls Tryz.prog 13 #[.agg #[.int .i64 t.mass, .int .i64 t.len, .int .i64 t.speed, .int .i64 t.effort, .int .i64 t.brake, .int .i64 t.power, .int .i64 t.resist, .int .i64 t.rise, .int .i64 t.back, .slice A n c]] wx fun e w' => e = .returned (.bool b0) ∧ Below wx.heap.size wx w' from fun wx h => by have := short_any A c n t wx hn2; rwa [h0] at this)
  have HKN := Lib.hid (show ∀ wx, Below W1.heap.size W1 wx → Calls Tryz.prog 14 #[] wx fun e w' => e = .returned (.bool true) ∧ Below wx.heap.size wx w' from fun wx _ => known_any wx)
  have v3 : mkE t m y d sl st = 2 := by unfold mkE; rw [if_neg (by rw [v6]; simp)]
  have v1 : stX t m y d sl st = #[.int .i64 0, .int .i64 0] := by unfold stX; rw [v3, if_neg (by omega)]
  have v2 : stL t m y d sl st = #[.int .i64 0, .int .i64 0, .int .i64 0, .int .i64 0, .int .i64 0, .int .i64 0] := by unfold stL; rw [v3, if_neg (by omega)]
  have v4 : pwT t m y d sl st = 0 := by unfold pwT; rw [v3, if_neg (by omega)]
  have v5 : pwG t m y d sl st = 0 := by unfold pwG; rw [v3, if_neg (by omega)]
  have HST := Lib.hid (show ∀ wx, Below W1.heap.size W1 wx → Calls Tryz.prog 20 #[.agg #[.int .i64 t.mass, .int .i64 t.len, .int .i64 t.speed, .int .i64 t.effort, .int .i64 t.brake, .int .i64 t.power, .int .i64 t.resist, .int .i64 t.rise, .int .i64 t.back, .slice A n c], .agg #[.int .i64 m, .int .i64 y], .int .i64 d, .int .i64 sl, .int .i64 st] wx fun e w' => e = .returned (.tuple #[.agg #[.int .i64 0, .int .i64 0], .agg #[.int .i64 0, .int .i64 0, .int .i64 0, .int .i64 0, .int .i64 0, .int .i64 0], .int .i64 2]) ∧ Below wx.heap.size wx w' from fun wx h => by have := step20_any A c n t m y d sl st wx hn hn2 (HK.out wx h).2.2; rwa [v1, v2, v3] at this)
  have HPW := Lib.hid (show ∀ wx, Below W1.heap.size W1 wx → Calls Tryz.prog 21 #[.agg #[.int .i64 t.mass, .int .i64 t.len, .int .i64 t.speed, .int .i64 t.effort, .int .i64 t.brake, .int .i64 t.power, .int .i64 t.resist, .int .i64 t.rise, .int .i64 t.back, .slice A n c], .agg #[.int .i64 m, .int .i64 y], .int .i64 d, .int .i64 sl, .int .i64 st] wx fun e w' => e = .returned (.tuple #[.int .i64 0, .int .i64 0, .int .i64 2]) ∧ Below wx.heap.size wx w' from fun wx h => by have := powers21_any A c n t m y d sl st wx hn hn2 (HK.out wx h).2.2; rwa [v3, v4, v5] at this)
  have HFI := Lib.hid (show ∀ wx, Below W1.heap.size W1 wx → Calls Tryz.prog 22 #[.agg #[.int .i64 t.mass, .int .i64 t.len, .int .i64 t.speed, .int .i64 t.effort, .int .i64 t.brake, .int .i64 t.power, .int .i64 t.resist, .int .i64 t.rise, .int .i64 t.back, .slice A n c], .agg #[.int .i64 m, .int .i64 y], .int .i64 d, .int .i64 sl, .int .i64 st] wx fun e w' => e = .returned (.bool false) ∧ Below wx.heap.size wx w' from fun wx h => by have := rFine_any A c n t m y d sl st wx hn hn2 (HK.out wx h).2.2; rwa [v6] at this)
  clear hb1 q1 q2 hS h0 hn v1 v2 v3 v4 v5 v6
  go_enter Tryz.func5, Tryz.ntmps5
  go_wp2_with fail
  (with_reducible refine (HSH.out _ HX0.out).mono ?_)
  rintro e w2 ⟨rfl, hb2⟩
  have HX1 := Lib.hid (HX0.out.trans (hb2.mono HX0.out.size))
  clear hb2
  clear e0 e1 e2 e3 e4 e5 e6 e7 e8 e9 f0 f1
  obtain ⟨r1, r2, _⟩ := HK.out _ HX1.out
  have e0 := r1.cell 0; have e1 := r1.cell 1; have e2 := r1.cell 2; have e3 := r1.cell 3; have e4 := r1.cell 4; have e5 := r1.cell 5; have e6 := r1.cell 6; have e7 := r1.cell 7; have e8 := r1.cell 8; have e9 := r1.cell 9; have f0 := r2.cell 0; have f1 := r2.cell 1
  clear r1 r2
  clear hW1 hN
  cases b0 with
  | false =>
    go_wp2_with fail
    (with_reducible refine (HKN.out _ HX1.out).mono ?_)
    rintro e w3 ⟨rfl, hb3⟩
    have HX2 := Lib.hid (HX1.out.trans (hb3.mono HX1.out.size))
    clear hb3
    go_wp2
    go_ret
    exact ⟨by rfl, HB1.out.trans (HX2.out.mono HB1.out.size)⟩
  | true =>
    go_wp2_with fail
    (with_reducible refine (HST.out _ HX1.out).mono ?_)
    rintro e w3 ⟨rfl, hb3⟩
    have HX2 := Lib.hid (HX1.out.trans (hb3.mono HX1.out.size))
    clear hb3
    clear e0 e1 e2 e3 e4 e5 e6 e7 e8 e9 f0 f1
    obtain ⟨r1, r2, _⟩ := HK.out _ HX2.out
    have e0 := r1.cell 0; have e1 := r1.cell 1; have e2 := r1.cell 2; have e3 := r1.cell 3; have e4 := r1.cell 4; have e5 := r1.cell 5; have e6 := r1.cell 6; have e7 := r1.cell 7; have e8 := r1.cell 8; have e9 := r1.cell 9; have f0 := r2.cell 0; have f1 := r2.cell 1
    clear r1 r2
    go_upto_region 4 with (fail)
    have hba := ((Below.refl w3.heap.size w3).alloc (Nat.le_refl _) (.cells #[.int .i64 0, .int .i64 0] 35)).alloc (by simp) (.cells #[.int .i64 0, .int .i64 0, .int .i64 0, .int .i64 0, .int .i64 0, .int .i64 0] 37)
    obtain ⟨qa, qb⟩ := rows2 w3 #[.int .i64 0, .int .i64 0] #[.int .i64 0, .int .i64 0, .int .i64 0, .int .i64 0, .int .i64 0, .int .i64 0] 35 37
    obtain ⟨w4, hwa⟩ : ∃ z, (w3.alloc (.cells #[.int .i64 0, .int .i64 0] 35)).alloc (.cells #[.int .i64 0, .int .i64 0, .int .i64 0, .int .i64 0, .int .i64 0, .int .i64 0] 37) = z := ⟨_, rfl⟩
    rw [hwa] at hba qa qb ⊢
    clear hwa
    obtain ⟨MHA, hM⟩ : ∃ n, w3.heap.size = n := ⟨_, rfl⟩
    rw [hM] at qa qb ⊢
    have HX3 := Lib.hid (HX2.out.trans (hba.mono HX2.out.size))
    have HA := Lib.hid (show ∀ wx, Below w4.heap.size w4 wx → Rw wx MHA 35 #[.int .i64 0, .int .i64 0] ∧ Rw wx (MHA + 1) 37 #[.int .i64 0, .int .i64 0, .int .i64 0, .int .i64 0, .int .i64 0, .int .i64 0] from fun wx h => ⟨qa.below h qa.lt, qb.below h qb.lt⟩)
    have HYHA_3 := Lib.hid (Below.refl w4.heap.size w4)
    clear hba qa qb hM
    clear e0 e1 e2 e3 e4 e5 e6 e7 e8 e9 f0 f1
    obtain ⟨r1, r2, _⟩ := HK.out _ HX3.out
    have e0 := r1.cell 0; have e1 := r1.cell 1; have e2 := r1.cell 2; have e3 := r1.cell 3; have e4 := r1.cell 4; have e5 := r1.cell 5; have e6 := r1.cell 6; have e7 := r1.cell 7; have e8 := r1.cell 8; have e9 := r1.cell 9; have f0 := r2.cell 0; have f1 := r2.cell 1
    clear r1 r2
    obtain ⟨u1, u2⟩ := HA.out _ HYHA_3.out
    have k0_0 := u1.cell 0; have k0_1 := u1.cell 1; have g0_0 := u2.cell 0; have g0_1 := u2.cell 1; have g0_2 := u2.cell 2; have g0_3 := u2.cell 3; have g0_4 := u2.cell 4; have g0_5 := u2.cell 5
    clear u1 u2
    go_wp2_with fail
    (with_reducible refine (HPW.out _ HX3.out).mono ?_)
    rintro e w5 ⟨rfl, hb5⟩
    have HX4 := Lib.hid (HX3.out.trans (hb5.mono HX3.out.size))
    have HYHA_4 := Lib.hid (HYHA_3.out.trans (hb5.mono HYHA_3.out.size))
    clear hb5
    clear e0 e1 e2 e3 e4 e5 e6 e7 e8 e9 f0 f1 k0_0 k0_1 g0_0 g0_1 g0_2 g0_3 g0_4 g0_5
    obtain ⟨r1, r2, _⟩ := HK.out _ HX4.out
    have e0 := r1.cell 0; have e1 := r1.cell 1; have e2 := r1.cell 2; have e3 := r1.cell 3; have e4 := r1.cell 4; have e5 := r1.cell 5; have e6 := r1.cell 6; have e7 := r1.cell 7; have e8 := r1.cell 8; have e9 := r1.cell 9; have f0 := r2.cell 0; have f1 := r2.cell 1
    clear r1 r2
    obtain ⟨u1, u2⟩ := HA.out _ HYHA_4.out
    have k0_0 := u1.cell 0; have k0_1 := u1.cell 1; have g0_0 := u2.cell 0; have g0_1 := u2.cell 1; have g0_2 := u2.cell 2; have g0_3 := u2.cell 3; have g0_4 := u2.cell 4; have g0_5 := u2.cell 5
    clear u1 u2
    go_wp2_with fail
    (with_reducible refine (HFI.out _ HX4.out).mono ?_)
    rintro e w6 ⟨rfl, hb6⟩
    have HX5 := Lib.hid (HX4.out.trans (hb6.mono HX4.out.size))
    have HYHA_5 := Lib.hid (HYHA_4.out.trans (hb6.mono HYHA_4.out.size))
    clear hb6
    clear e0 e1 e2 e3 e4 e5 e6 e7 e8 e9 f0 f1 k0_0 k0_1 g0_0 g0_1 g0_2 g0_3 g0_4 g0_5
    obtain ⟨r1, r2, _⟩ := HK.out _ HX5.out
    have e0 := r1.cell 0; have e1 := r1.cell 1; have e2 := r1.cell 2; have e3 := r1.cell 3; have e4 := r1.cell 4; have e5 := r1.cell 5; have e6 := r1.cell 6; have e7 := r1.cell 7; have e8 := r1.cell 8; have e9 := r1.cell 9; have f0 := r2.cell 0; have f1 := r2.cell 1
    clear r1 r2
    obtain ⟨u1, u2⟩ := HA.out _ HYHA_5.out
    have k0_0 := u1.cell 0; have k0_1 := u1.cell 1; have g0_0 := u2.cell 0; have g0_1 := u2.cell 1; have g0_2 := u2.cell 2; have g0_3 := u2.cell 3; have g0_4 := u2.cell 4; have g0_5 := u2.cell 5
    clear u1 u2
    go_wp2_with fail
    (with_reducible refine (HKN.out _ HX5.out).mono ?_)
    rintro e w7 ⟨rfl, hb7⟩
    have HX6 := Lib.hid (HX5.out.trans (hb7.mono HX5.out.size))
    have HYHA_6 := Lib.hid (HYHA_5.out.trans (hb7.mono HYHA_5.out.size))
    clear hb7
    go_wp2
    go_ret
    exact ⟨by rfl, HB1.out.trans (HX6.out.mono HB1.out.size)⟩
set_option maxRecDepth 100000 in
set_option maxHeartbeats 4000000 in
theorem MotionSteps_b (A : Option Addr) (c n : Nat) (t : Tr) (m y d sl st : Int) (w : World) (hn : t.grip.length = n) (hn2 : n ≤ 140737488351232) (hS : Sl w w.heap.size 1 CI A t.grip) (v6 : fineB t m y d sl st = true) (v7 : ¬ (mkQ t m d sl st ≤ 25000 * t.mass ∧ y + mkQ t m d sl st ≤ 10000000000000000)) :
    Calls Tryz.prog 5 #[.agg #[.int .i64 t.mass, .int .i64 t.len, .int .i64 t.speed, .int .i64 t.effort, .int .i64 t.brake, .int .i64 t.power, .int .i64 t.resist, .int .i64 t.rise, .int .i64 t.back, .slice A n c], .agg #[.int .i64 m, .int .i64 y], .int .i64 d, .int .i64 sl, .int .i64 st] w fun e w' => e = .returned (.bool true) ∧ Below w.heap.size w w' := by
  have hb1 := ((Below.refl w.heap.size w).alloc (Nat.le_refl _) (.cells #[.int .i64 t.mass, .int .i64 t.len, .int .i64 t.speed, .int .i64 t.effort, .int .i64 t.brake, .int .i64 t.power, .int .i64 t.resist, .int .i64 t.rise, .int .i64 t.back, .slice A n c] 24)).alloc (by simp) (.cells #[.int .i64 m, .int .i64 y] 35)
  obtain ⟨q1, q2⟩ := rows2 w #[.int .i64 t.mass, .int .i64 t.len, .int .i64 t.speed, .int .i64 t.effort, .int .i64 t.brake, .int .i64 t.power, .int .i64 t.resist, .int .i64 t.rise, .int .i64 t.back, .slice A n c] #[.int .i64 m, .int .i64 y] 24 35
  obtain ⟨W1, hW1⟩ : ∃ z, (w.alloc (.cells #[.int .i64 t.mass, .int .i64 t.len, .int .i64 t.speed, .int .i64 t.effort, .int .i64 t.brake, .int .i64 t.power, .int .i64 t.resist, .int .i64 t.rise, .int .i64 t.back, .slice A n c] 24)).alloc (.cells #[.int .i64 m, .int .i64 y] 35) = z := ⟨_, rfl⟩
  rw [hW1] at hb1 q1 q2
  obtain ⟨N, hN⟩ : ∃ n, w.heap.size = n := ⟨_, rfl⟩
  rw [hN] at q1 q2
  have HB1 := Lib.hid hb1
  have HX0 := Lib.hid (Below.refl W1.heap.size W1)
  have HK := Lib.hid (show ∀ wx, Below W1.heap.size W1 wx → Rw wx N 24 #[.int .i64 t.mass, .int .i64 t.len, .int .i64 t.speed, .int .i64 t.effort, .int .i64 t.brake, .int .i64 t.power, .int .i64 t.resist, .int .i64 t.rise, .int .i64 t.back, .slice A n c] ∧ Rw wx (N + 1) 35 #[.int .i64 m, .int .i64 y] ∧ Sl wx wx.heap.size 1 CI A t.grip from fun wx h => ⟨q1.below h q1.lt, q2.below h q2.lt, (hS.below (hb1.trans (h.mono hb1.size))).more (fun _ _ h => h) (Nat.le_trans hb1.size h.size)⟩)
  have e0 := q1.cell 0; have e1 := q1.cell 1; have e2 := q1.cell 2; have e3 := q1.cell 3; have e4 := q1.cell 4; have e5 := q1.cell 5; have e6 := q1.cell 6; have e7 := q1.cell 7; have e8 := q1.cell 8; have e9 := q1.cell 9; have f0 := q2.cell 0; have f1 := q2.cell 1
  obtain ⟨b0, h0⟩ : ∃ b, decide (n ≤ 20) = b := ⟨_, rfl⟩
  have HSH := Lib.hid (show ∀ wx, Below W1.heap.size W1 wx → Calls Tryz.prog 13 #[.agg #[.int .i64 t.mass, .int .i64 t.len, .int .i64 t.speed, .int .i64 t.effort, .int .i64 t.brake, .int .i64 t.power, .int .i64 t.resist, .int .i64 t.rise, .int .i64 t.back, .slice A n c]] wx fun e w' => e = .returned (.bool b0) ∧ Below wx.heap.size wx w' from fun wx h => by have := short_any A c n t wx hn2; rwa [h0] at this)
  have HKN := Lib.hid (show ∀ wx, Below W1.heap.size W1 wx → Calls Tryz.prog 14 #[] wx fun e w' => e = .returned (.bool true) ∧ Below wx.heap.size wx w' from fun wx _ => known_any wx)
  have v3 : mkE t m y d sl st = 3 := by unfold mkE; rw [if_pos v6, if_neg v7]
  have v1 : stX t m y d sl st = #[.int .i64 0, .int .i64 0] := by unfold stX; rw [v3, if_neg (by omega)]
  have v2 : stL t m y d sl st = #[.int .i64 0, .int .i64 0, .int .i64 0, .int .i64 0, .int .i64 0, .int .i64 0] := by unfold stL; rw [v3, if_neg (by omega)]
  have v4 : pwT t m y d sl st = 0 := by unfold pwT; rw [v3, if_neg (by omega)]
  have v5 : pwG t m y d sl st = 0 := by unfold pwG; rw [v3, if_neg (by omega)]
  have HST := Lib.hid (show ∀ wx, Below W1.heap.size W1 wx → Calls Tryz.prog 20 #[.agg #[.int .i64 t.mass, .int .i64 t.len, .int .i64 t.speed, .int .i64 t.effort, .int .i64 t.brake, .int .i64 t.power, .int .i64 t.resist, .int .i64 t.rise, .int .i64 t.back, .slice A n c], .agg #[.int .i64 m, .int .i64 y], .int .i64 d, .int .i64 sl, .int .i64 st] wx fun e w' => e = .returned (.tuple #[.agg #[.int .i64 0, .int .i64 0], .agg #[.int .i64 0, .int .i64 0, .int .i64 0, .int .i64 0, .int .i64 0, .int .i64 0], .int .i64 3]) ∧ Below wx.heap.size wx w' from fun wx h => by have := step20_any A c n t m y d sl st wx hn hn2 (HK.out wx h).2.2; rwa [v1, v2, v3] at this)
  have HPW := Lib.hid (show ∀ wx, Below W1.heap.size W1 wx → Calls Tryz.prog 21 #[.agg #[.int .i64 t.mass, .int .i64 t.len, .int .i64 t.speed, .int .i64 t.effort, .int .i64 t.brake, .int .i64 t.power, .int .i64 t.resist, .int .i64 t.rise, .int .i64 t.back, .slice A n c], .agg #[.int .i64 m, .int .i64 y], .int .i64 d, .int .i64 sl, .int .i64 st] wx fun e w' => e = .returned (.tuple #[.int .i64 0, .int .i64 0, .int .i64 3]) ∧ Below wx.heap.size wx w' from fun wx h => by have := powers21_any A c n t m y d sl st wx hn hn2 (HK.out wx h).2.2; rwa [v3, v4, v5] at this)
  have HFI := Lib.hid (show ∀ wx, Below W1.heap.size W1 wx → Calls Tryz.prog 22 #[.agg #[.int .i64 t.mass, .int .i64 t.len, .int .i64 t.speed, .int .i64 t.effort, .int .i64 t.brake, .int .i64 t.power, .int .i64 t.resist, .int .i64 t.rise, .int .i64 t.back, .slice A n c], .agg #[.int .i64 m, .int .i64 y], .int .i64 d, .int .i64 sl, .int .i64 st] wx fun e w' => e = .returned (.bool true) ∧ Below wx.heap.size wx w' from fun wx h => by have := rFine_any A c n t m y d sl st wx hn hn2 (HK.out wx h).2.2; rwa [v6] at this)
  have hF : FineOk t m y d sl st := FineOk.of v6
  obtain ⟨q, hq⟩ : ∃ q, mkQ t m d sl st = q := ⟨_, rfl⟩
  obtain ⟨lg, hlg⟩ : ∃ g, mkL t m d sl st = g := ⟨_, rfl⟩
  obtain ⟨ok, hok⟩ : ∃ b, decide (mkQ t m d sl st ≤ 25000 * t.mass) = b := ⟨_, rfl⟩
  have HRS := Lib.hid (show ∀ wx, Below W1.heap.size W1 wx → Calls Tryz.prog 23 #[.agg #[.int .i64 t.mass, .int .i64 t.len, .int .i64 t.speed, .int .i64 t.effort, .int .i64 t.brake, .int .i64 t.power, .int .i64 t.resist, .int .i64 t.rise, .int .i64 t.back, .slice A n c], .agg #[.int .i64 m, .int .i64 y], .int .i64 d, .int .i64 sl, .int .i64 st] wx fun e w' => e = .returned (.tuple #[.agg #[.int .i64 q, .int .i64 (y + q)], .agg #[.int .i64 lg.pull, .int .i64 lg.brake, .int .i64 lg.drag, .int .i64 lg.hill, .int .i64 lg.round, .int .i64 lg.hold], .bool ok]) ∧ Below wx.heap.size wx w' from fun wx h => by have := rStep_any A c n t m y d sl st wx hn hn2 (HK.out wx h).2.2 hF; rw [hok, hq, hlg] at this; exact this)
  rw [hq] at v7 hok
  have HV := Lib.hid (And.intro v7 hok)
  clear hq hlg hok v7 hF
  clear hb1 q1 q2 hS h0 hn v1 v2 v3 v4 v5 v6
  go_enter Tryz.func5, Tryz.ntmps5
  go_wp2_with fail
  (with_reducible refine (HSH.out _ HX0.out).mono ?_)
  rintro e w2 ⟨rfl, hb2⟩
  have HX1 := Lib.hid (HX0.out.trans (hb2.mono HX0.out.size))
  clear hb2
  clear e0 e1 e2 e3 e4 e5 e6 e7 e8 e9 f0 f1
  obtain ⟨r1, r2, _⟩ := HK.out _ HX1.out
  have e0 := r1.cell 0; have e1 := r1.cell 1; have e2 := r1.cell 2; have e3 := r1.cell 3; have e4 := r1.cell 4; have e5 := r1.cell 5; have e6 := r1.cell 6; have e7 := r1.cell 7; have e8 := r1.cell 8; have e9 := r1.cell 9; have f0 := r2.cell 0; have f1 := r2.cell 1
  clear r1 r2
  clear hW1 hN
  cases b0 with
  | false =>
    go_wp2_with fail
    (with_reducible refine (HKN.out _ HX1.out).mono ?_)
    rintro e w3 ⟨rfl, hb3⟩
    have HX2 := Lib.hid (HX1.out.trans (hb3.mono HX1.out.size))
    clear hb3
    go_wp2
    go_ret
    exact ⟨by rfl, HB1.out.trans (HX2.out.mono HB1.out.size)⟩
  | true =>
    go_wp2_with fail
    (with_reducible refine (HST.out _ HX1.out).mono ?_)
    rintro e w3 ⟨rfl, hb3⟩
    have HX2 := Lib.hid (HX1.out.trans (hb3.mono HX1.out.size))
    clear hb3
    clear e0 e1 e2 e3 e4 e5 e6 e7 e8 e9 f0 f1
    obtain ⟨r1, r2, _⟩ := HK.out _ HX2.out
    have e0 := r1.cell 0; have e1 := r1.cell 1; have e2 := r1.cell 2; have e3 := r1.cell 3; have e4 := r1.cell 4; have e5 := r1.cell 5; have e6 := r1.cell 6; have e7 := r1.cell 7; have e8 := r1.cell 8; have e9 := r1.cell 9; have f0 := r2.cell 0; have f1 := r2.cell 1
    clear r1 r2
    go_upto_region 4 with (fail)
    have hba := ((Below.refl w3.heap.size w3).alloc (Nat.le_refl _) (.cells #[.int .i64 0, .int .i64 0] 35)).alloc (by simp) (.cells #[.int .i64 0, .int .i64 0, .int .i64 0, .int .i64 0, .int .i64 0, .int .i64 0] 37)
    obtain ⟨qa, qb⟩ := rows2 w3 #[.int .i64 0, .int .i64 0] #[.int .i64 0, .int .i64 0, .int .i64 0, .int .i64 0, .int .i64 0, .int .i64 0] 35 37
    obtain ⟨w4, hwa⟩ : ∃ z, (w3.alloc (.cells #[.int .i64 0, .int .i64 0] 35)).alloc (.cells #[.int .i64 0, .int .i64 0, .int .i64 0, .int .i64 0, .int .i64 0, .int .i64 0] 37) = z := ⟨_, rfl⟩
    rw [hwa] at hba qa qb ⊢
    clear hwa
    obtain ⟨MHA, hM⟩ : ∃ n, w3.heap.size = n := ⟨_, rfl⟩
    rw [hM] at qa qb ⊢
    have HX3 := Lib.hid (HX2.out.trans (hba.mono HX2.out.size))
    have HA := Lib.hid (show ∀ wx, Below w4.heap.size w4 wx → Rw wx MHA 35 #[.int .i64 0, .int .i64 0] ∧ Rw wx (MHA + 1) 37 #[.int .i64 0, .int .i64 0, .int .i64 0, .int .i64 0, .int .i64 0, .int .i64 0] from fun wx h => ⟨qa.below h qa.lt, qb.below h qb.lt⟩)
    have HYHA_3 := Lib.hid (Below.refl w4.heap.size w4)
    clear hba qa qb hM
    clear e0 e1 e2 e3 e4 e5 e6 e7 e8 e9 f0 f1
    obtain ⟨r1, r2, _⟩ := HK.out _ HX3.out
    have e0 := r1.cell 0; have e1 := r1.cell 1; have e2 := r1.cell 2; have e3 := r1.cell 3; have e4 := r1.cell 4; have e5 := r1.cell 5; have e6 := r1.cell 6; have e7 := r1.cell 7; have e8 := r1.cell 8; have e9 := r1.cell 9; have f0 := r2.cell 0; have f1 := r2.cell 1
    clear r1 r2
    obtain ⟨u1, u2⟩ := HA.out _ HYHA_3.out
    have k0_0 := u1.cell 0; have k0_1 := u1.cell 1; have g0_0 := u2.cell 0; have g0_1 := u2.cell 1; have g0_2 := u2.cell 2; have g0_3 := u2.cell 3; have g0_4 := u2.cell 4; have g0_5 := u2.cell 5
    clear u1 u2
    go_wp2_with fail
    (with_reducible refine (HPW.out _ HX3.out).mono ?_)
    rintro e w5 ⟨rfl, hb5⟩
    have HX4 := Lib.hid (HX3.out.trans (hb5.mono HX3.out.size))
    have HYHA_4 := Lib.hid (HYHA_3.out.trans (hb5.mono HYHA_3.out.size))
    clear hb5
    clear e0 e1 e2 e3 e4 e5 e6 e7 e8 e9 f0 f1 k0_0 k0_1 g0_0 g0_1 g0_2 g0_3 g0_4 g0_5
    obtain ⟨r1, r2, _⟩ := HK.out _ HX4.out
    have e0 := r1.cell 0; have e1 := r1.cell 1; have e2 := r1.cell 2; have e3 := r1.cell 3; have e4 := r1.cell 4; have e5 := r1.cell 5; have e6 := r1.cell 6; have e7 := r1.cell 7; have e8 := r1.cell 8; have e9 := r1.cell 9; have f0 := r2.cell 0; have f1 := r2.cell 1
    clear r1 r2
    obtain ⟨u1, u2⟩ := HA.out _ HYHA_4.out
    have k0_0 := u1.cell 0; have k0_1 := u1.cell 1; have g0_0 := u2.cell 0; have g0_1 := u2.cell 1; have g0_2 := u2.cell 2; have g0_3 := u2.cell 3; have g0_4 := u2.cell 4; have g0_5 := u2.cell 5
    clear u1 u2
    go_wp2_with fail
    (with_reducible refine (HFI.out _ HX4.out).mono ?_)
    rintro e w6 ⟨rfl, hb6⟩
    have HX5 := Lib.hid (HX4.out.trans (hb6.mono HX4.out.size))
    have HYHA_5 := Lib.hid (HYHA_4.out.trans (hb6.mono HYHA_4.out.size))
    clear hb6
    clear e0 e1 e2 e3 e4 e5 e6 e7 e8 e9 f0 f1 k0_0 k0_1 g0_0 g0_1 g0_2 g0_3 g0_4 g0_5
    obtain ⟨r1, r2, _⟩ := HK.out _ HX5.out
    have e0 := r1.cell 0; have e1 := r1.cell 1; have e2 := r1.cell 2; have e3 := r1.cell 3; have e4 := r1.cell 4; have e5 := r1.cell 5; have e6 := r1.cell 6; have e7 := r1.cell 7; have e8 := r1.cell 8; have e9 := r1.cell 9; have f0 := r2.cell 0; have f1 := r2.cell 1
    clear r1 r2
    obtain ⟨u1, u2⟩ := HA.out _ HYHA_5.out
    have k0_0 := u1.cell 0; have k0_1 := u1.cell 1; have g0_0 := u2.cell 0; have g0_1 := u2.cell 1; have g0_2 := u2.cell 2; have g0_3 := u2.cell 3; have g0_4 := u2.cell 4; have g0_5 := u2.cell 5
    clear u1 u2
    go_wp2_with fail
    (with_reducible refine (HRS.out _ HX5.out).mono ?_)
    rintro e w7 ⟨rfl, hb7⟩
    have HX6 := Lib.hid (HX5.out.trans (hb7.mono HX5.out.size))
    have HYHA_6 := Lib.hid (HYHA_5.out.trans (hb7.mono HYHA_5.out.size))
    clear hb7
    clear e0 e1 e2 e3 e4 e5 e6 e7 e8 e9 f0 f1 k0_0 k0_1 g0_0 g0_1 g0_2 g0_3 g0_4 g0_5
    obtain ⟨r1, r2, _⟩ := HK.out _ HX6.out
    have e0 := r1.cell 0; have e1 := r1.cell 1; have e2 := r1.cell 2; have e3 := r1.cell 3; have e4 := r1.cell 4; have e5 := r1.cell 5; have e6 := r1.cell 6; have e7 := r1.cell 7; have e8 := r1.cell 8; have e9 := r1.cell 9; have f0 := r2.cell 0; have f1 := r2.cell 1
    clear r1 r2
    obtain ⟨u1, u2⟩ := HA.out _ HYHA_6.out
    have k0_0 := u1.cell 0; have k0_1 := u1.cell 1; have g0_0 := u2.cell 0; have g0_1 := u2.cell 1; have g0_2 := u2.cell 2; have g0_3 := u2.cell 3; have g0_4 := u2.cell 4; have g0_5 := u2.cell 5
    clear u1 u2
    go_upto_region 8 with (fail)
    have hba := ((Below.refl w7.heap.size w7).alloc (Nat.le_refl _) (.cells #[.int .i64 q, .int .i64 (y + q)] 35)).alloc (by simp) (.cells #[.int .i64 lg.pull, .int .i64 lg.brake, .int .i64 lg.drag, .int .i64 lg.hill, .int .i64 lg.round, .int .i64 lg.hold] 37)
    obtain ⟨qa, qb⟩ := rows2 w7 #[.int .i64 q, .int .i64 (y + q)] #[.int .i64 lg.pull, .int .i64 lg.brake, .int .i64 lg.drag, .int .i64 lg.hill, .int .i64 lg.round, .int .i64 lg.hold] 35 37
    obtain ⟨w8, hwa⟩ : ∃ z, (w7.alloc (.cells #[.int .i64 q, .int .i64 (y + q)] 35)).alloc (.cells #[.int .i64 lg.pull, .int .i64 lg.brake, .int .i64 lg.drag, .int .i64 lg.hill, .int .i64 lg.round, .int .i64 lg.hold] 37) = z := ⟨_, rfl⟩
    rw [hwa] at hba qa qb ⊢
    clear hwa
    obtain ⟨MHC, hM⟩ : ∃ n, w7.heap.size = n := ⟨_, rfl⟩
    rw [hM] at qa qb ⊢
    have HX7 := Lib.hid (HX6.out.trans (hba.mono HX6.out.size))
    have HYHA_7 := Lib.hid (HYHA_6.out.trans (hba.mono HYHA_6.out.size))
    have HC := Lib.hid (show ∀ wx, Below w8.heap.size w8 wx → Rw wx MHC 35 #[.int .i64 q, .int .i64 (y + q)] ∧ Rw wx (MHC + 1) 37 #[.int .i64 lg.pull, .int .i64 lg.brake, .int .i64 lg.drag, .int .i64 lg.hill, .int .i64 lg.round, .int .i64 lg.hold] from fun wx h => ⟨qa.below h qa.lt, qb.below h qb.lt⟩)
    have HYHC_7 := Lib.hid (Below.refl w8.heap.size w8)
    clear hba qa qb hM
    clear e0 e1 e2 e3 e4 e5 e6 e7 e8 e9 f0 f1 k0_0 k0_1 g0_0 g0_1 g0_2 g0_3 g0_4 g0_5
    obtain ⟨r1, r2, _⟩ := HK.out _ HX7.out
    have e0 := r1.cell 0; have e1 := r1.cell 1; have e2 := r1.cell 2; have e3 := r1.cell 3; have e4 := r1.cell 4; have e5 := r1.cell 5; have e6 := r1.cell 6; have e7 := r1.cell 7; have e8 := r1.cell 8; have e9 := r1.cell 9; have f0 := r2.cell 0; have f1 := r2.cell 1
    clear r1 r2
    obtain ⟨u1, u2⟩ := HA.out _ HYHA_7.out
    have k0_0 := u1.cell 0; have k0_1 := u1.cell 1; have g0_0 := u2.cell 0; have g0_1 := u2.cell 1; have g0_2 := u2.cell 2; have g0_3 := u2.cell 3; have g0_4 := u2.cell 4; have g0_5 := u2.cell 5
    clear u1 u2
    obtain ⟨u1, u2⟩ := HC.out _ HYHC_7.out
    have k1_0 := u1.cell 0; have k1_1 := u1.cell 1; have g1_0 := u2.cell 0; have g1_1 := u2.cell 1; have g1_2 := u2.cell 2; have g1_3 := u2.cell 3; have g1_4 := u2.cell 4; have g1_5 := u2.cell 5
    clear u1 u2
    cases ok with
    | false =>
      go_wp2_with fail
      (with_reducible refine (HKN.out _ HX7.out).mono ?_)
      rintro e w9 ⟨rfl, hb9⟩
      have HX8 := Lib.hid (HX7.out.trans (hb9.mono HX7.out.size))
      have HYHA_8 := Lib.hid (HYHA_7.out.trans (hb9.mono HYHA_7.out.size))
      have HYHC_8 := Lib.hid (HYHC_7.out.trans (hb9.mono HYHC_7.out.size))
      clear hb9
      go_wp2
      go_ret
      exact ⟨by rfl, HB1.out.trans (HX8.out.mono HB1.out.size)⟩
    | true =>
      have hbig : 10000000000000000 < y + q := by
        obtain ⟨h7, h8⟩ := HV.out
        have := of_decide_eq_true h8
        omega
      go_wp2_with fail
      (with_reducible refine (HKN.out _ HX7.out).mono ?_)
      rintro e w9 ⟨rfl, hb9⟩
      have HX8 := Lib.hid (HX7.out.trans (hb9.mono HX7.out.size))
      have HYHA_8 := Lib.hid (HYHA_7.out.trans (hb9.mono HYHA_7.out.size))
      have HYHC_8 := Lib.hid (HYHC_7.out.trans (hb9.mono HYHC_7.out.size))
      clear hb9
      go_wp2
      go_ret
      exact ⟨by rfl, HB1.out.trans (HX8.out.mono HB1.out.size)⟩
set_option maxRecDepth 100000 in
set_option maxHeartbeats 4000000 in
theorem MotionSteps_c (A : Option Addr) (c n : Nat) (t : Tr) (m y d sl st : Int) (w : World) (hn : t.grip.length = n) (hn2 : n ≤ 140737488351232) (hS : Sl w w.heap.size 1 CI A t.grip) (v6 : fineB t m y d sl st = true) (v7 : mkQ t m d sl st ≤ 25000 * t.mass ∧ y + mkQ t m d sl st ≤ 10000000000000000) :
    Calls Tryz.prog 5 #[.agg #[.int .i64 t.mass, .int .i64 t.len, .int .i64 t.speed, .int .i64 t.effort, .int .i64 t.brake, .int .i64 t.power, .int .i64 t.resist, .int .i64 t.rise, .int .i64 t.back, .slice A n c], .agg #[.int .i64 m, .int .i64 y], .int .i64 d, .int .i64 sl, .int .i64 st] w fun e w' => e = .returned (.bool true) ∧ Below w.heap.size w w' := by
  have hb1 := ((Below.refl w.heap.size w).alloc (Nat.le_refl _) (.cells #[.int .i64 t.mass, .int .i64 t.len, .int .i64 t.speed, .int .i64 t.effort, .int .i64 t.brake, .int .i64 t.power, .int .i64 t.resist, .int .i64 t.rise, .int .i64 t.back, .slice A n c] 24)).alloc (by simp) (.cells #[.int .i64 m, .int .i64 y] 35)
  obtain ⟨q1, q2⟩ := rows2 w #[.int .i64 t.mass, .int .i64 t.len, .int .i64 t.speed, .int .i64 t.effort, .int .i64 t.brake, .int .i64 t.power, .int .i64 t.resist, .int .i64 t.rise, .int .i64 t.back, .slice A n c] #[.int .i64 m, .int .i64 y] 24 35
  obtain ⟨W1, hW1⟩ : ∃ z, (w.alloc (.cells #[.int .i64 t.mass, .int .i64 t.len, .int .i64 t.speed, .int .i64 t.effort, .int .i64 t.brake, .int .i64 t.power, .int .i64 t.resist, .int .i64 t.rise, .int .i64 t.back, .slice A n c] 24)).alloc (.cells #[.int .i64 m, .int .i64 y] 35) = z := ⟨_, rfl⟩
  rw [hW1] at hb1 q1 q2
  obtain ⟨N, hN⟩ : ∃ n, w.heap.size = n := ⟨_, rfl⟩
  rw [hN] at q1 q2
  have HB1 := Lib.hid hb1
  have HX0 := Lib.hid (Below.refl W1.heap.size W1)
  have HK := Lib.hid (show ∀ wx, Below W1.heap.size W1 wx → Rw wx N 24 #[.int .i64 t.mass, .int .i64 t.len, .int .i64 t.speed, .int .i64 t.effort, .int .i64 t.brake, .int .i64 t.power, .int .i64 t.resist, .int .i64 t.rise, .int .i64 t.back, .slice A n c] ∧ Rw wx (N + 1) 35 #[.int .i64 m, .int .i64 y] ∧ Sl wx wx.heap.size 1 CI A t.grip from fun wx h => ⟨q1.below h q1.lt, q2.below h q2.lt, (hS.below (hb1.trans (h.mono hb1.size))).more (fun _ _ h => h) (Nat.le_trans hb1.size h.size)⟩)
  have e0 := q1.cell 0; have e1 := q1.cell 1; have e2 := q1.cell 2; have e3 := q1.cell 3; have e4 := q1.cell 4; have e5 := q1.cell 5; have e6 := q1.cell 6; have e7 := q1.cell 7; have e8 := q1.cell 8; have e9 := q1.cell 9; have f0 := q2.cell 0; have f1 := q2.cell 1
  obtain ⟨b0, h0⟩ : ∃ b, decide (n ≤ 20) = b := ⟨_, rfl⟩
  have HSH := Lib.hid (show ∀ wx, Below W1.heap.size W1 wx → Calls Tryz.prog 13 #[.agg #[.int .i64 t.mass, .int .i64 t.len, .int .i64 t.speed, .int .i64 t.effort, .int .i64 t.brake, .int .i64 t.power, .int .i64 t.resist, .int .i64 t.rise, .int .i64 t.back, .slice A n c]] wx fun e w' => e = .returned (.bool b0) ∧ Below wx.heap.size wx w' from fun wx h => by have := short_any A c n t wx hn2; rwa [h0] at this)
  have HKN := Lib.hid (show ∀ wx, Below W1.heap.size W1 wx → Calls Tryz.prog 14 #[] wx fun e w' => e = .returned (.bool true) ∧ Below wx.heap.size wx w' from fun wx _ => known_any wx)
  have v3 : mkE t m y d sl st = 0 := by unfold mkE; rw [if_pos v6, if_pos v7]
  obtain ⟨q, hq⟩ : ∃ q, mkQ t m d sl st = q := ⟨_, rfl⟩
  obtain ⟨lg, hlg⟩ : ∃ g, mkL t m d sl st = g := ⟨_, rfl⟩
  obtain ⟨tk, htk⟩ : ∃ g, tookZ t (mkF t m d sl st) (mkQ t m d sl st) = g := ⟨_, rfl⟩
  obtain ⟨gv, hgv⟩ : ∃ g, gaveZ t (mkF t m d sl st) (mkQ t m d sl st) = g := ⟨_, rfl⟩
  have v1 : stX t m y d sl st = #[.int .i64 q, .int .i64 (y + q)] := by unfold stX; rw [if_pos v3, hq]
  have v2 : stL t m y d sl st = #[.int .i64 lg.pull, .int .i64 lg.brake, .int .i64 lg.drag, .int .i64 lg.hill, .int .i64 lg.round, .int .i64 lg.hold] := by unfold stL; rw [if_pos v3, hlg]; rfl
  have v4 : pwT t m y d sl st = tk := by unfold pwT; rw [if_pos v3, htk]
  have v5 : pwG t m y d sl st = gv := by unfold pwG; rw [if_pos v3, hgv]
  have hF : FineOk t m y d sl st := FineOk.of v6
  have HRS := Lib.hid (show ∀ wx, Below W1.heap.size W1 wx → Calls Tryz.prog 23 #[.agg #[.int .i64 t.mass, .int .i64 t.len, .int .i64 t.speed, .int .i64 t.effort, .int .i64 t.brake, .int .i64 t.power, .int .i64 t.resist, .int .i64 t.rise, .int .i64 t.back, .slice A n c], .agg #[.int .i64 m, .int .i64 y], .int .i64 d, .int .i64 sl, .int .i64 st] wx fun e w' => e = .returned (.tuple #[.agg #[.int .i64 q, .int .i64 (y + q)], .agg #[.int .i64 lg.pull, .int .i64 lg.brake, .int .i64 lg.drag, .int .i64 lg.hill, .int .i64 lg.round, .int .i64 lg.hold], .bool true]) ∧ Below wx.heap.size wx w' from fun wx h => by have := rStep_any A c n t m y d sl st wx hn hn2 (HK.out wx h).2.2 hF; rw [decide_eq_true v7.1, hq, hlg] at this; exact this)
  have HRP := Lib.hid (show ∀ wx, Below W1.heap.size W1 wx → Calls Tryz.prog 24 #[.agg #[.int .i64 t.mass, .int .i64 t.len, .int .i64 t.speed, .int .i64 t.effort, .int .i64 t.brake, .int .i64 t.power, .int .i64 t.resist, .int .i64 t.rise, .int .i64 t.back, .slice A n c], .agg #[.int .i64 m, .int .i64 y], .int .i64 d, .int .i64 sl, .int .i64 st] wx fun e w' => e = .returned (.tuple #[.int .i64 tk, .int .i64 gv]) ∧ Below wx.heap.size wx w' from fun wx h => by have := rPowers_any A c n t m y d sl st wx hn hn2 (HK.out wx h).2.2 hF; rw [htk, hgv] at this; exact this)
  rw [hq] at v7
  have hsm : ¬ 10000000000000000 < y + q := by omega
  have HST := Lib.hid (show ∀ wx, Below W1.heap.size W1 wx → Calls Tryz.prog 20 #[.agg #[.int .i64 t.mass, .int .i64 t.len, .int .i64 t.speed, .int .i64 t.effort, .int .i64 t.brake, .int .i64 t.power, .int .i64 t.resist, .int .i64 t.rise, .int .i64 t.back, .slice A n c], .agg #[.int .i64 m, .int .i64 y], .int .i64 d, .int .i64 sl, .int .i64 st] wx fun e w' => e = .returned (.tuple #[.agg #[.int .i64 q, .int .i64 (y + q)], .agg #[.int .i64 lg.pull, .int .i64 lg.brake, .int .i64 lg.drag, .int .i64 lg.hill, .int .i64 lg.round, .int .i64 lg.hold], .int .i64 0]) ∧ Below wx.heap.size wx w' from fun wx h => by have := step20_any A c n t m y d sl st wx hn hn2 (HK.out wx h).2.2; rwa [v1, v2, v3] at this)
  have HPW := Lib.hid (show ∀ wx, Below W1.heap.size W1 wx → Calls Tryz.prog 21 #[.agg #[.int .i64 t.mass, .int .i64 t.len, .int .i64 t.speed, .int .i64 t.effort, .int .i64 t.brake, .int .i64 t.power, .int .i64 t.resist, .int .i64 t.rise, .int .i64 t.back, .slice A n c], .agg #[.int .i64 m, .int .i64 y], .int .i64 d, .int .i64 sl, .int .i64 st] wx fun e w' => e = .returned (.tuple #[.int .i64 tk, .int .i64 gv, .int .i64 0]) ∧ Below wx.heap.size wx w' from fun wx h => by have := powers21_any A c n t m y d sl st wx hn hn2 (HK.out wx h).2.2; rwa [v3, v4, v5] at this)
  have HFI := Lib.hid (show ∀ wx, Below W1.heap.size W1 wx → Calls Tryz.prog 22 #[.agg #[.int .i64 t.mass, .int .i64 t.len, .int .i64 t.speed, .int .i64 t.effort, .int .i64 t.brake, .int .i64 t.power, .int .i64 t.resist, .int .i64 t.rise, .int .i64 t.back, .slice A n c], .agg #[.int .i64 m, .int .i64 y], .int .i64 d, .int .i64 sl, .int .i64 st] wx fun e w' => e = .returned (.bool true) ∧ Below wx.heap.size wx w' from fun wx h => by have := rFine_any A c n t m y d sl st wx hn hn2 (HK.out wx h).2.2; rwa [v6] at this)
  clear hq hlg htk hgv v7 hF
  clear hb1 q1 q2 hS h0 hn v1 v2 v3 v4 v5 v6
  go_enter Tryz.func5, Tryz.ntmps5
  go_wp2_with fail
  (with_reducible refine (HSH.out _ HX0.out).mono ?_)
  rintro e w2 ⟨rfl, hb2⟩
  have HX1 := Lib.hid (HX0.out.trans (hb2.mono HX0.out.size))
  clear hb2
  clear e0 e1 e2 e3 e4 e5 e6 e7 e8 e9 f0 f1
  obtain ⟨r1, r2, _⟩ := HK.out _ HX1.out
  have e0 := r1.cell 0; have e1 := r1.cell 1; have e2 := r1.cell 2; have e3 := r1.cell 3; have e4 := r1.cell 4; have e5 := r1.cell 5; have e6 := r1.cell 6; have e7 := r1.cell 7; have e8 := r1.cell 8; have e9 := r1.cell 9; have f0 := r2.cell 0; have f1 := r2.cell 1
  clear r1 r2
  clear hW1 hN
  cases b0 with
  | false =>
    go_wp2_with fail
    (with_reducible refine (HKN.out _ HX1.out).mono ?_)
    rintro e w3 ⟨rfl, hb3⟩
    have HX2 := Lib.hid (HX1.out.trans (hb3.mono HX1.out.size))
    clear hb3
    go_wp2
    go_ret
    exact ⟨by rfl, HB1.out.trans (HX2.out.mono HB1.out.size)⟩
  | true =>
    go_wp2_with fail
    (with_reducible refine (HST.out _ HX1.out).mono ?_)
    rintro e w3 ⟨rfl, hb3⟩
    have HX2 := Lib.hid (HX1.out.trans (hb3.mono HX1.out.size))
    clear hb3
    clear e0 e1 e2 e3 e4 e5 e6 e7 e8 e9 f0 f1
    obtain ⟨r1, r2, _⟩ := HK.out _ HX2.out
    have e0 := r1.cell 0; have e1 := r1.cell 1; have e2 := r1.cell 2; have e3 := r1.cell 3; have e4 := r1.cell 4; have e5 := r1.cell 5; have e6 := r1.cell 6; have e7 := r1.cell 7; have e8 := r1.cell 8; have e9 := r1.cell 9; have f0 := r2.cell 0; have f1 := r2.cell 1
    clear r1 r2
    go_upto_region 4 with (fail)
    have hba := ((Below.refl w3.heap.size w3).alloc (Nat.le_refl _) (.cells #[.int .i64 q, .int .i64 (y + q)] 35)).alloc (by simp) (.cells #[.int .i64 lg.pull, .int .i64 lg.brake, .int .i64 lg.drag, .int .i64 lg.hill, .int .i64 lg.round, .int .i64 lg.hold] 37)
    obtain ⟨qa, qb⟩ := rows2 w3 #[.int .i64 q, .int .i64 (y + q)] #[.int .i64 lg.pull, .int .i64 lg.brake, .int .i64 lg.drag, .int .i64 lg.hill, .int .i64 lg.round, .int .i64 lg.hold] 35 37
    obtain ⟨w4, hwa⟩ : ∃ z, (w3.alloc (.cells #[.int .i64 q, .int .i64 (y + q)] 35)).alloc (.cells #[.int .i64 lg.pull, .int .i64 lg.brake, .int .i64 lg.drag, .int .i64 lg.hill, .int .i64 lg.round, .int .i64 lg.hold] 37) = z := ⟨_, rfl⟩
    rw [hwa] at hba qa qb ⊢
    clear hwa
    obtain ⟨MHA, hM⟩ : ∃ n, w3.heap.size = n := ⟨_, rfl⟩
    rw [hM] at qa qb ⊢
    have HX3 := Lib.hid (HX2.out.trans (hba.mono HX2.out.size))
    have HA := Lib.hid (show ∀ wx, Below w4.heap.size w4 wx → Rw wx MHA 35 #[.int .i64 q, .int .i64 (y + q)] ∧ Rw wx (MHA + 1) 37 #[.int .i64 lg.pull, .int .i64 lg.brake, .int .i64 lg.drag, .int .i64 lg.hill, .int .i64 lg.round, .int .i64 lg.hold] from fun wx h => ⟨qa.below h qa.lt, qb.below h qb.lt⟩)
    have HYHA_3 := Lib.hid (Below.refl w4.heap.size w4)
    clear hba qa qb hM
    clear e0 e1 e2 e3 e4 e5 e6 e7 e8 e9 f0 f1
    obtain ⟨r1, r2, _⟩ := HK.out _ HX3.out
    have e0 := r1.cell 0; have e1 := r1.cell 1; have e2 := r1.cell 2; have e3 := r1.cell 3; have e4 := r1.cell 4; have e5 := r1.cell 5; have e6 := r1.cell 6; have e7 := r1.cell 7; have e8 := r1.cell 8; have e9 := r1.cell 9; have f0 := r2.cell 0; have f1 := r2.cell 1
    clear r1 r2
    obtain ⟨u1, u2⟩ := HA.out _ HYHA_3.out
    have k0_0 := u1.cell 0; have k0_1 := u1.cell 1; have g0_0 := u2.cell 0; have g0_1 := u2.cell 1; have g0_2 := u2.cell 2; have g0_3 := u2.cell 3; have g0_4 := u2.cell 4; have g0_5 := u2.cell 5
    clear u1 u2
    go_wp2_with fail
    (with_reducible refine (HPW.out _ HX3.out).mono ?_)
    rintro e w5 ⟨rfl, hb5⟩
    have HX4 := Lib.hid (HX3.out.trans (hb5.mono HX3.out.size))
    have HYHA_4 := Lib.hid (HYHA_3.out.trans (hb5.mono HYHA_3.out.size))
    clear hb5
    clear e0 e1 e2 e3 e4 e5 e6 e7 e8 e9 f0 f1 k0_0 k0_1 g0_0 g0_1 g0_2 g0_3 g0_4 g0_5
    obtain ⟨r1, r2, _⟩ := HK.out _ HX4.out
    have e0 := r1.cell 0; have e1 := r1.cell 1; have e2 := r1.cell 2; have e3 := r1.cell 3; have e4 := r1.cell 4; have e5 := r1.cell 5; have e6 := r1.cell 6; have e7 := r1.cell 7; have e8 := r1.cell 8; have e9 := r1.cell 9; have f0 := r2.cell 0; have f1 := r2.cell 1
    clear r1 r2
    obtain ⟨u1, u2⟩ := HA.out _ HYHA_4.out
    have k0_0 := u1.cell 0; have k0_1 := u1.cell 1; have g0_0 := u2.cell 0; have g0_1 := u2.cell 1; have g0_2 := u2.cell 2; have g0_3 := u2.cell 3; have g0_4 := u2.cell 4; have g0_5 := u2.cell 5
    clear u1 u2
    go_wp2_with fail
    (with_reducible refine (HFI.out _ HX4.out).mono ?_)
    rintro e w6 ⟨rfl, hb6⟩
    have HX5 := Lib.hid (HX4.out.trans (hb6.mono HX4.out.size))
    have HYHA_5 := Lib.hid (HYHA_4.out.trans (hb6.mono HYHA_4.out.size))
    clear hb6
    clear e0 e1 e2 e3 e4 e5 e6 e7 e8 e9 f0 f1 k0_0 k0_1 g0_0 g0_1 g0_2 g0_3 g0_4 g0_5
    obtain ⟨r1, r2, _⟩ := HK.out _ HX5.out
    have e0 := r1.cell 0; have e1 := r1.cell 1; have e2 := r1.cell 2; have e3 := r1.cell 3; have e4 := r1.cell 4; have e5 := r1.cell 5; have e6 := r1.cell 6; have e7 := r1.cell 7; have e8 := r1.cell 8; have e9 := r1.cell 9; have f0 := r2.cell 0; have f1 := r2.cell 1
    clear r1 r2
    obtain ⟨u1, u2⟩ := HA.out _ HYHA_5.out
    have k0_0 := u1.cell 0; have k0_1 := u1.cell 1; have g0_0 := u2.cell 0; have g0_1 := u2.cell 1; have g0_2 := u2.cell 2; have g0_3 := u2.cell 3; have g0_4 := u2.cell 4; have g0_5 := u2.cell 5
    clear u1 u2
    go_wp2_with fail
    (with_reducible refine (HRS.out _ HX5.out).mono ?_)
    rintro e w7 ⟨rfl, hb7⟩
    have HX6 := Lib.hid (HX5.out.trans (hb7.mono HX5.out.size))
    have HYHA_6 := Lib.hid (HYHA_5.out.trans (hb7.mono HYHA_5.out.size))
    clear hb7
    clear e0 e1 e2 e3 e4 e5 e6 e7 e8 e9 f0 f1 k0_0 k0_1 g0_0 g0_1 g0_2 g0_3 g0_4 g0_5
    obtain ⟨r1, r2, _⟩ := HK.out _ HX6.out
    have e0 := r1.cell 0; have e1 := r1.cell 1; have e2 := r1.cell 2; have e3 := r1.cell 3; have e4 := r1.cell 4; have e5 := r1.cell 5; have e6 := r1.cell 6; have e7 := r1.cell 7; have e8 := r1.cell 8; have e9 := r1.cell 9; have f0 := r2.cell 0; have f1 := r2.cell 1
    clear r1 r2
    obtain ⟨u1, u2⟩ := HA.out _ HYHA_6.out
    have k0_0 := u1.cell 0; have k0_1 := u1.cell 1; have g0_0 := u2.cell 0; have g0_1 := u2.cell 1; have g0_2 := u2.cell 2; have g0_3 := u2.cell 3; have g0_4 := u2.cell 4; have g0_5 := u2.cell 5
    clear u1 u2
    go_upto_region 8 with (fail)
    have hba := ((Below.refl w7.heap.size w7).alloc (Nat.le_refl _) (.cells #[.int .i64 q, .int .i64 (y + q)] 35)).alloc (by simp) (.cells #[.int .i64 lg.pull, .int .i64 lg.brake, .int .i64 lg.drag, .int .i64 lg.hill, .int .i64 lg.round, .int .i64 lg.hold] 37)
    obtain ⟨qa, qb⟩ := rows2 w7 #[.int .i64 q, .int .i64 (y + q)] #[.int .i64 lg.pull, .int .i64 lg.brake, .int .i64 lg.drag, .int .i64 lg.hill, .int .i64 lg.round, .int .i64 lg.hold] 35 37
    obtain ⟨w8, hwa⟩ : ∃ z, (w7.alloc (.cells #[.int .i64 q, .int .i64 (y + q)] 35)).alloc (.cells #[.int .i64 lg.pull, .int .i64 lg.brake, .int .i64 lg.drag, .int .i64 lg.hill, .int .i64 lg.round, .int .i64 lg.hold] 37) = z := ⟨_, rfl⟩
    rw [hwa] at hba qa qb ⊢
    clear hwa
    obtain ⟨MHC, hM⟩ : ∃ n, w7.heap.size = n := ⟨_, rfl⟩
    rw [hM] at qa qb ⊢
    have HX7 := Lib.hid (HX6.out.trans (hba.mono HX6.out.size))
    have HYHA_7 := Lib.hid (HYHA_6.out.trans (hba.mono HYHA_6.out.size))
    have HC := Lib.hid (show ∀ wx, Below w8.heap.size w8 wx → Rw wx MHC 35 #[.int .i64 q, .int .i64 (y + q)] ∧ Rw wx (MHC + 1) 37 #[.int .i64 lg.pull, .int .i64 lg.brake, .int .i64 lg.drag, .int .i64 lg.hill, .int .i64 lg.round, .int .i64 lg.hold] from fun wx h => ⟨qa.below h qa.lt, qb.below h qb.lt⟩)
    have HYHC_7 := Lib.hid (Below.refl w8.heap.size w8)
    clear hba qa qb hM
    clear e0 e1 e2 e3 e4 e5 e6 e7 e8 e9 f0 f1 k0_0 k0_1 g0_0 g0_1 g0_2 g0_3 g0_4 g0_5
    obtain ⟨r1, r2, _⟩ := HK.out _ HX7.out
    have e0 := r1.cell 0; have e1 := r1.cell 1; have e2 := r1.cell 2; have e3 := r1.cell 3; have e4 := r1.cell 4; have e5 := r1.cell 5; have e6 := r1.cell 6; have e7 := r1.cell 7; have e8 := r1.cell 8; have e9 := r1.cell 9; have f0 := r2.cell 0; have f1 := r2.cell 1
    clear r1 r2
    obtain ⟨u1, u2⟩ := HA.out _ HYHA_7.out
    have k0_0 := u1.cell 0; have k0_1 := u1.cell 1; have g0_0 := u2.cell 0; have g0_1 := u2.cell 1; have g0_2 := u2.cell 2; have g0_3 := u2.cell 3; have g0_4 := u2.cell 4; have g0_5 := u2.cell 5
    clear u1 u2
    obtain ⟨u1, u2⟩ := HC.out _ HYHC_7.out
    have k1_0 := u1.cell 0; have k1_1 := u1.cell 1; have g1_0 := u2.cell 0; have g1_1 := u2.cell 1; have g1_2 := u2.cell 2; have g1_3 := u2.cell 3; have g1_4 := u2.cell 4; have g1_5 := u2.cell 5
    clear u1 u2
    go_wp2_with fail
    (with_reducible refine (HRP.out _ HX7.out).mono ?_)
    rintro e w9 ⟨rfl, hb9⟩
    have HX8 := Lib.hid (HX7.out.trans (hb9.mono HX7.out.size))
    have HYHA_8 := Lib.hid (HYHA_7.out.trans (hb9.mono HYHA_7.out.size))
    have HYHC_8 := Lib.hid (HYHC_7.out.trans (hb9.mono HYHC_7.out.size))
    clear hb9
    clear e0 e1 e2 e3 e4 e5 e6 e7 e8 e9 f0 f1 k0_0 k0_1 g0_0 g0_1 g0_2 g0_3 g0_4 g0_5 k1_0 k1_1 g1_0 g1_1 g1_2 g1_3 g1_4 g1_5
    obtain ⟨r1, r2, _⟩ := HK.out _ HX8.out
    have e0 := r1.cell 0; have e1 := r1.cell 1; have e2 := r1.cell 2; have e3 := r1.cell 3; have e4 := r1.cell 4; have e5 := r1.cell 5; have e6 := r1.cell 6; have e7 := r1.cell 7; have e8 := r1.cell 8; have e9 := r1.cell 9; have f0 := r2.cell 0; have f1 := r2.cell 1
    clear r1 r2
    obtain ⟨u1, u2⟩ := HA.out _ HYHA_8.out
    have k0_0 := u1.cell 0; have k0_1 := u1.cell 1; have g0_0 := u2.cell 0; have g0_1 := u2.cell 1; have g0_2 := u2.cell 2; have g0_3 := u2.cell 3; have g0_4 := u2.cell 4; have g0_5 := u2.cell 5
    clear u1 u2
    obtain ⟨u1, u2⟩ := HC.out _ HYHC_8.out
    have k1_0 := u1.cell 0; have k1_1 := u1.cell 1; have g1_0 := u2.cell 0; have g1_1 := u2.cell 1; have g1_2 := u2.cell 2; have g1_3 := u2.cell 3; have g1_4 := u2.cell 4; have g1_5 := u2.cell 5
    clear u1 u2
    go_wp2_with fail
    (with_reducible refine (HKN.out _ HX8.out).mono ?_)
    rintro e w10 ⟨rfl, hb10⟩
    have HX9 := Lib.hid (HX8.out.trans (hb10.mono HX8.out.size))
    have HYHA_9 := Lib.hid (HYHA_8.out.trans (hb10.mono HYHA_8.out.size))
    have HYHC_9 := Lib.hid (HYHC_8.out.trans (hb10.mono HYHC_8.out.size))
    clear hb10
    go_wp2
    go_ret
    exact ⟨by rfl, HB1.out.trans (HX9.out.mono HB1.out.size)⟩
theorem MotionSteps_any (A : Option Addr) (c n : Nat) (t : Tr) (m y d sl st : Int) (w : World) (hn : t.grip.length = n) (hn2 : n ≤ 140737488351232) (hS : Sl w w.heap.size 1 CI A t.grip) :
    Calls Tryz.prog 5 #[.agg #[.int .i64 t.mass, .int .i64 t.len, .int .i64 t.speed, .int .i64 t.effort, .int .i64 t.brake, .int .i64 t.power, .int .i64 t.resist, .int .i64 t.rise, .int .i64 t.back, .slice A n c], .agg #[.int .i64 m, .int .i64 y], .int .i64 d, .int .i64 sl, .int .i64 st] w fun e w' => e = .returned (.bool true) ∧ Below w.heap.size w w' := by
  cases v6 : fineB t m y d sl st with
  | false => exact MotionSteps_a A c n t m y d sl st w hn hn2 hS v6
  | true =>
    by_cases v7 : mkQ t m d sl st ≤ 25000 * t.mass ∧ y + mkQ t m d sl st ≤ 10000000000000000
    · exact MotionSteps_c A c n t m y d sl st w hn hn2 hS v6 v7
    · exact MotionSteps_b A c n t m y d sl st w hn hn2 hS v6 v7
end Go.Proofs.YtfhkbbjddjddmaaGreat
