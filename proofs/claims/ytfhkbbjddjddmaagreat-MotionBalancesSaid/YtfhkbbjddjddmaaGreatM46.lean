/- Law: MotionBalances. -/
import Derived.Test.YtfhkbbjddjddmaaGreatM45
namespace Go.Proofs.YtfhkbbjddjddmaaGreat
set_option linter.unusedVariables false
set_option linter.unusedSimpArgs false
open Go.RowKit

set_option maxRecDepth 100000 in
set_option maxHeartbeats 4000000 in
theorem MotionBalances_a (A : Option Addr) (c n : Nat) (t : Tr) (m y d sl st k : Int) (w : World) (hn : t.grip.length = n) (hn2 : n ≤ 140737488351232) (hS : Sl w w.heap.size 1 CI A t.grip) (v6 : fineB t m y d sl st = false) :
    Calls Tryz.prog 6 #[.agg #[.int .i64 t.mass, .int .i64 t.len, .int .i64 t.speed, .int .i64 t.effort, .int .i64 t.brake, .int .i64 t.power, .int .i64 t.resist, .int .i64 t.rise, .int .i64 t.back, .slice A n c], .agg #[.int .i64 m, .int .i64 y], .int .i64 d, .int .i64 sl, .int .i64 st, .int .i64 k] w fun e w' => e = .returned (.bool true) ∧ Below w.heap.size w w' := by
  have hb1 := ((Below.refl w.heap.size w).alloc (Nat.le_refl _) (.cells #[.int .i64 t.mass, .int .i64 t.len, .int .i64 t.speed, .int .i64 t.effort, .int .i64 t.brake, .int .i64 t.power, .int .i64 t.resist, .int .i64 t.rise, .int .i64 t.back, .slice A n c] 24)).alloc (by simp) (.cells #[.int .i64 m, .int .i64 y] 35)
  obtain ⟨q1, q2⟩ := rows2 w #[.int .i64 t.mass, .int .i64 t.len, .int .i64 t.speed, .int .i64 t.effort, .int .i64 t.brake, .int .i64 t.power, .int .i64 t.resist, .int .i64 t.rise, .int .i64 t.back, .slice A n c] #[.int .i64 m, .int .i64 y] 24 35
  obtain ⟨W1, hW1⟩ : ∃ z, (w.alloc (.cells #[.int .i64 t.mass, .int .i64 t.len, .int .i64 t.speed, .int .i64 t.effort, .int .i64 t.brake, .int .i64 t.power, .int .i64 t.resist, .int .i64 t.rise, .int .i64 t.back, .slice A n c] 24)).alloc (.cells #[.int .i64 m, .int .i64 y] 35) = z := ⟨_, rfl⟩
  rw [hW1] at hb1 q1 q2
  obtain ⟨N, hN⟩ : ∃ n, w.heap.size = n := ⟨_, rfl⟩
  rw [hN] at q1 q2
  have HB1 := Lib.hid hb1
  have HX0 := Lib.hid (Below.refl W1.heap.size W1)
  have HK := Lib.hid (show ∀ wx, Below W1.heap.size W1 wx → Rw wx N 24 #[.int .i64 t.mass, .int .i64 t.len, .int .i64 t.speed, .int .i64 t.effort, .int .i64 t.brake, .int .i64 t.power, .int .i64 t.resist, .int .i64 t.rise, .int .i64 t.back, .slice A n c] ∧ Rw wx (N + 1) 35 #[.int .i64 m, .int .i64 y] ∧ Sl wx wx.heap.size 1 CI A t.grip from fun wx h => ⟨q1.below h q1.lt, q2.below h q2.lt, (hS.below (hb1.trans (h.mono hb1.size))).more (fun _ _ h => h) (Nat.le_trans hb1.size h.size)⟩)
  have e0 := q1.cell 0; have e1 := q1.cell 1; have e2 := q1.cell 2; have e3 := q1.cell 3; have e4 := q1.cell 4; have e5 := q1.cell 5; have e6 := q1.cell 6; have e7 := q1.cell 7; have e8 := q1.cell 8; have e9 := q1.cell 9; have f0 := q2.cell 0; have f1 := q2.cell 1
  obtain ⟨b0, h0⟩ : ∃ b, decide (n ≤ 20) = b := ⟨_, rfl⟩
  have HSH := Lib.hid (show ∀ wx, Below W1.heap.size W1 wx → Calls Tryz.prog 13 #[.agg #[.int .i64 t.mass, .int .i64 t.len, .int .i64 t.speed, .int .i64 t.effort, .int .i64 t.brake, .int .i64 t.power, .int .i64 t.resist, .int .i64 t.rise, .int .i64 t.back, .slice A n c]] wx fun e w' => e = .returned (.bool b0) ∧ Below wx.heap.size wx w' from fun wx h => by have := short_any A c n t wx hn2; rwa [h0] at this)
  have HKN := Lib.hid (show ∀ wx, Below W1.heap.size W1 wx → Calls Tryz.prog 14 #[] wx fun e w' => e = .returned (.bool true) ∧ Below wx.heap.size wx w' from fun wx _ => known_any wx)
  have HFI := Lib.hid (show ∀ wx, Below W1.heap.size W1 wx → Calls Tryz.prog 22 #[.agg #[.int .i64 t.mass, .int .i64 t.len, .int .i64 t.speed, .int .i64 t.effort, .int .i64 t.brake, .int .i64 t.power, .int .i64 t.resist, .int .i64 t.rise, .int .i64 t.back, .slice A n c], .agg #[.int .i64 m, .int .i64 y], .int .i64 d, .int .i64 sl, .int .i64 st] wx fun e w' => e = .returned (.bool false) ∧ Below wx.heap.size wx w' from fun wx h => by have := rFine_any A c n t m y d sl st wx hn hn2 (HK.out wx h).2.2; rwa [v6] at this)
  clear hb1 q1 q2 hS h0 hn v6
  go_enter Tryz.func6, Tryz.ntmps6
  go_wp2_with fail
  (with_reducible refine (HSH.out _ HX0.out).mono ?_)
  rintro e w2 ⟨rfl, hb2⟩
  have HX1 := Lib.hid (HX0.out.trans (hb2.mono HX0.out.size))
  clear hb2
  clear e0 e1 e2 e3 e4 e5 e6 e7 e8 e9 f0 f1
  obtain ⟨r1, r2, _⟩ := HK.out _ HX1.out
  have e0 := r1.cell 0; have e1 := r1.cell 1; have e2 := r1.cell 2; have e3 := r1.cell 3; have e4 := r1.cell 4; have e5 := r1.cell 5; have e6 := r1.cell 6; have e7 := r1.cell 7; have e8 := r1.cell 8; have e9 := r1.cell 9; have f0 := r2.cell 0; have f1 := r2.cell 1
  clear r1 r2
  clear hW1 hN
  cases b0 with
  | false =>
    go_wp2_with fail
    (with_reducible refine (HKN.out _ HX1.out).mono ?_)
    rintro e w3 ⟨rfl, hb3⟩
    have HX2 := Lib.hid (HX1.out.trans (hb3.mono HX1.out.size))
    clear hb3
    go_wp2
    go_ret
    exact ⟨by rfl, HB1.out.trans (HX2.out.mono HB1.out.size)⟩
  | true =>
    go_wp2_with fail
    (with_reducible refine (HFI.out _ HX1.out).mono ?_)
    rintro e w3 ⟨rfl, hb3⟩
    have HX2 := Lib.hid (HX1.out.trans (hb3.mono HX1.out.size))
    clear hb3
    clear e0 e1 e2 e3 e4 e5 e6 e7 e8 e9 f0 f1
    obtain ⟨r1, r2, _⟩ := HK.out _ HX2.out
    have e0 := r1.cell 0; have e1 := r1.cell 1; have e2 := r1.cell 2; have e3 := r1.cell 3; have e4 := r1.cell 4; have e5 := r1.cell 5; have e6 := r1.cell 6; have e7 := r1.cell 7; have e8 := r1.cell 8; have e9 := r1.cell 9; have f0 := r2.cell 0; have f1 := r2.cell 1
    clear r1 r2
    go_wp2_with fail
    (with_reducible refine (HKN.out _ HX2.out).mono ?_)
    rintro e w4 ⟨rfl, hb4⟩
    have HX3 := Lib.hid (HX2.out.trans (hb4.mono HX2.out.size))
    clear hb4
    go_wp2
    go_ret
    exact ⟨by rfl, HB1.out.trans (HX3.out.mono HB1.out.size)⟩
set_option maxRecDepth 100000 in
set_option maxHeartbeats 4000000 in
theorem MotionBalances_b (A : Option Addr) (c n : Nat) (t : Tr) (m y d sl st k : Int) (w : World) (hn : t.grip.length = n) (hn2 : n ≤ 140737488351232) (hS : Sl w w.heap.size 1 CI A t.grip) (v6 : fineB t m y d sl st = true) (v7 : ¬ (mkQ t m d sl st ≤ 25000 * t.mass ∧ y + mkQ t m d sl st ≤ 10000000000000000)) :
    Calls Tryz.prog 6 #[.agg #[.int .i64 t.mass, .int .i64 t.len, .int .i64 t.speed, .int .i64 t.effort, .int .i64 t.brake, .int .i64 t.power, .int .i64 t.resist, .int .i64 t.rise, .int .i64 t.back, .slice A n c], .agg #[.int .i64 m, .int .i64 y], .int .i64 d, .int .i64 sl, .int .i64 st, .int .i64 k] w fun e w' => e = .returned (.bool true) ∧ Below w.heap.size w w' := by
  have hb1 := ((Below.refl w.heap.size w).alloc (Nat.le_refl _) (.cells #[.int .i64 t.mass, .int .i64 t.len, .int .i64 t.speed, .int .i64 t.effort, .int .i64 t.brake, .int .i64 t.power, .int .i64 t.resist, .int .i64 t.rise, .int .i64 t.back, .slice A n c] 24)).alloc (by simp) (.cells #[.int .i64 m, .int .i64 y] 35)
  obtain ⟨q1, q2⟩ := rows2 w #[.int .i64 t.mass, .int .i64 t.len, .int .i64 t.speed, .int .i64 t.effort, .int .i64 t.brake, .int .i64 t.power, .int .i64 t.resist, .int .i64 t.rise, .int .i64 t.back, .slice A n c] #[.int .i64 m, .int .i64 y] 24 35
  obtain ⟨W1, hW1⟩ : ∃ z, (w.alloc (.cells #[.int .i64 t.mass, .int .i64 t.len, .int .i64 t.speed, .int .i64 t.effort, .int .i64 t.brake, .int .i64 t.power, .int .i64 t.resist, .int .i64 t.rise, .int .i64 t.back, .slice A n c] 24)).alloc (.cells #[.int .i64 m, .int .i64 y] 35) = z := ⟨_, rfl⟩
  rw [hW1] at hb1 q1 q2
  obtain ⟨N, hN⟩ : ∃ n, w.heap.size = n := ⟨_, rfl⟩
  rw [hN] at q1 q2
  have HB1 := Lib.hid hb1
  have HX0 := Lib.hid (Below.refl W1.heap.size W1)
  have HK := Lib.hid (show ∀ wx, Below W1.heap.size W1 wx → Rw wx N 24 #[.int .i64 t.mass, .int .i64 t.len, .int .i64 t.speed, .int .i64 t.effort, .int .i64 t.brake, .int .i64 t.power, .int .i64 t.resist, .int .i64 t.rise, .int .i64 t.back, .slice A n c] ∧ Rw wx (N + 1) 35 #[.int .i64 m, .int .i64 y] ∧ Sl wx wx.heap.size 1 CI A t.grip from fun wx h => ⟨q1.below h q1.lt, q2.below h q2.lt, (hS.below (hb1.trans (h.mono hb1.size))).more (fun _ _ h => h) (Nat.le_trans hb1.size h.size)⟩)
  have e0 := q1.cell 0; have e1 := q1.cell 1; have e2 := q1.cell 2; have e3 := q1.cell 3; have e4 := q1.cell 4; have e5 := q1.cell 5; have e6 := q1.cell 6; have e7 := q1.cell 7; have e8 := q1.cell 8; have e9 := q1.cell 9; have f0 := q2.cell 0; have f1 := q2.cell 1
  obtain ⟨b0, h0⟩ : ∃ b, decide (n ≤ 20) = b := ⟨_, rfl⟩
  have HSH := Lib.hid (show ∀ wx, Below W1.heap.size W1 wx → Calls Tryz.prog 13 #[.agg #[.int .i64 t.mass, .int .i64 t.len, .int .i64 t.speed, .int .i64 t.effort, .int .i64 t.brake, .int .i64 t.power, .int .i64 t.resist, .int .i64 t.rise, .int .i64 t.back, .slice A n c]] wx fun e w' => e = .returned (.bool b0) ∧ Below wx.heap.size wx w' from fun wx h => by have := short_any A c n t wx hn2; rwa [h0] at this)
  have HKN := Lib.hid (show ∀ wx, Below W1.heap.size W1 wx → Calls Tryz.prog 14 #[] wx fun e w' => e = .returned (.bool true) ∧ Below wx.heap.size wx w' from fun wx _ => known_any wx)
  have v3 : mkE t m y d sl st = 3 := by unfold mkE; rw [if_pos v6, if_neg v7]
  have v1 : stX t m y d sl st = #[.int .i64 0, .int .i64 0] := by unfold stX; rw [v3, if_neg (by omega)]
  have v2 : stL t m y d sl st = #[.int .i64 0, .int .i64 0, .int .i64 0, .int .i64 0, .int .i64 0, .int .i64 0] := by unfold stL; rw [v3, if_neg (by omega)]
  have HFI := Lib.hid (show ∀ wx, Below W1.heap.size W1 wx → Calls Tryz.prog 22 #[.agg #[.int .i64 t.mass, .int .i64 t.len, .int .i64 t.speed, .int .i64 t.effort, .int .i64 t.brake, .int .i64 t.power, .int .i64 t.resist, .int .i64 t.rise, .int .i64 t.back, .slice A n c], .agg #[.int .i64 m, .int .i64 y], .int .i64 d, .int .i64 sl, .int .i64 st] wx fun e w' => e = .returned (.bool true) ∧ Below wx.heap.size wx w' from fun wx h => by have := rFine_any A c n t m y d sl st wx hn hn2 (HK.out wx h).2.2; rwa [v6] at this)
  have HST := Lib.hid (show ∀ wx, Below W1.heap.size W1 wx → Calls Tryz.prog 20 #[.agg #[.int .i64 t.mass, .int .i64 t.len, .int .i64 t.speed, .int .i64 t.effort, .int .i64 t.brake, .int .i64 t.power, .int .i64 t.resist, .int .i64 t.rise, .int .i64 t.back, .slice A n c], .agg #[.int .i64 m, .int .i64 y], .int .i64 d, .int .i64 sl, .int .i64 st] wx fun e w' => e = .returned (.tuple #[.agg #[.int .i64 0, .int .i64 0], .agg #[.int .i64 0, .int .i64 0, .int .i64 0, .int .i64 0, .int .i64 0, .int .i64 0], .int .i64 3]) ∧ Below wx.heap.size wx w' from fun wx h => by have := step20_any A c n t m y d sl st wx hn hn2 (HK.out wx h).2.2; rwa [v1, v2, v3] at this)
  clear hb1 q1 q2 hS h0 hn v1 v2 v3 v6 v7
  go_enter Tryz.func6, Tryz.ntmps6
  go_wp2_with fail
  (with_reducible refine (HSH.out _ HX0.out).mono ?_)
  rintro e w2 ⟨rfl, hb2⟩
  have HX1 := Lib.hid (HX0.out.trans (hb2.mono HX0.out.size))
  clear hb2
  clear e0 e1 e2 e3 e4 e5 e6 e7 e8 e9 f0 f1
  obtain ⟨r1, r2, _⟩ := HK.out _ HX1.out
  have e0 := r1.cell 0; have e1 := r1.cell 1; have e2 := r1.cell 2; have e3 := r1.cell 3; have e4 := r1.cell 4; have e5 := r1.cell 5; have e6 := r1.cell 6; have e7 := r1.cell 7; have e8 := r1.cell 8; have e9 := r1.cell 9; have f0 := r2.cell 0; have f1 := r2.cell 1
  clear r1 r2
  clear hW1 hN
  cases b0 with
  | false =>
    go_wp2_with fail
    (with_reducible refine (HKN.out _ HX1.out).mono ?_)
    rintro e w3 ⟨rfl, hb3⟩
    have HX2 := Lib.hid (HX1.out.trans (hb3.mono HX1.out.size))
    clear hb3
    go_wp2
    go_ret
    exact ⟨by rfl, HB1.out.trans (HX2.out.mono HB1.out.size)⟩
  | true =>
    go_wp2_with fail
    (with_reducible refine (HFI.out _ HX1.out).mono ?_)
    rintro e w3 ⟨rfl, hb3⟩
    have HX2 := Lib.hid (HX1.out.trans (hb3.mono HX1.out.size))
    clear hb3
    clear e0 e1 e2 e3 e4 e5 e6 e7 e8 e9 f0 f1
    obtain ⟨r1, r2, _⟩ := HK.out _ HX2.out
    have e0 := r1.cell 0; have e1 := r1.cell 1; have e2 := r1.cell 2; have e3 := r1.cell 3; have e4 := r1.cell 4; have e5 := r1.cell 5; have e6 := r1.cell 6; have e7 := r1.cell 7; have e8 := r1.cell 8; have e9 := r1.cell 9; have f0 := r2.cell 0; have f1 := r2.cell 1
    clear r1 r2
    go_wp2_with fail
    (with_reducible refine (HST.out _ HX2.out).mono ?_)
    rintro e w4 ⟨rfl, hb4⟩
    have HX3 := Lib.hid (HX2.out.trans (hb4.mono HX2.out.size))
    clear hb4
    clear e0 e1 e2 e3 e4 e5 e6 e7 e8 e9 f0 f1
    obtain ⟨r1, r2, _⟩ := HK.out _ HX3.out
    have e0 := r1.cell 0; have e1 := r1.cell 1; have e2 := r1.cell 2; have e3 := r1.cell 3; have e4 := r1.cell 4; have e5 := r1.cell 5; have e6 := r1.cell 6; have e7 := r1.cell 7; have e8 := r1.cell 8; have e9 := r1.cell 9; have f0 := r2.cell 0; have f1 := r2.cell 1
    clear r1 r2
    go_upto_region 4 with (fail)
    have hba := ((Below.refl w4.heap.size w4).alloc (Nat.le_refl _) (.cells #[.int .i64 0, .int .i64 0] 35)).alloc (by simp) (.cells #[.int .i64 0, .int .i64 0, .int .i64 0, .int .i64 0, .int .i64 0, .int .i64 0] 37)
    obtain ⟨qa, qb⟩ := rows2 w4 #[.int .i64 0, .int .i64 0] #[.int .i64 0, .int .i64 0, .int .i64 0, .int .i64 0, .int .i64 0, .int .i64 0] 35 37
    obtain ⟨w5, hwa⟩ : ∃ z, (w4.alloc (.cells #[.int .i64 0, .int .i64 0] 35)).alloc (.cells #[.int .i64 0, .int .i64 0, .int .i64 0, .int .i64 0, .int .i64 0, .int .i64 0] 37) = z := ⟨_, rfl⟩
    rw [hwa] at hba qa qb ⊢
    clear hwa
    obtain ⟨MHA, hM⟩ : ∃ n, w4.heap.size = n := ⟨_, rfl⟩
    rw [hM] at qa qb ⊢
    have HX4 := Lib.hid (HX3.out.trans (hba.mono HX3.out.size))
    have HA := Lib.hid (show ∀ wx, Below w5.heap.size w5 wx → Rw wx MHA 35 #[.int .i64 0, .int .i64 0] ∧ Rw wx (MHA + 1) 37 #[.int .i64 0, .int .i64 0, .int .i64 0, .int .i64 0, .int .i64 0, .int .i64 0] from fun wx h => ⟨qa.below h qa.lt, qb.below h qb.lt⟩)
    have HYHA_4 := Lib.hid (Below.refl w5.heap.size w5)
    clear hba qa qb hM
    clear e0 e1 e2 e3 e4 e5 e6 e7 e8 e9 f0 f1
    obtain ⟨r1, r2, _⟩ := HK.out _ HX4.out
    have e0 := r1.cell 0; have e1 := r1.cell 1; have e2 := r1.cell 2; have e3 := r1.cell 3; have e4 := r1.cell 4; have e5 := r1.cell 5; have e6 := r1.cell 6; have e7 := r1.cell 7; have e8 := r1.cell 8; have e9 := r1.cell 9; have f0 := r2.cell 0; have f1 := r2.cell 1
    clear r1 r2
    obtain ⟨u1, u2⟩ := HA.out _ HYHA_4.out
    have k0_0 := u1.cell 0; have k0_1 := u1.cell 1; have g0_0 := u2.cell 0; have g0_1 := u2.cell 1; have g0_2 := u2.cell 2; have g0_3 := u2.cell 3; have g0_4 := u2.cell 4; have g0_5 := u2.cell 5
    clear u1 u2
    go_wp2_with fail
    (with_reducible refine (HKN.out _ HX4.out).mono ?_)
    rintro e w6 ⟨rfl, hb6⟩
    have HX5 := Lib.hid (HX4.out.trans (hb6.mono HX4.out.size))
    have HYHA_5 := Lib.hid (HYHA_4.out.trans (hb6.mono HYHA_4.out.size))
    clear hb6
    go_wp2
    go_ret
    exact ⟨by rfl, HB1.out.trans (HX5.out.mono HB1.out.size)⟩
set_option maxRecDepth 100000 in
set_option maxHeartbeats 4000000 in
theorem MotionBalances_cn (A : Option Addr) (c n : Nat) (t : Tr) (m y d sl st k : Int) (w : World) (hn : t.grip.length = n) (hn2 : n ≤ 140737488351232) (hS : Sl w w.heap.size 1 CI A t.grip) (v6 : fineB t m y d sl st = true) (v7 : mkQ t m d sl st ≤ 25000 * t.mass ∧ y + mkQ t m d sl st ≤ 10000000000000000) (v8 : 0 < (mkL t m d sl st).pull) (hk : k < 0) :
    Calls Tryz.prog 6 #[.agg #[.int .i64 t.mass, .int .i64 t.len, .int .i64 t.speed, .int .i64 t.effort, .int .i64 t.brake, .int .i64 t.power, .int .i64 t.resist, .int .i64 t.rise, .int .i64 t.back, .slice A n c], .agg #[.int .i64 m, .int .i64 y], .int .i64 d, .int .i64 sl, .int .i64 st, .int .i64 k] w fun e w' => e = .returned (.bool true) ∧ Below w.heap.size w w' := by
  have hb1 := ((Below.refl w.heap.size w).alloc (Nat.le_refl _) (.cells #[.int .i64 t.mass, .int .i64 t.len, .int .i64 t.speed, .int .i64 t.effort, .int .i64 t.brake, .int .i64 t.power, .int .i64 t.resist, .int .i64 t.rise, .int .i64 t.back, .slice A n c] 24)).alloc (by simp) (.cells #[.int .i64 m, .int .i64 y] 35)
  obtain ⟨q1, q2⟩ := rows2 w #[.int .i64 t.mass, .int .i64 t.len, .int .i64 t.speed, .int .i64 t.effort, .int .i64 t.brake, .int .i64 t.power, .int .i64 t.resist, .int .i64 t.rise, .int .i64 t.back, .slice A n c] #[.int .i64 m, .int .i64 y] 24 35
  obtain ⟨W1, hW1⟩ : ∃ z, (w.alloc (.cells #[.int .i64 t.mass, .int .i64 t.len, .int .i64 t.speed, .int .i64 t.effort, .int .i64 t.brake, .int .i64 t.power, .int .i64 t.resist, .int .i64 t.rise, .int .i64 t.back, .slice A n c] 24)).alloc (.cells #[.int .i64 m, .int .i64 y] 35) = z := ⟨_, rfl⟩
  rw [hW1] at hb1 q1 q2
  obtain ⟨N, hN⟩ : ∃ n, w.heap.size = n := ⟨_, rfl⟩
  rw [hN] at q1 q2
  have HB1 := Lib.hid hb1
  have HX0 := Lib.hid (Below.refl W1.heap.size W1)
  have HK := Lib.hid (show ∀ wx, Below W1.heap.size W1 wx → Rw wx N 24 #[.int .i64 t.mass, .int .i64 t.len, .int .i64 t.speed, .int .i64 t.effort, .int .i64 t.brake, .int .i64 t.power, .int .i64 t.resist, .int .i64 t.rise, .int .i64 t.back, .slice A n c] ∧ Rw wx (N + 1) 35 #[.int .i64 m, .int .i64 y] ∧ Sl wx wx.heap.size 1 CI A t.grip from fun wx h => ⟨q1.below h q1.lt, q2.below h q2.lt, (hS.below (hb1.trans (h.mono hb1.size))).more (fun _ _ h => h) (Nat.le_trans hb1.size h.size)⟩)
  have e0 := q1.cell 0; have e1 := q1.cell 1; have e2 := q1.cell 2; have e3 := q1.cell 3; have e4 := q1.cell 4; have e5 := q1.cell 5; have e6 := q1.cell 6; have e7 := q1.cell 7; have e8 := q1.cell 8; have e9 := q1.cell 9; have f0 := q2.cell 0; have f1 := q2.cell 1
  obtain ⟨b0, h0⟩ : ∃ b, decide (n ≤ 20) = b := ⟨_, rfl⟩
  have HSH := Lib.hid (show ∀ wx, Below W1.heap.size W1 wx → Calls Tryz.prog 13 #[.agg #[.int .i64 t.mass, .int .i64 t.len, .int .i64 t.speed, .int .i64 t.effort, .int .i64 t.brake, .int .i64 t.power, .int .i64 t.resist, .int .i64 t.rise, .int .i64 t.back, .slice A n c]] wx fun e w' => e = .returned (.bool b0) ∧ Below wx.heap.size wx w' from fun wx h => by have := short_any A c n t wx hn2; rwa [h0] at this)
  have HKN := Lib.hid (show ∀ wx, Below W1.heap.size W1 wx → Calls Tryz.prog 14 #[] wx fun e w' => e = .returned (.bool true) ∧ Below wx.heap.size wx w' from fun wx _ => known_any wx)
  have v3 : mkE t m y d sl st = 0 := by unfold mkE; rw [if_pos v6, if_pos v7]
  have hF : FineOk t m y d sl st := FineOk.of v6
  have hfit := mkL_fit hF
  have hq0 := fine_q hF
  have hm0 := hF.m0; have hm1 := hF.m1; have hms := hF.ok.m2; have hy0 := hF.y0
  have hk2 : 0 ≤ k ∧ y + mkQ t m d sl st + k ≤ 10000000000000000 → mkE t m (y + k) d sl st = 0 := fun hk => by
    have hf2 : fineB t m (y + k) d sl st = true := by
      unfold fineB stateB at v6 ⊢
      simp only [Bool.and_eq_true, inB_iff] at v6 ⊢
      exact ⟨v6.1, ⟨v6.2.1.1, by omega, by omega⟩, v6.2.2⟩
    unfold mkE
    rw [if_pos hf2, if_pos ⟨v7.1, by omega⟩]
  obtain ⟨q, hq⟩ : ∃ q, mkQ t m d sl st = q := ⟨_, rfl⟩
  obtain ⟨yq, hyq⟩ : ∃ z, y + q = z := ⟨_, rfl⟩
  have v1 : stX t m y d sl st = #[.int .i64 q, .int .i64 yq] := by unfold stX; rw [if_pos v3, hq, hyq]
  obtain ⟨lg, hlg⟩ : ∃ g, mkL t m d sl st = g := ⟨_, rfl⟩
  rw [hlg, hq] at hfit
  obtain ⟨l0, l1, l2, l3, l4, l5⟩ := lg
  have v2 : stL t m y d sl st = #[.int .i64 l0, .int .i64 l1, .int .i64 l2, .int .i64 l3, .int .i64 l4, .int .i64 l5] := by unfold stL; rw [if_pos v3, hlg]; rfl
  obtain ⟨p0, p1, b0', b1, d0, d1, h0', h1, r0, r1, o0, o1, hid, hpb⟩ := hfit
  simp only at p0 p1 b0' b1 d0 d1 h0' h1 r0 r1 o0 o1 hid hpb
  rw [hq] at hq0 v7
  obtain ⟨qq, hqq⟩ : ∃ z, q * q = z := ⟨_, rfl⟩
  obtain ⟨mm, hmm⟩ : ∃ z, m * m = z := ⟨_, rfl⟩
  have bq := mul_bd (x := q) (y := q) (X := 2080000000) (Y := 2080000000) (by omega) (by omega) hq0.1 hq0.2 (by omega)
  have bm := mul_bd (x := m) (y := m) (X := 2000000000) (Y := 2000000000) (by omega) (by omega) hm0 (by omega) (by omega)
  rw [hqq] at bq hid
  rw [hmm] at bm hid
  have nq := Int.mul_nonneg hq0.1 hq0.1
  have nm := Int.mul_nonneg hm0 hm0
  rw [hqq] at nq
  rw [hmm] at nm
  obtain ⟨dd, hdd⟩ : ∃ z, qq - mm = z := ⟨_, rfl⟩
  obtain ⟨s1, hs1⟩ : ∃ z, l0 - l1 = z := ⟨_, rfl⟩
  obtain ⟨s2, hs2⟩ : ∃ z, s1 - l2 = z := ⟨_, rfl⟩
  obtain ⟨s3, hs3⟩ : ∃ z, s2 - l3 = z := ⟨_, rfl⟩
  obtain ⟨s4, hs4⟩ : ∃ z, s3 - l4 = z := ⟨_, rfl⟩
  have w1 : IntKind.i64.wrap (q * q) = qq := by rw [IntKind.wrap_i64]; omega
  have w2 : IntKind.i64.wrap (m * m) = mm := by rw [IntKind.wrap_i64]; omega
  have w3 : IntKind.i64.wrap (qq - mm) = dd := by rw [IntKind.wrap_i64]; omega
  have w4 : IntKind.i64.wrap (l0 - l1) = s1 := by rw [IntKind.wrap_i64]; omega
  have w5 : IntKind.i64.wrap (s1 - l2) = s2 := by rw [IntKind.wrap_i64]; omega
  have w6 : IntKind.i64.wrap (s2 - l3) = s3 := by rw [IntKind.wrap_i64]; omega
  have w7 : IntKind.i64.wrap (s3 - l4) = s4 := by rw [IntKind.wrap_i64]; omega
  have w8 : IntKind.i64.wrap (s4 - l5) = dd := by rw [IntKind.wrap_i64]; omega
  have w9 : IntKind.i64.wrap (y + q) = yq := by rw [IntKind.wrap_i64]; omega
  have c0 : ¬ q < 0 := by omega
  have c1 : ¬ l0 < 0 := by omega
  have c2 : ¬ l1 < 0 := by omega
  have c3 : ¬ l2 < 0 := by omega
  have c4 : ¬ l4 < 0 := by omega
  have c5 : ¬ l5 < 0 := by omega
  obtain ⟨top, htop⟩ : ∃ z, 10000000000000000 - yq = z := ⟨_, rfl⟩
  have wt : IntKind.i64.wrap (10000000000000000 - yq) = top := by rw [IntKind.wrap_i64]; omega
  have HFI := Lib.hid (show ∀ wx, Below W1.heap.size W1 wx → Calls Tryz.prog 22 #[.agg #[.int .i64 t.mass, .int .i64 t.len, .int .i64 t.speed, .int .i64 t.effort, .int .i64 t.brake, .int .i64 t.power, .int .i64 t.resist, .int .i64 t.rise, .int .i64 t.back, .slice A n c], .agg #[.int .i64 m, .int .i64 y], .int .i64 d, .int .i64 sl, .int .i64 st] wx fun e w' => e = .returned (.bool true) ∧ Below wx.heap.size wx w' from fun wx h => by have := rFine_any A c n t m y d sl st wx hn hn2 (HK.out wx h).2.2; rwa [v6] at this)
  have HST := Lib.hid (show ∀ wx, Below W1.heap.size W1 wx → Calls Tryz.prog 20 #[.agg #[.int .i64 t.mass, .int .i64 t.len, .int .i64 t.speed, .int .i64 t.effort, .int .i64 t.brake, .int .i64 t.power, .int .i64 t.resist, .int .i64 t.rise, .int .i64 t.back, .slice A n c], .agg #[.int .i64 m, .int .i64 y], .int .i64 d, .int .i64 sl, .int .i64 st] wx fun e w' => e = .returned (.tuple #[.agg #[.int .i64 q, .int .i64 yq], .agg #[.int .i64 l0, .int .i64 l1, .int .i64 l2, .int .i64 l3, .int .i64 l4, .int .i64 l5], .int .i64 0]) ∧ Below wx.heap.size wx w' from fun wx h => by have := step20_any A c n t m y d sl st wx hn hn2 (HK.out wx h).2.2; rwa [v1, v2, v3] at this)
  rw [hlg] at v8
  replace v8 : 0 < l0 := v8
  have v9 : ¬ 0 < l1 := by omega
  clear hpb
  clear hb1 q1 q2 hS h0 hn v1 v2 v3 v6 v7 hF hq0 hq hyq hlg p0 p1 b0' b1 d0 d1 h0' h1 r0 r1 o0 o1 hid hqq hmm bq bm nq nm hdd hs1 hs2 hs3 hs4 htop hk2 hm0 hm1 hms hy0
  go_enter Tryz.func6, Tryz.ntmps6
  go_wp2_with fail
  (with_reducible refine (HSH.out _ HX0.out).mono ?_)
  rintro e w2 ⟨rfl, hb2⟩
  have HX1 := Lib.hid (HX0.out.trans (hb2.mono HX0.out.size))
  clear hb2
  clear e0 e1 e2 e3 e4 e5 e6 e7 e8 e9 f0 f1
  obtain ⟨r1, r2, _⟩ := HK.out _ HX1.out
  have e0 := r1.cell 0; have e1 := r1.cell 1; have e2 := r1.cell 2; have e3 := r1.cell 3; have e4 := r1.cell 4; have e5 := r1.cell 5; have e6 := r1.cell 6; have e7 := r1.cell 7; have e8 := r1.cell 8; have e9 := r1.cell 9; have f0 := r2.cell 0; have f1 := r2.cell 1
  clear r1 r2
  clear hW1 hN
  cases b0 with
  | false =>
    go_wp2_with fail
    (with_reducible refine (HKN.out _ HX1.out).mono ?_)
    rintro e w3 ⟨rfl, hb3⟩
    have HX2 := Lib.hid (HX1.out.trans (hb3.mono HX1.out.size))
    clear hb3
    go_wp2
    go_ret
    exact ⟨by rfl, HB1.out.trans (HX2.out.mono HB1.out.size)⟩
  | true =>
    go_wp2_with fail
    (with_reducible refine (HFI.out _ HX1.out).mono ?_)
    rintro e w3 ⟨rfl, hb3⟩
    have HX2 := Lib.hid (HX1.out.trans (hb3.mono HX1.out.size))
    clear hb3
    clear e0 e1 e2 e3 e4 e5 e6 e7 e8 e9 f0 f1
    obtain ⟨r1, r2, _⟩ := HK.out _ HX2.out
    have e0 := r1.cell 0; have e1 := r1.cell 1; have e2 := r1.cell 2; have e3 := r1.cell 3; have e4 := r1.cell 4; have e5 := r1.cell 5; have e6 := r1.cell 6; have e7 := r1.cell 7; have e8 := r1.cell 8; have e9 := r1.cell 9; have f0 := r2.cell 0; have f1 := r2.cell 1
    clear r1 r2
    go_wp2_with fail
    (with_reducible refine (HST.out _ HX2.out).mono ?_)
    rintro e w4 ⟨rfl, hb4⟩
    have HX3 := Lib.hid (HX2.out.trans (hb4.mono HX2.out.size))
    clear hb4
    clear e0 e1 e2 e3 e4 e5 e6 e7 e8 e9 f0 f1
    obtain ⟨r1, r2, _⟩ := HK.out _ HX3.out
    have e0 := r1.cell 0; have e1 := r1.cell 1; have e2 := r1.cell 2; have e3 := r1.cell 3; have e4 := r1.cell 4; have e5 := r1.cell 5; have e6 := r1.cell 6; have e7 := r1.cell 7; have e8 := r1.cell 8; have e9 := r1.cell 9; have f0 := r2.cell 0; have f1 := r2.cell 1
    clear r1 r2
    go_upto_region 4 with (fail)
    have hba := ((Below.refl w4.heap.size w4).alloc (Nat.le_refl _) (.cells #[.int .i64 q, .int .i64 yq] 35)).alloc (by simp) (.cells #[.int .i64 l0, .int .i64 l1, .int .i64 l2, .int .i64 l3, .int .i64 l4, .int .i64 l5] 37)
    obtain ⟨qa, qb⟩ := rows2 w4 #[.int .i64 q, .int .i64 yq] #[.int .i64 l0, .int .i64 l1, .int .i64 l2, .int .i64 l3, .int .i64 l4, .int .i64 l5] 35 37
    obtain ⟨w5, hwa⟩ : ∃ z, (w4.alloc (.cells #[.int .i64 q, .int .i64 yq] 35)).alloc (.cells #[.int .i64 l0, .int .i64 l1, .int .i64 l2, .int .i64 l3, .int .i64 l4, .int .i64 l5] 37) = z := ⟨_, rfl⟩
    rw [hwa] at hba qa qb ⊢
    clear hwa
    obtain ⟨MHA, hM⟩ : ∃ n, w4.heap.size = n := ⟨_, rfl⟩
    rw [hM] at qa qb ⊢
    have HX4 := Lib.hid (HX3.out.trans (hba.mono HX3.out.size))
    have HA := Lib.hid (show ∀ wx, Below w5.heap.size w5 wx → Rw wx MHA 35 #[.int .i64 q, .int .i64 yq] ∧ Rw wx (MHA + 1) 37 #[.int .i64 l0, .int .i64 l1, .int .i64 l2, .int .i64 l3, .int .i64 l4, .int .i64 l5] from fun wx h => ⟨qa.below h qa.lt, qb.below h qb.lt⟩)
    have HYHA_4 := Lib.hid (Below.refl w5.heap.size w5)
    clear hba qa qb hM
    clear e0 e1 e2 e3 e4 e5 e6 e7 e8 e9 f0 f1
    obtain ⟨r1, r2, _⟩ := HK.out _ HX4.out
    have e0 := r1.cell 0; have e1 := r1.cell 1; have e2 := r1.cell 2; have e3 := r1.cell 3; have e4 := r1.cell 4; have e5 := r1.cell 5; have e6 := r1.cell 6; have e7 := r1.cell 7; have e8 := r1.cell 8; have e9 := r1.cell 9; have f0 := r2.cell 0; have f1 := r2.cell 1
    clear r1 r2
    obtain ⟨u1, u2⟩ := HA.out _ HYHA_4.out
    have k0_0 := u1.cell 0; have k0_1 := u1.cell 1; have g0_0 := u2.cell 0; have g0_1 := u2.cell 1; have g0_2 := u2.cell 2; have g0_3 := u2.cell 3; have g0_4 := u2.cell 4; have g0_5 := u2.cell 5
    clear u1 u2
    go_wp2_with fail
    (with_reducible refine (HKN.out _ HX4.out).mono ?_)
    rintro e w6 ⟨rfl, hb6⟩
    have HX5 := Lib.hid (HX4.out.trans (hb6.mono HX4.out.size))
    have HYHA_5 := Lib.hid (HYHA_4.out.trans (hb6.mono HYHA_4.out.size))
    clear hb6
    go_wp2
    go_ret
    exact ⟨by rfl, HB1.out.trans (HX5.out.mono HB1.out.size)⟩
set_option maxRecDepth 100000 in
set_option maxHeartbeats 4000000 in
theorem MotionBalances_cb (A : Option Addr) (c n : Nat) (t : Tr) (m y d sl st k : Int) (w : World) (hn : t.grip.length = n) (hn2 : n ≤ 140737488351232) (hS : Sl w w.heap.size 1 CI A t.grip) (v6 : fineB t m y d sl st = true) (v7 : mkQ t m d sl st ≤ 25000 * t.mass ∧ y + mkQ t m d sl st ≤ 10000000000000000) (v8 : 0 < (mkL t m d sl st).pull) (hk : ¬ k < 0) (hk1 : 10000000000000000 - (y + mkQ t m d sl st) < k) :
    Calls Tryz.prog 6 #[.agg #[.int .i64 t.mass, .int .i64 t.len, .int .i64 t.speed, .int .i64 t.effort, .int .i64 t.brake, .int .i64 t.power, .int .i64 t.resist, .int .i64 t.rise, .int .i64 t.back, .slice A n c], .agg #[.int .i64 m, .int .i64 y], .int .i64 d, .int .i64 sl, .int .i64 st, .int .i64 k] w fun e w' => e = .returned (.bool true) ∧ Below w.heap.size w w' := by
  have hb1 := ((Below.refl w.heap.size w).alloc (Nat.le_refl _) (.cells #[.int .i64 t.mass, .int .i64 t.len, .int .i64 t.speed, .int .i64 t.effort, .int .i64 t.brake, .int .i64 t.power, .int .i64 t.resist, .int .i64 t.rise, .int .i64 t.back, .slice A n c] 24)).alloc (by simp) (.cells #[.int .i64 m, .int .i64 y] 35)
  obtain ⟨q1, q2⟩ := rows2 w #[.int .i64 t.mass, .int .i64 t.len, .int .i64 t.speed, .int .i64 t.effort, .int .i64 t.brake, .int .i64 t.power, .int .i64 t.resist, .int .i64 t.rise, .int .i64 t.back, .slice A n c] #[.int .i64 m, .int .i64 y] 24 35
  obtain ⟨W1, hW1⟩ : ∃ z, (w.alloc (.cells #[.int .i64 t.mass, .int .i64 t.len, .int .i64 t.speed, .int .i64 t.effort, .int .i64 t.brake, .int .i64 t.power, .int .i64 t.resist, .int .i64 t.rise, .int .i64 t.back, .slice A n c] 24)).alloc (.cells #[.int .i64 m, .int .i64 y] 35) = z := ⟨_, rfl⟩
  rw [hW1] at hb1 q1 q2
  obtain ⟨N, hN⟩ : ∃ n, w.heap.size = n := ⟨_, rfl⟩
  rw [hN] at q1 q2
  have HB1 := Lib.hid hb1
  have HX0 := Lib.hid (Below.refl W1.heap.size W1)
  have HK := Lib.hid (show ∀ wx, Below W1.heap.size W1 wx → Rw wx N 24 #[.int .i64 t.mass, .int .i64 t.len, .int .i64 t.speed, .int .i64 t.effort, .int .i64 t.brake, .int .i64 t.power, .int .i64 t.resist, .int .i64 t.rise, .int .i64 t.back, .slice A n c] ∧ Rw wx (N + 1) 35 #[.int .i64 m, .int .i64 y] ∧ Sl wx wx.heap.size 1 CI A t.grip from fun wx h => ⟨q1.below h q1.lt, q2.below h q2.lt, (hS.below (hb1.trans (h.mono hb1.size))).more (fun _ _ h => h) (Nat.le_trans hb1.size h.size)⟩)
  have e0 := q1.cell 0; have e1 := q1.cell 1; have e2 := q1.cell 2; have e3 := q1.cell 3; have e4 := q1.cell 4; have e5 := q1.cell 5; have e6 := q1.cell 6; have e7 := q1.cell 7; have e8 := q1.cell 8; have e9 := q1.cell 9; have f0 := q2.cell 0; have f1 := q2.cell 1
  obtain ⟨b0, h0⟩ : ∃ b, decide (n ≤ 20) = b := ⟨_, rfl⟩
  have HSH := Lib.hid (show ∀ wx, Below W1.heap.size W1 wx → Calls Tryz.prog 13 #[.agg #[.int .i64 t.mass, .int .i64 t.len, .int .i64 t.speed, .int .i64 t.effort, .int .i64 t.brake, .int .i64 t.power, .int .i64 t.resist, .int .i64 t.rise, .int .i64 t.back, .slice A n c]] wx fun e w' => e = .returned (.bool b0) ∧ Below wx.heap.size wx w' from fun wx h => by have := short_any A c n t wx hn2; rwa [h0] at this)
  have HKN := Lib.hid (show ∀ wx, Below W1.heap.size W1 wx → Calls Tryz.prog 14 #[] wx fun e w' => e = .returned (.bool true) ∧ Below wx.heap.size wx w' from fun wx _ => known_any wx)
  have v3 : mkE t m y d sl st = 0 := by unfold mkE; rw [if_pos v6, if_pos v7]
  have hF : FineOk t m y d sl st := FineOk.of v6
  have hfit := mkL_fit hF
  have hq0 := fine_q hF
  have hm0 := hF.m0; have hm1 := hF.m1; have hms := hF.ok.m2; have hy0 := hF.y0
  have hk2 : 0 ≤ k ∧ y + mkQ t m d sl st + k ≤ 10000000000000000 → mkE t m (y + k) d sl st = 0 := fun hk => by
    have hf2 : fineB t m (y + k) d sl st = true := by
      unfold fineB stateB at v6 ⊢
      simp only [Bool.and_eq_true, inB_iff] at v6 ⊢
      exact ⟨v6.1, ⟨v6.2.1.1, by omega, by omega⟩, v6.2.2⟩
    unfold mkE
    rw [if_pos hf2, if_pos ⟨v7.1, by omega⟩]
  obtain ⟨q, hq⟩ : ∃ q, mkQ t m d sl st = q := ⟨_, rfl⟩
  obtain ⟨yq, hyq⟩ : ∃ z, y + q = z := ⟨_, rfl⟩
  have v1 : stX t m y d sl st = #[.int .i64 q, .int .i64 yq] := by unfold stX; rw [if_pos v3, hq, hyq]
  obtain ⟨lg, hlg⟩ : ∃ g, mkL t m d sl st = g := ⟨_, rfl⟩
  rw [hlg, hq] at hfit
  obtain ⟨l0, l1, l2, l3, l4, l5⟩ := lg
  have v2 : stL t m y d sl st = #[.int .i64 l0, .int .i64 l1, .int .i64 l2, .int .i64 l3, .int .i64 l4, .int .i64 l5] := by unfold stL; rw [if_pos v3, hlg]; rfl
  obtain ⟨p0, p1, b0', b1, d0, d1, h0', h1, r0, r1, o0, o1, hid, hpb⟩ := hfit
  simp only at p0 p1 b0' b1 d0 d1 h0' h1 r0 r1 o0 o1 hid hpb
  rw [hq] at hq0 v7
  obtain ⟨qq, hqq⟩ : ∃ z, q * q = z := ⟨_, rfl⟩
  obtain ⟨mm, hmm⟩ : ∃ z, m * m = z := ⟨_, rfl⟩
  have bq := mul_bd (x := q) (y := q) (X := 2080000000) (Y := 2080000000) (by omega) (by omega) hq0.1 hq0.2 (by omega)
  have bm := mul_bd (x := m) (y := m) (X := 2000000000) (Y := 2000000000) (by omega) (by omega) hm0 (by omega) (by omega)
  rw [hqq] at bq hid
  rw [hmm] at bm hid
  have nq := Int.mul_nonneg hq0.1 hq0.1
  have nm := Int.mul_nonneg hm0 hm0
  rw [hqq] at nq
  rw [hmm] at nm
  obtain ⟨dd, hdd⟩ : ∃ z, qq - mm = z := ⟨_, rfl⟩
  obtain ⟨s1, hs1⟩ : ∃ z, l0 - l1 = z := ⟨_, rfl⟩
  obtain ⟨s2, hs2⟩ : ∃ z, s1 - l2 = z := ⟨_, rfl⟩
  obtain ⟨s3, hs3⟩ : ∃ z, s2 - l3 = z := ⟨_, rfl⟩
  obtain ⟨s4, hs4⟩ : ∃ z, s3 - l4 = z := ⟨_, rfl⟩
  have w1 : IntKind.i64.wrap (q * q) = qq := by rw [IntKind.wrap_i64]; omega
  have w2 : IntKind.i64.wrap (m * m) = mm := by rw [IntKind.wrap_i64]; omega
  have w3 : IntKind.i64.wrap (qq - mm) = dd := by rw [IntKind.wrap_i64]; omega
  have w4 : IntKind.i64.wrap (l0 - l1) = s1 := by rw [IntKind.wrap_i64]; omega
  have w5 : IntKind.i64.wrap (s1 - l2) = s2 := by rw [IntKind.wrap_i64]; omega
  have w6 : IntKind.i64.wrap (s2 - l3) = s3 := by rw [IntKind.wrap_i64]; omega
  have w7 : IntKind.i64.wrap (s3 - l4) = s4 := by rw [IntKind.wrap_i64]; omega
  have w8 : IntKind.i64.wrap (s4 - l5) = dd := by rw [IntKind.wrap_i64]; omega
  have w9 : IntKind.i64.wrap (y + q) = yq := by rw [IntKind.wrap_i64]; omega
  have c0 : ¬ q < 0 := by omega
  have c1 : ¬ l0 < 0 := by omega
  have c2 : ¬ l1 < 0 := by omega
  have c3 : ¬ l2 < 0 := by omega
  have c4 : ¬ l4 < 0 := by omega
  have c5 : ¬ l5 < 0 := by omega
  obtain ⟨top, htop⟩ : ∃ z, 10000000000000000 - yq = z := ⟨_, rfl⟩
  have wt : IntKind.i64.wrap (10000000000000000 - yq) = top := by rw [IntKind.wrap_i64]; omega
  have HFI := Lib.hid (show ∀ wx, Below W1.heap.size W1 wx → Calls Tryz.prog 22 #[.agg #[.int .i64 t.mass, .int .i64 t.len, .int .i64 t.speed, .int .i64 t.effort, .int .i64 t.brake, .int .i64 t.power, .int .i64 t.resist, .int .i64 t.rise, .int .i64 t.back, .slice A n c], .agg #[.int .i64 m, .int .i64 y], .int .i64 d, .int .i64 sl, .int .i64 st] wx fun e w' => e = .returned (.bool true) ∧ Below wx.heap.size wx w' from fun wx h => by have := rFine_any A c n t m y d sl st wx hn hn2 (HK.out wx h).2.2; rwa [v6] at this)
  have HST := Lib.hid (show ∀ wx, Below W1.heap.size W1 wx → Calls Tryz.prog 20 #[.agg #[.int .i64 t.mass, .int .i64 t.len, .int .i64 t.speed, .int .i64 t.effort, .int .i64 t.brake, .int .i64 t.power, .int .i64 t.resist, .int .i64 t.rise, .int .i64 t.back, .slice A n c], .agg #[.int .i64 m, .int .i64 y], .int .i64 d, .int .i64 sl, .int .i64 st] wx fun e w' => e = .returned (.tuple #[.agg #[.int .i64 q, .int .i64 yq], .agg #[.int .i64 l0, .int .i64 l1, .int .i64 l2, .int .i64 l3, .int .i64 l4, .int .i64 l5], .int .i64 0]) ∧ Below wx.heap.size wx w' from fun wx h => by have := step20_any A c n t m y d sl st wx hn hn2 (HK.out wx h).2.2; rwa [v1, v2, v3] at this)
  rw [hlg] at v8
  replace v8 : 0 < l0 := v8
  have v9 : ¬ 0 < l1 := by omega
  clear hpb
  rw [hq, hyq, htop] at hk1
  clear hb1 q1 q2 hS h0 hn v1 v2 v3 v6 v7 hF hq0 hq hyq hlg p0 p1 b0' b1 d0 d1 h0' h1 r0 r1 o0 o1 hid hqq hmm bq bm nq nm hdd hs1 hs2 hs3 hs4 htop hk2 hm0 hm1 hms hy0
  go_enter Tryz.func6, Tryz.ntmps6
  go_wp2_with fail
  (with_reducible refine (HSH.out _ HX0.out).mono ?_)
  rintro e w2 ⟨rfl, hb2⟩
  have HX1 := Lib.hid (HX0.out.trans (hb2.mono HX0.out.size))
  clear hb2
  clear e0 e1 e2 e3 e4 e5 e6 e7 e8 e9 f0 f1
  obtain ⟨r1, r2, _⟩ := HK.out _ HX1.out
  have e0 := r1.cell 0; have e1 := r1.cell 1; have e2 := r1.cell 2; have e3 := r1.cell 3; have e4 := r1.cell 4; have e5 := r1.cell 5; have e6 := r1.cell 6; have e7 := r1.cell 7; have e8 := r1.cell 8; have e9 := r1.cell 9; have f0 := r2.cell 0; have f1 := r2.cell 1
  clear r1 r2
  clear hW1 hN
  cases b0 with
  | false =>
    go_wp2_with fail
    (with_reducible refine (HKN.out _ HX1.out).mono ?_)
    rintro e w3 ⟨rfl, hb3⟩
    have HX2 := Lib.hid (HX1.out.trans (hb3.mono HX1.out.size))
    clear hb3
    go_wp2
    go_ret
    exact ⟨by rfl, HB1.out.trans (HX2.out.mono HB1.out.size)⟩
  | true =>
    go_wp2_with fail
    (with_reducible refine (HFI.out _ HX1.out).mono ?_)
    rintro e w3 ⟨rfl, hb3⟩
    have HX2 := Lib.hid (HX1.out.trans (hb3.mono HX1.out.size))
    clear hb3
    clear e0 e1 e2 e3 e4 e5 e6 e7 e8 e9 f0 f1
    obtain ⟨r1, r2, _⟩ := HK.out _ HX2.out
    have e0 := r1.cell 0; have e1 := r1.cell 1; have e2 := r1.cell 2; have e3 := r1.cell 3; have e4 := r1.cell 4; have e5 := r1.cell 5; have e6 := r1.cell 6; have e7 := r1.cell 7; have e8 := r1.cell 8; have e9 := r1.cell 9; have f0 := r2.cell 0; have f1 := r2.cell 1
    clear r1 r2
    go_wp2_with fail
    (with_reducible refine (HST.out _ HX2.out).mono ?_)
    rintro e w4 ⟨rfl, hb4⟩
    have HX3 := Lib.hid (HX2.out.trans (hb4.mono HX2.out.size))
    clear hb4
    clear e0 e1 e2 e3 e4 e5 e6 e7 e8 e9 f0 f1
    obtain ⟨r1, r2, _⟩ := HK.out _ HX3.out
    have e0 := r1.cell 0; have e1 := r1.cell 1; have e2 := r1.cell 2; have e3 := r1.cell 3; have e4 := r1.cell 4; have e5 := r1.cell 5; have e6 := r1.cell 6; have e7 := r1.cell 7; have e8 := r1.cell 8; have e9 := r1.cell 9; have f0 := r2.cell 0; have f1 := r2.cell 1
    clear r1 r2
    go_upto_region 4 with (fail)
    have hba := ((Below.refl w4.heap.size w4).alloc (Nat.le_refl _) (.cells #[.int .i64 q, .int .i64 yq] 35)).alloc (by simp) (.cells #[.int .i64 l0, .int .i64 l1, .int .i64 l2, .int .i64 l3, .int .i64 l4, .int .i64 l5] 37)
    obtain ⟨qa, qb⟩ := rows2 w4 #[.int .i64 q, .int .i64 yq] #[.int .i64 l0, .int .i64 l1, .int .i64 l2, .int .i64 l3, .int .i64 l4, .int .i64 l5] 35 37
    obtain ⟨w5, hwa⟩ : ∃ z, (w4.alloc (.cells #[.int .i64 q, .int .i64 yq] 35)).alloc (.cells #[.int .i64 l0, .int .i64 l1, .int .i64 l2, .int .i64 l3, .int .i64 l4, .int .i64 l5] 37) = z := ⟨_, rfl⟩
    rw [hwa] at hba qa qb ⊢
    clear hwa
    obtain ⟨MHA, hM⟩ : ∃ n, w4.heap.size = n := ⟨_, rfl⟩
    rw [hM] at qa qb ⊢
    have HX4 := Lib.hid (HX3.out.trans (hba.mono HX3.out.size))
    have HA := Lib.hid (show ∀ wx, Below w5.heap.size w5 wx → Rw wx MHA 35 #[.int .i64 q, .int .i64 yq] ∧ Rw wx (MHA + 1) 37 #[.int .i64 l0, .int .i64 l1, .int .i64 l2, .int .i64 l3, .int .i64 l4, .int .i64 l5] from fun wx h => ⟨qa.below h qa.lt, qb.below h qb.lt⟩)
    have HYHA_4 := Lib.hid (Below.refl w5.heap.size w5)
    clear hba qa qb hM
    clear e0 e1 e2 e3 e4 e5 e6 e7 e8 e9 f0 f1
    obtain ⟨r1, r2, _⟩ := HK.out _ HX4.out
    have e0 := r1.cell 0; have e1 := r1.cell 1; have e2 := r1.cell 2; have e3 := r1.cell 3; have e4 := r1.cell 4; have e5 := r1.cell 5; have e6 := r1.cell 6; have e7 := r1.cell 7; have e8 := r1.cell 8; have e9 := r1.cell 9; have f0 := r2.cell 0; have f1 := r2.cell 1
    clear r1 r2
    obtain ⟨u1, u2⟩ := HA.out _ HYHA_4.out
    have k0_0 := u1.cell 0; have k0_1 := u1.cell 1; have g0_0 := u2.cell 0; have g0_1 := u2.cell 1; have g0_2 := u2.cell 2; have g0_3 := u2.cell 3; have g0_4 := u2.cell 4; have g0_5 := u2.cell 5
    clear u1 u2
    go_wp2_with fail
    (with_reducible refine (HKN.out _ HX4.out).mono ?_)
    rintro e w6 ⟨rfl, hb6⟩
    have HX5 := Lib.hid (HX4.out.trans (hb6.mono HX4.out.size))
    have HYHA_5 := Lib.hid (HYHA_4.out.trans (hb6.mono HYHA_4.out.size))
    clear hb6
    go_wp2
    go_ret
    exact ⟨by rfl, HB1.out.trans (HX5.out.mono HB1.out.size)⟩
set_option maxRecDepth 100000 in
set_option maxHeartbeats 4000000 in
theorem MotionBalances_cg (A : Option Addr) (c n : Nat) (t : Tr) (m y d sl st k : Int) (w : World) (hn : t.grip.length = n) (hn2 : n ≤ 140737488351232) (hS : Sl w w.heap.size 1 CI A t.grip) (v6 : fineB t m y d sl st = true) (v7 : mkQ t m d sl st ≤ 25000 * t.mass ∧ y + mkQ t m d sl st ≤ 10000000000000000) (v8 : 0 < (mkL t m d sl st).pull) (hk : ¬ k < 0) (hk1 : ¬ 10000000000000000 - (y + mkQ t m d sl st) < k) :
    Calls Tryz.prog 6 #[.agg #[.int .i64 t.mass, .int .i64 t.len, .int .i64 t.speed, .int .i64 t.effort, .int .i64 t.brake, .int .i64 t.power, .int .i64 t.resist, .int .i64 t.rise, .int .i64 t.back, .slice A n c], .agg #[.int .i64 m, .int .i64 y], .int .i64 d, .int .i64 sl, .int .i64 st, .int .i64 k] w fun e w' => e = .returned (.bool true) ∧ Below w.heap.size w w' := by
  have hb1 := ((Below.refl w.heap.size w).alloc (Nat.le_refl _) (.cells #[.int .i64 t.mass, .int .i64 t.len, .int .i64 t.speed, .int .i64 t.effort, .int .i64 t.brake, .int .i64 t.power, .int .i64 t.resist, .int .i64 t.rise, .int .i64 t.back, .slice A n c] 24)).alloc (by simp) (.cells #[.int .i64 m, .int .i64 y] 35)
  obtain ⟨q1, q2⟩ := rows2 w #[.int .i64 t.mass, .int .i64 t.len, .int .i64 t.speed, .int .i64 t.effort, .int .i64 t.brake, .int .i64 t.power, .int .i64 t.resist, .int .i64 t.rise, .int .i64 t.back, .slice A n c] #[.int .i64 m, .int .i64 y] 24 35
  obtain ⟨W1, hW1⟩ : ∃ z, (w.alloc (.cells #[.int .i64 t.mass, .int .i64 t.len, .int .i64 t.speed, .int .i64 t.effort, .int .i64 t.brake, .int .i64 t.power, .int .i64 t.resist, .int .i64 t.rise, .int .i64 t.back, .slice A n c] 24)).alloc (.cells #[.int .i64 m, .int .i64 y] 35) = z := ⟨_, rfl⟩
  rw [hW1] at hb1 q1 q2
  obtain ⟨N, hN⟩ : ∃ n, w.heap.size = n := ⟨_, rfl⟩
  rw [hN] at q1 q2
  have HB1 := Lib.hid hb1
  have HX0 := Lib.hid (Below.refl W1.heap.size W1)
  have HK := Lib.hid (show ∀ wx, Below W1.heap.size W1 wx → Rw wx N 24 #[.int .i64 t.mass, .int .i64 t.len, .int .i64 t.speed, .int .i64 t.effort, .int .i64 t.brake, .int .i64 t.power, .int .i64 t.resist, .int .i64 t.rise, .int .i64 t.back, .slice A n c] ∧ Rw wx (N + 1) 35 #[.int .i64 m, .int .i64 y] ∧ Sl wx wx.heap.size 1 CI A t.grip from fun wx h => ⟨q1.below h q1.lt, q2.below h q2.lt, (hS.below (hb1.trans (h.mono hb1.size))).more (fun _ _ h => h) (Nat.le_trans hb1.size h.size)⟩)
  have e0 := q1.cell 0; have e1 := q1.cell 1; have e2 := q1.cell 2; have e3 := q1.cell 3; have e4 := q1.cell 4; have e5 := q1.cell 5; have e6 := q1.cell 6; have e7 := q1.cell 7; have e8 := q1.cell 8; have e9 := q1.cell 9; have f0 := q2.cell 0; have f1 := q2.cell 1
  obtain ⟨b0, h0⟩ : ∃ b, decide (n ≤ 20) = b := ⟨_, rfl⟩
  have HSH := Lib.hid (show ∀ wx, Below W1.heap.size W1 wx → Calls Tryz.prog 13 #[.agg #[.int .i64 t.mass, .int .i64 t.len, .int .i64 t.speed, .int .i64 t.effort, .int .i64 t.brake, .int .i64 t.power, .int .i64 t.resist, .int .i64 t.rise, .int .i64 t.back, .slice A n c]] wx fun e w' => e = .returned (.bool b0) ∧ Below wx.heap.size wx w' from fun wx h => by have := short_any A c n t wx hn2; rwa [h0] at this)
  have HKN := Lib.hid (show ∀ wx, Below W1.heap.size W1 wx → Calls Tryz.prog 14 #[] wx fun e w' => e = .returned (.bool true) ∧ Below wx.heap.size wx w' from fun wx _ => known_any wx)
  have v3 : mkE t m y d sl st = 0 := by unfold mkE; rw [if_pos v6, if_pos v7]
  have hF : FineOk t m y d sl st := FineOk.of v6
  have hfit := mkL_fit hF
  have hq0 := fine_q hF
  have hm0 := hF.m0; have hm1 := hF.m1; have hms := hF.ok.m2; have hy0 := hF.y0
  have hk2 : 0 ≤ k ∧ y + mkQ t m d sl st + k ≤ 10000000000000000 → mkE t m (y + k) d sl st = 0 := fun hk => by
    have hf2 : fineB t m (y + k) d sl st = true := by
      unfold fineB stateB at v6 ⊢
      simp only [Bool.and_eq_true, inB_iff] at v6 ⊢
      exact ⟨v6.1, ⟨v6.2.1.1, by omega, by omega⟩, v6.2.2⟩
    unfold mkE
    rw [if_pos hf2, if_pos ⟨v7.1, by omega⟩]
  obtain ⟨q, hq⟩ : ∃ q, mkQ t m d sl st = q := ⟨_, rfl⟩
  obtain ⟨yq, hyq⟩ : ∃ z, y + q = z := ⟨_, rfl⟩
  have v1 : stX t m y d sl st = #[.int .i64 q, .int .i64 yq] := by unfold stX; rw [if_pos v3, hq, hyq]
  obtain ⟨lg, hlg⟩ : ∃ g, mkL t m d sl st = g := ⟨_, rfl⟩
  rw [hlg, hq] at hfit
  obtain ⟨l0, l1, l2, l3, l4, l5⟩ := lg
  have v2 : stL t m y d sl st = #[.int .i64 l0, .int .i64 l1, .int .i64 l2, .int .i64 l3, .int .i64 l4, .int .i64 l5] := by unfold stL; rw [if_pos v3, hlg]; rfl
  obtain ⟨p0, p1, b0', b1, d0, d1, h0', h1, r0, r1, o0, o1, hid, hpb⟩ := hfit
  simp only at p0 p1 b0' b1 d0 d1 h0' h1 r0 r1 o0 o1 hid hpb
  rw [hq] at hq0 v7
  obtain ⟨qq, hqq⟩ : ∃ z, q * q = z := ⟨_, rfl⟩
  obtain ⟨mm, hmm⟩ : ∃ z, m * m = z := ⟨_, rfl⟩
  have bq := mul_bd (x := q) (y := q) (X := 2080000000) (Y := 2080000000) (by omega) (by omega) hq0.1 hq0.2 (by omega)
  have bm := mul_bd (x := m) (y := m) (X := 2000000000) (Y := 2000000000) (by omega) (by omega) hm0 (by omega) (by omega)
  rw [hqq] at bq hid
  rw [hmm] at bm hid
  have nq := Int.mul_nonneg hq0.1 hq0.1
  have nm := Int.mul_nonneg hm0 hm0
  rw [hqq] at nq
  rw [hmm] at nm
  obtain ⟨dd, hdd⟩ : ∃ z, qq - mm = z := ⟨_, rfl⟩
  obtain ⟨s1, hs1⟩ : ∃ z, l0 - l1 = z := ⟨_, rfl⟩
  obtain ⟨s2, hs2⟩ : ∃ z, s1 - l2 = z := ⟨_, rfl⟩
  obtain ⟨s3, hs3⟩ : ∃ z, s2 - l3 = z := ⟨_, rfl⟩
  obtain ⟨s4, hs4⟩ : ∃ z, s3 - l4 = z := ⟨_, rfl⟩
  have w1 : IntKind.i64.wrap (q * q) = qq := by rw [IntKind.wrap_i64]; omega
  have w2 : IntKind.i64.wrap (m * m) = mm := by rw [IntKind.wrap_i64]; omega
  have w3 : IntKind.i64.wrap (qq - mm) = dd := by rw [IntKind.wrap_i64]; omega
  have w4 : IntKind.i64.wrap (l0 - l1) = s1 := by rw [IntKind.wrap_i64]; omega
  have w5 : IntKind.i64.wrap (s1 - l2) = s2 := by rw [IntKind.wrap_i64]; omega
  have w6 : IntKind.i64.wrap (s2 - l3) = s3 := by rw [IntKind.wrap_i64]; omega
  have w7 : IntKind.i64.wrap (s3 - l4) = s4 := by rw [IntKind.wrap_i64]; omega
  have w8 : IntKind.i64.wrap (s4 - l5) = dd := by rw [IntKind.wrap_i64]; omega
  have w9 : IntKind.i64.wrap (y + q) = yq := by rw [IntKind.wrap_i64]; omega
  have c0 : ¬ q < 0 := by omega
  have c1 : ¬ l0 < 0 := by omega
  have c2 : ¬ l1 < 0 := by omega
  have c3 : ¬ l2 < 0 := by omega
  have c4 : ¬ l4 < 0 := by omega
  have c5 : ¬ l5 < 0 := by omega
  obtain ⟨top, htop⟩ : ∃ z, 10000000000000000 - yq = z := ⟨_, rfl⟩
  have wt : IntKind.i64.wrap (10000000000000000 - yq) = top := by rw [IntKind.wrap_i64]; omega
  have HFI := Lib.hid (show ∀ wx, Below W1.heap.size W1 wx → Calls Tryz.prog 22 #[.agg #[.int .i64 t.mass, .int .i64 t.len, .int .i64 t.speed, .int .i64 t.effort, .int .i64 t.brake, .int .i64 t.power, .int .i64 t.resist, .int .i64 t.rise, .int .i64 t.back, .slice A n c], .agg #[.int .i64 m, .int .i64 y], .int .i64 d, .int .i64 sl, .int .i64 st] wx fun e w' => e = .returned (.bool true) ∧ Below wx.heap.size wx w' from fun wx h => by have := rFine_any A c n t m y d sl st wx hn hn2 (HK.out wx h).2.2; rwa [v6] at this)
  have HST := Lib.hid (show ∀ wx, Below W1.heap.size W1 wx → Calls Tryz.prog 20 #[.agg #[.int .i64 t.mass, .int .i64 t.len, .int .i64 t.speed, .int .i64 t.effort, .int .i64 t.brake, .int .i64 t.power, .int .i64 t.resist, .int .i64 t.rise, .int .i64 t.back, .slice A n c], .agg #[.int .i64 m, .int .i64 y], .int .i64 d, .int .i64 sl, .int .i64 st] wx fun e w' => e = .returned (.tuple #[.agg #[.int .i64 q, .int .i64 yq], .agg #[.int .i64 l0, .int .i64 l1, .int .i64 l2, .int .i64 l3, .int .i64 l4, .int .i64 l5], .int .i64 0]) ∧ Below wx.heap.size wx w' from fun wx h => by have := step20_any A c n t m y d sl st wx hn hn2 (HK.out wx h).2.2; rwa [v1, v2, v3] at this)
  rw [hlg] at v8
  replace v8 : 0 < l0 := v8
  have v9 : ¬ 0 < l1 := by omega
  clear hpb
  rw [hq, hyq, htop] at hk1
  rw [hq] at hk2
  obtain ⟨yk, hyk⟩ : ∃ z, y + k = z := ⟨_, rfl⟩
  obtain ⟨ykq, hykq⟩ : ∃ z, yk + q = z := ⟨_, rfl⟩
  have e3 : mkE t m yk d sl st = 0 := by rw [← hyk]; exact hk2 (by omega)
  have x1 : stX t m yk d sl st = #[.int .i64 q, .int .i64 ykq] := by unfold stX; rw [if_pos e3, hq, hykq]
  have x2 : stL t m yk d sl st = #[.int .i64 l0, .int .i64 l1, .int .i64 l2, .int .i64 l3, .int .i64 l4, .int .i64 l5] := by unfold stL; rw [if_pos e3, hlg]; rfl
  have wk : IntKind.i64.wrap (y + k) = yk := by rw [IntKind.wrap_i64]; omega
  have wk2 : IntKind.i64.wrap (yq + k) = ykq := by rw [IntKind.wrap_i64]; omega
  have HS2 := Lib.hid (show ∀ wx, Below W1.heap.size W1 wx → Calls Tryz.prog 20 #[.agg #[.int .i64 t.mass, .int .i64 t.len, .int .i64 t.speed, .int .i64 t.effort, .int .i64 t.brake, .int .i64 t.power, .int .i64 t.resist, .int .i64 t.rise, .int .i64 t.back, .slice A n c], .agg #[.int .i64 m, .int .i64 yk], .int .i64 d, .int .i64 sl, .int .i64 st] wx fun e w' => e = .returned (.tuple #[.agg #[.int .i64 q, .int .i64 ykq], .agg #[.int .i64 l0, .int .i64 l1, .int .i64 l2, .int .i64 l3, .int .i64 l4, .int .i64 l5], .int .i64 0]) ∧ Below wx.heap.size wx w' from fun wx h => by have := step20_any A c n t m yk d sl st wx hn hn2 (HK.out wx h).2.2; rwa [x1, x2, e3] at this)
  clear hyk hykq e3 x1 x2
  clear hb1 q1 q2 hS h0 hn v1 v2 v3 v6 v7 hF hq0 hq hyq hlg p0 p1 b0' b1 d0 d1 h0' h1 r0 r1 o0 o1 hid hqq hmm bq bm nq nm hdd hs1 hs2 hs3 hs4 htop hk2 hm0 hm1 hms hy0
  go_enter Tryz.func6, Tryz.ntmps6
  go_wp2_with fail
  (with_reducible refine (HSH.out _ HX0.out).mono ?_)
  rintro e w2 ⟨rfl, hb2⟩
  have HX1 := Lib.hid (HX0.out.trans (hb2.mono HX0.out.size))
  clear hb2
  clear e0 e1 e2 e3 e4 e5 e6 e7 e8 e9 f0 f1
  obtain ⟨r1, r2, _⟩ := HK.out _ HX1.out
  have e0 := r1.cell 0; have e1 := r1.cell 1; have e2 := r1.cell 2; have e3 := r1.cell 3; have e4 := r1.cell 4; have e5 := r1.cell 5; have e6 := r1.cell 6; have e7 := r1.cell 7; have e8 := r1.cell 8; have e9 := r1.cell 9; have f0 := r2.cell 0; have f1 := r2.cell 1
  clear r1 r2
  clear hW1 hN
  cases b0 with
  | false =>
    go_wp2_with fail
    (with_reducible refine (HKN.out _ HX1.out).mono ?_)
    rintro e w3 ⟨rfl, hb3⟩
    have HX2 := Lib.hid (HX1.out.trans (hb3.mono HX1.out.size))
    clear hb3
    go_wp2
    go_ret
    exact ⟨by rfl, HB1.out.trans (HX2.out.mono HB1.out.size)⟩
  | true =>
    go_wp2_with fail
    (with_reducible refine (HFI.out _ HX1.out).mono ?_)
    rintro e w3 ⟨rfl, hb3⟩
    have HX2 := Lib.hid (HX1.out.trans (hb3.mono HX1.out.size))
    clear hb3
    clear e0 e1 e2 e3 e4 e5 e6 e7 e8 e9 f0 f1
    obtain ⟨r1, r2, _⟩ := HK.out _ HX2.out
    have e0 := r1.cell 0; have e1 := r1.cell 1; have e2 := r1.cell 2; have e3 := r1.cell 3; have e4 := r1.cell 4; have e5 := r1.cell 5; have e6 := r1.cell 6; have e7 := r1.cell 7; have e8 := r1.cell 8; have e9 := r1.cell 9; have f0 := r2.cell 0; have f1 := r2.cell 1
    clear r1 r2
    go_wp2_with fail
    (with_reducible refine (HST.out _ HX2.out).mono ?_)
    rintro e w4 ⟨rfl, hb4⟩
    have HX3 := Lib.hid (HX2.out.trans (hb4.mono HX2.out.size))
    clear hb4
    clear e0 e1 e2 e3 e4 e5 e6 e7 e8 e9 f0 f1
    obtain ⟨r1, r2, _⟩ := HK.out _ HX3.out
    have e0 := r1.cell 0; have e1 := r1.cell 1; have e2 := r1.cell 2; have e3 := r1.cell 3; have e4 := r1.cell 4; have e5 := r1.cell 5; have e6 := r1.cell 6; have e7 := r1.cell 7; have e8 := r1.cell 8; have e9 := r1.cell 9; have f0 := r2.cell 0; have f1 := r2.cell 1
    clear r1 r2
    go_upto_region 4 with (fail)
    have hba := ((Below.refl w4.heap.size w4).alloc (Nat.le_refl _) (.cells #[.int .i64 q, .int .i64 yq] 35)).alloc (by simp) (.cells #[.int .i64 l0, .int .i64 l1, .int .i64 l2, .int .i64 l3, .int .i64 l4, .int .i64 l5] 37)
    obtain ⟨qa, qb⟩ := rows2 w4 #[.int .i64 q, .int .i64 yq] #[.int .i64 l0, .int .i64 l1, .int .i64 l2, .int .i64 l3, .int .i64 l4, .int .i64 l5] 35 37
    obtain ⟨w5, hwa⟩ : ∃ z, (w4.alloc (.cells #[.int .i64 q, .int .i64 yq] 35)).alloc (.cells #[.int .i64 l0, .int .i64 l1, .int .i64 l2, .int .i64 l3, .int .i64 l4, .int .i64 l5] 37) = z := ⟨_, rfl⟩
    rw [hwa] at hba qa qb ⊢
    clear hwa
    obtain ⟨MHA, hM⟩ : ∃ n, w4.heap.size = n := ⟨_, rfl⟩
    rw [hM] at qa qb ⊢
    have HX4 := Lib.hid (HX3.out.trans (hba.mono HX3.out.size))
    have HA := Lib.hid (show ∀ wx, Below w5.heap.size w5 wx → Rw wx MHA 35 #[.int .i64 q, .int .i64 yq] ∧ Rw wx (MHA + 1) 37 #[.int .i64 l0, .int .i64 l1, .int .i64 l2, .int .i64 l3, .int .i64 l4, .int .i64 l5] from fun wx h => ⟨qa.below h qa.lt, qb.below h qb.lt⟩)
    have HYHA_4 := Lib.hid (Below.refl w5.heap.size w5)
    clear hba qa qb hM
    clear e0 e1 e2 e3 e4 e5 e6 e7 e8 e9 f0 f1
    obtain ⟨r1, r2, _⟩ := HK.out _ HX4.out
    have e0 := r1.cell 0; have e1 := r1.cell 1; have e2 := r1.cell 2; have e3 := r1.cell 3; have e4 := r1.cell 4; have e5 := r1.cell 5; have e6 := r1.cell 6; have e7 := r1.cell 7; have e8 := r1.cell 8; have e9 := r1.cell 9; have f0 := r2.cell 0; have f1 := r2.cell 1
    clear r1 r2
    obtain ⟨u1, u2⟩ := HA.out _ HYHA_4.out
    have k0_0 := u1.cell 0; have k0_1 := u1.cell 1; have g0_0 := u2.cell 0; have g0_1 := u2.cell 1; have g0_2 := u2.cell 2; have g0_3 := u2.cell 3; have g0_4 := u2.cell 4; have g0_5 := u2.cell 5
    clear u1 u2
    go_wp2_with fail
    (with_reducible refine (HS2.out _ HX4.out).mono ?_)
    rintro e w6 ⟨rfl, hb6⟩
    have HX5 := Lib.hid (HX4.out.trans (hb6.mono HX4.out.size))
    have HYHA_5 := Lib.hid (HYHA_4.out.trans (hb6.mono HYHA_4.out.size))
    clear hb6
    clear e0 e1 e2 e3 e4 e5 e6 e7 e8 e9 f0 f1 k0_0 k0_1 g0_0 g0_1 g0_2 g0_3 g0_4 g0_5
    obtain ⟨r1, r2, _⟩ := HK.out _ HX5.out
    have e0 := r1.cell 0; have e1 := r1.cell 1; have e2 := r1.cell 2; have e3 := r1.cell 3; have e4 := r1.cell 4; have e5 := r1.cell 5; have e6 := r1.cell 6; have e7 := r1.cell 7; have e8 := r1.cell 8; have e9 := r1.cell 9; have f0 := r2.cell 0; have f1 := r2.cell 1
    clear r1 r2
    obtain ⟨u1, u2⟩ := HA.out _ HYHA_5.out
    have k0_0 := u1.cell 0; have k0_1 := u1.cell 1; have g0_0 := u2.cell 0; have g0_1 := u2.cell 1; have g0_2 := u2.cell 2; have g0_3 := u2.cell 3; have g0_4 := u2.cell 4; have g0_5 := u2.cell 5
    clear u1 u2
    go_upto_region 13 with (fail)
    have hba := ((Below.refl w6.heap.size w6).alloc (Nat.le_refl _) (.cells #[.int .i64 q, .int .i64 ykq] 35)).alloc (by simp) (.cells #[.int .i64 l0, .int .i64 l1, .int .i64 l2, .int .i64 l3, .int .i64 l4, .int .i64 l5] 37)
    obtain ⟨qa, qb⟩ := rows2 w6 #[.int .i64 q, .int .i64 ykq] #[.int .i64 l0, .int .i64 l1, .int .i64 l2, .int .i64 l3, .int .i64 l4, .int .i64 l5] 35 37
    obtain ⟨w7, hwa⟩ : ∃ z, (w6.alloc (.cells #[.int .i64 q, .int .i64 ykq] 35)).alloc (.cells #[.int .i64 l0, .int .i64 l1, .int .i64 l2, .int .i64 l3, .int .i64 l4, .int .i64 l5] 37) = z := ⟨_, rfl⟩
    rw [hwa] at hba qa qb ⊢
    clear hwa
    obtain ⟨MHC, hM⟩ : ∃ n, w6.heap.size = n := ⟨_, rfl⟩
    rw [hM] at qa qb ⊢
    have HX6 := Lib.hid (HX5.out.trans (hba.mono HX5.out.size))
    have HYHA_6 := Lib.hid (HYHA_5.out.trans (hba.mono HYHA_5.out.size))
    have HC := Lib.hid (show ∀ wx, Below w7.heap.size w7 wx → Rw wx MHC 35 #[.int .i64 q, .int .i64 ykq] ∧ Rw wx (MHC + 1) 37 #[.int .i64 l0, .int .i64 l1, .int .i64 l2, .int .i64 l3, .int .i64 l4, .int .i64 l5] from fun wx h => ⟨qa.below h qa.lt, qb.below h qb.lt⟩)
    have HYHC_6 := Lib.hid (Below.refl w7.heap.size w7)
    clear hba qa qb hM
    clear e0 e1 e2 e3 e4 e5 e6 e7 e8 e9 f0 f1 k0_0 k0_1 g0_0 g0_1 g0_2 g0_3 g0_4 g0_5
    obtain ⟨r1, r2, _⟩ := HK.out _ HX6.out
    have e0 := r1.cell 0; have e1 := r1.cell 1; have e2 := r1.cell 2; have e3 := r1.cell 3; have e4 := r1.cell 4; have e5 := r1.cell 5; have e6 := r1.cell 6; have e7 := r1.cell 7; have e8 := r1.cell 8; have e9 := r1.cell 9; have f0 := r2.cell 0; have f1 := r2.cell 1
    clear r1 r2
    obtain ⟨u1, u2⟩ := HA.out _ HYHA_6.out
    have k0_0 := u1.cell 0; have k0_1 := u1.cell 1; have g0_0 := u2.cell 0; have g0_1 := u2.cell 1; have g0_2 := u2.cell 2; have g0_3 := u2.cell 3; have g0_4 := u2.cell 4; have g0_5 := u2.cell 5
    clear u1 u2
    obtain ⟨u1, u2⟩ := HC.out _ HYHC_6.out
    have k1_0 := u1.cell 0; have k1_1 := u1.cell 1; have g1_0 := u2.cell 0; have g1_1 := u2.cell 1; have g1_2 := u2.cell 2; have g1_3 := u2.cell 3; have g1_4 := u2.cell 4; have g1_5 := u2.cell 5
    clear u1 u2
    go_wp2_with fail
    (with_reducible refine (HKN.out _ HX6.out).mono ?_)
    rintro e w8 ⟨rfl, hb8⟩
    have HX7 := Lib.hid (HX6.out.trans (hb8.mono HX6.out.size))
    have HYHA_7 := Lib.hid (HYHA_6.out.trans (hb8.mono HYHA_6.out.size))
    have HYHC_7 := Lib.hid (HYHC_6.out.trans (hb8.mono HYHC_6.out.size))
    clear hb8
    go_wp2
    go_ret
    exact ⟨by rfl, HB1.out.trans (HX7.out.mono HB1.out.size)⟩
set_option maxRecDepth 100000 in
set_option maxHeartbeats 4000000 in
theorem MotionBalances_dn (A : Option Addr) (c n : Nat) (t : Tr) (m y d sl st k : Int) (w : World) (hn : t.grip.length = n) (hn2 : n ≤ 140737488351232) (hS : Sl w w.heap.size 1 CI A t.grip) (v6 : fineB t m y d sl st = true) (v7 : mkQ t m d sl st ≤ 25000 * t.mass ∧ y + mkQ t m d sl st ≤ 10000000000000000) (v8 : ¬ 0 < (mkL t m d sl st).pull) (hk : k < 0) :
    Calls Tryz.prog 6 #[.agg #[.int .i64 t.mass, .int .i64 t.len, .int .i64 t.speed, .int .i64 t.effort, .int .i64 t.brake, .int .i64 t.power, .int .i64 t.resist, .int .i64 t.rise, .int .i64 t.back, .slice A n c], .agg #[.int .i64 m, .int .i64 y], .int .i64 d, .int .i64 sl, .int .i64 st, .int .i64 k] w fun e w' => e = .returned (.bool true) ∧ Below w.heap.size w w' := by
  have hb1 := ((Below.refl w.heap.size w).alloc (Nat.le_refl _) (.cells #[.int .i64 t.mass, .int .i64 t.len, .int .i64 t.speed, .int .i64 t.effort, .int .i64 t.brake, .int .i64 t.power, .int .i64 t.resist, .int .i64 t.rise, .int .i64 t.back, .slice A n c] 24)).alloc (by simp) (.cells #[.int .i64 m, .int .i64 y] 35)
  obtain ⟨q1, q2⟩ := rows2 w #[.int .i64 t.mass, .int .i64 t.len, .int .i64 t.speed, .int .i64 t.effort, .int .i64 t.brake, .int .i64 t.power, .int .i64 t.resist, .int .i64 t.rise, .int .i64 t.back, .slice A n c] #[.int .i64 m, .int .i64 y] 24 35
  obtain ⟨W1, hW1⟩ : ∃ z, (w.alloc (.cells #[.int .i64 t.mass, .int .i64 t.len, .int .i64 t.speed, .int .i64 t.effort, .int .i64 t.brake, .int .i64 t.power, .int .i64 t.resist, .int .i64 t.rise, .int .i64 t.back, .slice A n c] 24)).alloc (.cells #[.int .i64 m, .int .i64 y] 35) = z := ⟨_, rfl⟩
  rw [hW1] at hb1 q1 q2
  obtain ⟨N, hN⟩ : ∃ n, w.heap.size = n := ⟨_, rfl⟩
  rw [hN] at q1 q2
  have HB1 := Lib.hid hb1
  have HX0 := Lib.hid (Below.refl W1.heap.size W1)
  have HK := Lib.hid (show ∀ wx, Below W1.heap.size W1 wx → Rw wx N 24 #[.int .i64 t.mass, .int .i64 t.len, .int .i64 t.speed, .int .i64 t.effort, .int .i64 t.brake, .int .i64 t.power, .int .i64 t.resist, .int .i64 t.rise, .int .i64 t.back, .slice A n c] ∧ Rw wx (N + 1) 35 #[.int .i64 m, .int .i64 y] ∧ Sl wx wx.heap.size 1 CI A t.grip from fun wx h => ⟨q1.below h q1.lt, q2.below h q2.lt, (hS.below (hb1.trans (h.mono hb1.size))).more (fun _ _ h => h) (Nat.le_trans hb1.size h.size)⟩)
  have e0 := q1.cell 0; have e1 := q1.cell 1; have e2 := q1.cell 2; have e3 := q1.cell 3; have e4 := q1.cell 4; have e5 := q1.cell 5; have e6 := q1.cell 6; have e7 := q1.cell 7; have e8 := q1.cell 8; have e9 := q1.cell 9; have f0 := q2.cell 0; have f1 := q2.cell 1
  obtain ⟨b0, h0⟩ : ∃ b, decide (n ≤ 20) = b := ⟨_, rfl⟩
  have HSH := Lib.hid (show ∀ wx, Below W1.heap.size W1 wx → Calls Tryz.prog 13 #[.agg #[.int .i64 t.mass, .int .i64 t.len, .int .i64 t.speed, .int .i64 t.effort, .int .i64 t.brake, .int .i64 t.power, .int .i64 t.resist, .int .i64 t.rise, .int .i64 t.back, .slice A n c]] wx fun e w' => e = .returned (.bool b0) ∧ Below wx.heap.size wx w' from fun wx h => by have := short_any A c n t wx hn2; rwa [h0] at this)
  have HKN := Lib.hid (show ∀ wx, Below W1.heap.size W1 wx → Calls Tryz.prog 14 #[] wx fun e w' => e = .returned (.bool true) ∧ Below wx.heap.size wx w' from fun wx _ => known_any wx)
  have v3 : mkE t m y d sl st = 0 := by unfold mkE; rw [if_pos v6, if_pos v7]
  have hF : FineOk t m y d sl st := FineOk.of v6
  have hfit := mkL_fit hF
  have hq0 := fine_q hF
  have hm0 := hF.m0; have hm1 := hF.m1; have hms := hF.ok.m2; have hy0 := hF.y0
  have hk2 : 0 ≤ k ∧ y + mkQ t m d sl st + k ≤ 10000000000000000 → mkE t m (y + k) d sl st = 0 := fun hk => by
    have hf2 : fineB t m (y + k) d sl st = true := by
      unfold fineB stateB at v6 ⊢
      simp only [Bool.and_eq_true, inB_iff] at v6 ⊢
      exact ⟨v6.1, ⟨v6.2.1.1, by omega, by omega⟩, v6.2.2⟩
    unfold mkE
    rw [if_pos hf2, if_pos ⟨v7.1, by omega⟩]
  obtain ⟨q, hq⟩ : ∃ q, mkQ t m d sl st = q := ⟨_, rfl⟩
  obtain ⟨yq, hyq⟩ : ∃ z, y + q = z := ⟨_, rfl⟩
  have v1 : stX t m y d sl st = #[.int .i64 q, .int .i64 yq] := by unfold stX; rw [if_pos v3, hq, hyq]
  obtain ⟨lg, hlg⟩ : ∃ g, mkL t m d sl st = g := ⟨_, rfl⟩
  rw [hlg, hq] at hfit
  obtain ⟨l0, l1, l2, l3, l4, l5⟩ := lg
  have v2 : stL t m y d sl st = #[.int .i64 l0, .int .i64 l1, .int .i64 l2, .int .i64 l3, .int .i64 l4, .int .i64 l5] := by unfold stL; rw [if_pos v3, hlg]; rfl
  obtain ⟨p0, p1, b0', b1, d0, d1, h0', h1, r0, r1, o0, o1, hid, hpb⟩ := hfit
  simp only at p0 p1 b0' b1 d0 d1 h0' h1 r0 r1 o0 o1 hid hpb
  rw [hq] at hq0 v7
  obtain ⟨qq, hqq⟩ : ∃ z, q * q = z := ⟨_, rfl⟩
  obtain ⟨mm, hmm⟩ : ∃ z, m * m = z := ⟨_, rfl⟩
  have bq := mul_bd (x := q) (y := q) (X := 2080000000) (Y := 2080000000) (by omega) (by omega) hq0.1 hq0.2 (by omega)
  have bm := mul_bd (x := m) (y := m) (X := 2000000000) (Y := 2000000000) (by omega) (by omega) hm0 (by omega) (by omega)
  rw [hqq] at bq hid
  rw [hmm] at bm hid
  have nq := Int.mul_nonneg hq0.1 hq0.1
  have nm := Int.mul_nonneg hm0 hm0
  rw [hqq] at nq
  rw [hmm] at nm
  obtain ⟨dd, hdd⟩ : ∃ z, qq - mm = z := ⟨_, rfl⟩
  obtain ⟨s1, hs1⟩ : ∃ z, l0 - l1 = z := ⟨_, rfl⟩
  obtain ⟨s2, hs2⟩ : ∃ z, s1 - l2 = z := ⟨_, rfl⟩
  obtain ⟨s3, hs3⟩ : ∃ z, s2 - l3 = z := ⟨_, rfl⟩
  obtain ⟨s4, hs4⟩ : ∃ z, s3 - l4 = z := ⟨_, rfl⟩
  have w1 : IntKind.i64.wrap (q * q) = qq := by rw [IntKind.wrap_i64]; omega
  have w2 : IntKind.i64.wrap (m * m) = mm := by rw [IntKind.wrap_i64]; omega
  have w3 : IntKind.i64.wrap (qq - mm) = dd := by rw [IntKind.wrap_i64]; omega
  have w4 : IntKind.i64.wrap (l0 - l1) = s1 := by rw [IntKind.wrap_i64]; omega
  have w5 : IntKind.i64.wrap (s1 - l2) = s2 := by rw [IntKind.wrap_i64]; omega
  have w6 : IntKind.i64.wrap (s2 - l3) = s3 := by rw [IntKind.wrap_i64]; omega
  have w7 : IntKind.i64.wrap (s3 - l4) = s4 := by rw [IntKind.wrap_i64]; omega
  have w8 : IntKind.i64.wrap (s4 - l5) = dd := by rw [IntKind.wrap_i64]; omega
  have w9 : IntKind.i64.wrap (y + q) = yq := by rw [IntKind.wrap_i64]; omega
  have c0 : ¬ q < 0 := by omega
  have c1 : ¬ l0 < 0 := by omega
  have c2 : ¬ l1 < 0 := by omega
  have c3 : ¬ l2 < 0 := by omega
  have c4 : ¬ l4 < 0 := by omega
  have c5 : ¬ l5 < 0 := by omega
  obtain ⟨top, htop⟩ : ∃ z, 10000000000000000 - yq = z := ⟨_, rfl⟩
  have wt : IntKind.i64.wrap (10000000000000000 - yq) = top := by rw [IntKind.wrap_i64]; omega
  have HFI := Lib.hid (show ∀ wx, Below W1.heap.size W1 wx → Calls Tryz.prog 22 #[.agg #[.int .i64 t.mass, .int .i64 t.len, .int .i64 t.speed, .int .i64 t.effort, .int .i64 t.brake, .int .i64 t.power, .int .i64 t.resist, .int .i64 t.rise, .int .i64 t.back, .slice A n c], .agg #[.int .i64 m, .int .i64 y], .int .i64 d, .int .i64 sl, .int .i64 st] wx fun e w' => e = .returned (.bool true) ∧ Below wx.heap.size wx w' from fun wx h => by have := rFine_any A c n t m y d sl st wx hn hn2 (HK.out wx h).2.2; rwa [v6] at this)
  have HST := Lib.hid (show ∀ wx, Below W1.heap.size W1 wx → Calls Tryz.prog 20 #[.agg #[.int .i64 t.mass, .int .i64 t.len, .int .i64 t.speed, .int .i64 t.effort, .int .i64 t.brake, .int .i64 t.power, .int .i64 t.resist, .int .i64 t.rise, .int .i64 t.back, .slice A n c], .agg #[.int .i64 m, .int .i64 y], .int .i64 d, .int .i64 sl, .int .i64 st] wx fun e w' => e = .returned (.tuple #[.agg #[.int .i64 q, .int .i64 yq], .agg #[.int .i64 l0, .int .i64 l1, .int .i64 l2, .int .i64 l3, .int .i64 l4, .int .i64 l5], .int .i64 0]) ∧ Below wx.heap.size wx w' from fun wx h => by have := step20_any A c n t m y d sl st wx hn hn2 (HK.out wx h).2.2; rwa [v1, v2, v3] at this)
  rw [hlg] at v8
  replace v8 : ¬ 0 < l0 := v8
  clear hpb
  clear hb1 q1 q2 hS h0 hn v1 v2 v3 v6 v7 hF hq0 hq hyq hlg p0 p1 b0' b1 d0 d1 h0' h1 r0 r1 o0 o1 hid hqq hmm bq bm nq nm hdd hs1 hs2 hs3 hs4 htop hk2 hm0 hm1 hms hy0
  go_enter Tryz.func6, Tryz.ntmps6
  go_wp2_with fail
  (with_reducible refine (HSH.out _ HX0.out).mono ?_)
  rintro e w2 ⟨rfl, hb2⟩
  have HX1 := Lib.hid (HX0.out.trans (hb2.mono HX0.out.size))
  clear hb2
  clear e0 e1 e2 e3 e4 e5 e6 e7 e8 e9 f0 f1
  obtain ⟨r1, r2, _⟩ := HK.out _ HX1.out
  have e0 := r1.cell 0; have e1 := r1.cell 1; have e2 := r1.cell 2; have e3 := r1.cell 3; have e4 := r1.cell 4; have e5 := r1.cell 5; have e6 := r1.cell 6; have e7 := r1.cell 7; have e8 := r1.cell 8; have e9 := r1.cell 9; have f0 := r2.cell 0; have f1 := r2.cell 1
  clear r1 r2
  clear hW1 hN
  cases b0 with
  | false =>
    go_wp2_with fail
    (with_reducible refine (HKN.out _ HX1.out).mono ?_)
    rintro e w3 ⟨rfl, hb3⟩
    have HX2 := Lib.hid (HX1.out.trans (hb3.mono HX1.out.size))
    clear hb3
    go_wp2
    go_ret
    exact ⟨by rfl, HB1.out.trans (HX2.out.mono HB1.out.size)⟩
  | true =>
    go_wp2_with fail
    (with_reducible refine (HFI.out _ HX1.out).mono ?_)
    rintro e w3 ⟨rfl, hb3⟩
    have HX2 := Lib.hid (HX1.out.trans (hb3.mono HX1.out.size))
    clear hb3
    clear e0 e1 e2 e3 e4 e5 e6 e7 e8 e9 f0 f1
    obtain ⟨r1, r2, _⟩ := HK.out _ HX2.out
    have e0 := r1.cell 0; have e1 := r1.cell 1; have e2 := r1.cell 2; have e3 := r1.cell 3; have e4 := r1.cell 4; have e5 := r1.cell 5; have e6 := r1.cell 6; have e7 := r1.cell 7; have e8 := r1.cell 8; have e9 := r1.cell 9; have f0 := r2.cell 0; have f1 := r2.cell 1
    clear r1 r2
    go_wp2_with fail
    (with_reducible refine (HST.out _ HX2.out).mono ?_)
    rintro e w4 ⟨rfl, hb4⟩
    have HX3 := Lib.hid (HX2.out.trans (hb4.mono HX2.out.size))
    clear hb4
    clear e0 e1 e2 e3 e4 e5 e6 e7 e8 e9 f0 f1
    obtain ⟨r1, r2, _⟩ := HK.out _ HX3.out
    have e0 := r1.cell 0; have e1 := r1.cell 1; have e2 := r1.cell 2; have e3 := r1.cell 3; have e4 := r1.cell 4; have e5 := r1.cell 5; have e6 := r1.cell 6; have e7 := r1.cell 7; have e8 := r1.cell 8; have e9 := r1.cell 9; have f0 := r2.cell 0; have f1 := r2.cell 1
    clear r1 r2
    go_upto_region 4 with (fail)
    have hba := ((Below.refl w4.heap.size w4).alloc (Nat.le_refl _) (.cells #[.int .i64 q, .int .i64 yq] 35)).alloc (by simp) (.cells #[.int .i64 l0, .int .i64 l1, .int .i64 l2, .int .i64 l3, .int .i64 l4, .int .i64 l5] 37)
    obtain ⟨qa, qb⟩ := rows2 w4 #[.int .i64 q, .int .i64 yq] #[.int .i64 l0, .int .i64 l1, .int .i64 l2, .int .i64 l3, .int .i64 l4, .int .i64 l5] 35 37
    obtain ⟨w5, hwa⟩ : ∃ z, (w4.alloc (.cells #[.int .i64 q, .int .i64 yq] 35)).alloc (.cells #[.int .i64 l0, .int .i64 l1, .int .i64 l2, .int .i64 l3, .int .i64 l4, .int .i64 l5] 37) = z := ⟨_, rfl⟩
    rw [hwa] at hba qa qb ⊢
    clear hwa
    obtain ⟨MHA, hM⟩ : ∃ n, w4.heap.size = n := ⟨_, rfl⟩
    rw [hM] at qa qb ⊢
    have HX4 := Lib.hid (HX3.out.trans (hba.mono HX3.out.size))
    have HA := Lib.hid (show ∀ wx, Below w5.heap.size w5 wx → Rw wx MHA 35 #[.int .i64 q, .int .i64 yq] ∧ Rw wx (MHA + 1) 37 #[.int .i64 l0, .int .i64 l1, .int .i64 l2, .int .i64 l3, .int .i64 l4, .int .i64 l5] from fun wx h => ⟨qa.below h qa.lt, qb.below h qb.lt⟩)
    have HYHA_4 := Lib.hid (Below.refl w5.heap.size w5)
    clear hba qa qb hM
    clear e0 e1 e2 e3 e4 e5 e6 e7 e8 e9 f0 f1
    obtain ⟨r1, r2, _⟩ := HK.out _ HX4.out
    have e0 := r1.cell 0; have e1 := r1.cell 1; have e2 := r1.cell 2; have e3 := r1.cell 3; have e4 := r1.cell 4; have e5 := r1.cell 5; have e6 := r1.cell 6; have e7 := r1.cell 7; have e8 := r1.cell 8; have e9 := r1.cell 9; have f0 := r2.cell 0; have f1 := r2.cell 1
    clear r1 r2
    obtain ⟨u1, u2⟩ := HA.out _ HYHA_4.out
    have k0_0 := u1.cell 0; have k0_1 := u1.cell 1; have g0_0 := u2.cell 0; have g0_1 := u2.cell 1; have g0_2 := u2.cell 2; have g0_3 := u2.cell 3; have g0_4 := u2.cell 4; have g0_5 := u2.cell 5
    clear u1 u2
    go_wp2_with fail
    (with_reducible refine (HKN.out _ HX4.out).mono ?_)
    rintro e w6 ⟨rfl, hb6⟩
    have HX5 := Lib.hid (HX4.out.trans (hb6.mono HX4.out.size))
    have HYHA_5 := Lib.hid (HYHA_4.out.trans (hb6.mono HYHA_4.out.size))
    clear hb6
    go_wp2
    go_ret
    exact ⟨by rfl, HB1.out.trans (HX5.out.mono HB1.out.size)⟩
set_option maxRecDepth 100000 in
set_option maxHeartbeats 4000000 in
theorem MotionBalances_db (A : Option Addr) (c n : Nat) (t : Tr) (m y d sl st k : Int) (w : World) (hn : t.grip.length = n) (hn2 : n ≤ 140737488351232) (hS : Sl w w.heap.size 1 CI A t.grip) (v6 : fineB t m y d sl st = true) (v7 : mkQ t m d sl st ≤ 25000 * t.mass ∧ y + mkQ t m d sl st ≤ 10000000000000000) (v8 : ¬ 0 < (mkL t m d sl st).pull) (hk : ¬ k < 0) (hk1 : 10000000000000000 - (y + mkQ t m d sl st) < k) :
    Calls Tryz.prog 6 #[.agg #[.int .i64 t.mass, .int .i64 t.len, .int .i64 t.speed, .int .i64 t.effort, .int .i64 t.brake, .int .i64 t.power, .int .i64 t.resist, .int .i64 t.rise, .int .i64 t.back, .slice A n c], .agg #[.int .i64 m, .int .i64 y], .int .i64 d, .int .i64 sl, .int .i64 st, .int .i64 k] w fun e w' => e = .returned (.bool true) ∧ Below w.heap.size w w' := by
  have hb1 := ((Below.refl w.heap.size w).alloc (Nat.le_refl _) (.cells #[.int .i64 t.mass, .int .i64 t.len, .int .i64 t.speed, .int .i64 t.effort, .int .i64 t.brake, .int .i64 t.power, .int .i64 t.resist, .int .i64 t.rise, .int .i64 t.back, .slice A n c] 24)).alloc (by simp) (.cells #[.int .i64 m, .int .i64 y] 35)
  obtain ⟨q1, q2⟩ := rows2 w #[.int .i64 t.mass, .int .i64 t.len, .int .i64 t.speed, .int .i64 t.effort, .int .i64 t.brake, .int .i64 t.power, .int .i64 t.resist, .int .i64 t.rise, .int .i64 t.back, .slice A n c] #[.int .i64 m, .int .i64 y] 24 35
  obtain ⟨W1, hW1⟩ : ∃ z, (w.alloc (.cells #[.int .i64 t.mass, .int .i64 t.len, .int .i64 t.speed, .int .i64 t.effort, .int .i64 t.brake, .int .i64 t.power, .int .i64 t.resist, .int .i64 t.rise, .int .i64 t.back, .slice A n c] 24)).alloc (.cells #[.int .i64 m, .int .i64 y] 35) = z := ⟨_, rfl⟩
  rw [hW1] at hb1 q1 q2
  obtain ⟨N, hN⟩ : ∃ n, w.heap.size = n := ⟨_, rfl⟩
  rw [hN] at q1 q2
  have HB1 := Lib.hid hb1
  have HX0 := Lib.hid (Below.refl W1.heap.size W1)
  have HK := Lib.hid (show ∀ wx, Below W1.heap.size W1 wx → Rw wx N 24 #[.int .i64 t.mass, .int .i64 t.len, .int .i64 t.speed, .int .i64 t.effort, .int .i64 t.brake, .int .i64 t.power, .int .i64 t.resist, .int .i64 t.rise, .int .i64 t.back, .slice A n c] ∧ Rw wx (N + 1) 35 #[.int .i64 m, .int .i64 y] ∧ Sl wx wx.heap.size 1 CI A t.grip from fun wx h => ⟨q1.below h q1.lt, q2.below h q2.lt, (hS.below (hb1.trans (h.mono hb1.size))).more (fun _ _ h => h) (Nat.le_trans hb1.size h.size)⟩)
  have e0 := q1.cell 0; have e1 := q1.cell 1; have e2 := q1.cell 2; have e3 := q1.cell 3; have e4 := q1.cell 4; have e5 := q1.cell 5; have e6 := q1.cell 6; have e7 := q1.cell 7; have e8 := q1.cell 8; have e9 := q1.cell 9; have f0 := q2.cell 0; have f1 := q2.cell 1
  obtain ⟨b0, h0⟩ : ∃ b, decide (n ≤ 20) = b := ⟨_, rfl⟩
  have HSH := Lib.hid (show ∀ wx, Below W1.heap.size W1 wx → Calls Tryz.prog 13 #[.agg #[.int .i64 t.mass, .int .i64 t.len, .int .i64 t.speed, .int .i64 t.effort, .int .i64 t.brake, .int .i64 t.power, .int .i64 t.resist, .int .i64 t.rise, .int .i64 t.back, .slice A n c]] wx fun e w' => e = .returned (.bool b0) ∧ Below wx.heap.size wx w' from fun wx h => by have := short_any A c n t wx hn2; rwa [h0] at this)
  have HKN := Lib.hid (show ∀ wx, Below W1.heap.size W1 wx → Calls Tryz.prog 14 #[] wx fun e w' => e = .returned (.bool true) ∧ Below wx.heap.size wx w' from fun wx _ => known_any wx)
  have v3 : mkE t m y d sl st = 0 := by unfold mkE; rw [if_pos v6, if_pos v7]
  have hF : FineOk t m y d sl st := FineOk.of v6
  have hfit := mkL_fit hF
  have hq0 := fine_q hF
  have hm0 := hF.m0; have hm1 := hF.m1; have hms := hF.ok.m2; have hy0 := hF.y0
  have hk2 : 0 ≤ k ∧ y + mkQ t m d sl st + k ≤ 10000000000000000 → mkE t m (y + k) d sl st = 0 := fun hk => by
    have hf2 : fineB t m (y + k) d sl st = true := by
      unfold fineB stateB at v6 ⊢
      simp only [Bool.and_eq_true, inB_iff] at v6 ⊢
      exact ⟨v6.1, ⟨v6.2.1.1, by omega, by omega⟩, v6.2.2⟩
    unfold mkE
    rw [if_pos hf2, if_pos ⟨v7.1, by omega⟩]
  obtain ⟨q, hq⟩ : ∃ q, mkQ t m d sl st = q := ⟨_, rfl⟩
  obtain ⟨yq, hyq⟩ : ∃ z, y + q = z := ⟨_, rfl⟩
  have v1 : stX t m y d sl st = #[.int .i64 q, .int .i64 yq] := by unfold stX; rw [if_pos v3, hq, hyq]
  obtain ⟨lg, hlg⟩ : ∃ g, mkL t m d sl st = g := ⟨_, rfl⟩
  rw [hlg, hq] at hfit
  obtain ⟨l0, l1, l2, l3, l4, l5⟩ := lg
  have v2 : stL t m y d sl st = #[.int .i64 l0, .int .i64 l1, .int .i64 l2, .int .i64 l3, .int .i64 l4, .int .i64 l5] := by unfold stL; rw [if_pos v3, hlg]; rfl
  obtain ⟨p0, p1, b0', b1, d0, d1, h0', h1, r0, r1, o0, o1, hid, hpb⟩ := hfit
  simp only at p0 p1 b0' b1 d0 d1 h0' h1 r0 r1 o0 o1 hid hpb
  rw [hq] at hq0 v7
  obtain ⟨qq, hqq⟩ : ∃ z, q * q = z := ⟨_, rfl⟩
  obtain ⟨mm, hmm⟩ : ∃ z, m * m = z := ⟨_, rfl⟩
  have bq := mul_bd (x := q) (y := q) (X := 2080000000) (Y := 2080000000) (by omega) (by omega) hq0.1 hq0.2 (by omega)
  have bm := mul_bd (x := m) (y := m) (X := 2000000000) (Y := 2000000000) (by omega) (by omega) hm0 (by omega) (by omega)
  rw [hqq] at bq hid
  rw [hmm] at bm hid
  have nq := Int.mul_nonneg hq0.1 hq0.1
  have nm := Int.mul_nonneg hm0 hm0
  rw [hqq] at nq
  rw [hmm] at nm
  obtain ⟨dd, hdd⟩ : ∃ z, qq - mm = z := ⟨_, rfl⟩
  obtain ⟨s1, hs1⟩ : ∃ z, l0 - l1 = z := ⟨_, rfl⟩
  obtain ⟨s2, hs2⟩ : ∃ z, s1 - l2 = z := ⟨_, rfl⟩
  obtain ⟨s3, hs3⟩ : ∃ z, s2 - l3 = z := ⟨_, rfl⟩
  obtain ⟨s4, hs4⟩ : ∃ z, s3 - l4 = z := ⟨_, rfl⟩
  have w1 : IntKind.i64.wrap (q * q) = qq := by rw [IntKind.wrap_i64]; omega
  have w2 : IntKind.i64.wrap (m * m) = mm := by rw [IntKind.wrap_i64]; omega
  have w3 : IntKind.i64.wrap (qq - mm) = dd := by rw [IntKind.wrap_i64]; omega
  have w4 : IntKind.i64.wrap (l0 - l1) = s1 := by rw [IntKind.wrap_i64]; omega
  have w5 : IntKind.i64.wrap (s1 - l2) = s2 := by rw [IntKind.wrap_i64]; omega
  have w6 : IntKind.i64.wrap (s2 - l3) = s3 := by rw [IntKind.wrap_i64]; omega
  have w7 : IntKind.i64.wrap (s3 - l4) = s4 := by rw [IntKind.wrap_i64]; omega
  have w8 : IntKind.i64.wrap (s4 - l5) = dd := by rw [IntKind.wrap_i64]; omega
  have w9 : IntKind.i64.wrap (y + q) = yq := by rw [IntKind.wrap_i64]; omega
  have c0 : ¬ q < 0 := by omega
  have c1 : ¬ l0 < 0 := by omega
  have c2 : ¬ l1 < 0 := by omega
  have c3 : ¬ l2 < 0 := by omega
  have c4 : ¬ l4 < 0 := by omega
  have c5 : ¬ l5 < 0 := by omega
  obtain ⟨top, htop⟩ : ∃ z, 10000000000000000 - yq = z := ⟨_, rfl⟩
  have wt : IntKind.i64.wrap (10000000000000000 - yq) = top := by rw [IntKind.wrap_i64]; omega
  have HFI := Lib.hid (show ∀ wx, Below W1.heap.size W1 wx → Calls Tryz.prog 22 #[.agg #[.int .i64 t.mass, .int .i64 t.len, .int .i64 t.speed, .int .i64 t.effort, .int .i64 t.brake, .int .i64 t.power, .int .i64 t.resist, .int .i64 t.rise, .int .i64 t.back, .slice A n c], .agg #[.int .i64 m, .int .i64 y], .int .i64 d, .int .i64 sl, .int .i64 st] wx fun e w' => e = .returned (.bool true) ∧ Below wx.heap.size wx w' from fun wx h => by have := rFine_any A c n t m y d sl st wx hn hn2 (HK.out wx h).2.2; rwa [v6] at this)
  have HST := Lib.hid (show ∀ wx, Below W1.heap.size W1 wx → Calls Tryz.prog 20 #[.agg #[.int .i64 t.mass, .int .i64 t.len, .int .i64 t.speed, .int .i64 t.effort, .int .i64 t.brake, .int .i64 t.power, .int .i64 t.resist, .int .i64 t.rise, .int .i64 t.back, .slice A n c], .agg #[.int .i64 m, .int .i64 y], .int .i64 d, .int .i64 sl, .int .i64 st] wx fun e w' => e = .returned (.tuple #[.agg #[.int .i64 q, .int .i64 yq], .agg #[.int .i64 l0, .int .i64 l1, .int .i64 l2, .int .i64 l3, .int .i64 l4, .int .i64 l5], .int .i64 0]) ∧ Below wx.heap.size wx w' from fun wx h => by have := step20_any A c n t m y d sl st wx hn hn2 (HK.out wx h).2.2; rwa [v1, v2, v3] at this)
  rw [hlg] at v8
  replace v8 : ¬ 0 < l0 := v8
  clear hpb
  rw [hq, hyq, htop] at hk1
  clear hb1 q1 q2 hS h0 hn v1 v2 v3 v6 v7 hF hq0 hq hyq hlg p0 p1 b0' b1 d0 d1 h0' h1 r0 r1 o0 o1 hid hqq hmm bq bm nq nm hdd hs1 hs2 hs3 hs4 htop hk2 hm0 hm1 hms hy0
  go_enter Tryz.func6, Tryz.ntmps6
  go_wp2_with fail
  (with_reducible refine (HSH.out _ HX0.out).mono ?_)
  rintro e w2 ⟨rfl, hb2⟩
  have HX1 := Lib.hid (HX0.out.trans (hb2.mono HX0.out.size))
  clear hb2
  clear e0 e1 e2 e3 e4 e5 e6 e7 e8 e9 f0 f1
  obtain ⟨r1, r2, _⟩ := HK.out _ HX1.out
  have e0 := r1.cell 0; have e1 := r1.cell 1; have e2 := r1.cell 2; have e3 := r1.cell 3; have e4 := r1.cell 4; have e5 := r1.cell 5; have e6 := r1.cell 6; have e7 := r1.cell 7; have e8 := r1.cell 8; have e9 := r1.cell 9; have f0 := r2.cell 0; have f1 := r2.cell 1
  clear r1 r2
  clear hW1 hN
  cases b0 with
  | false =>
    go_wp2_with fail
    (with_reducible refine (HKN.out _ HX1.out).mono ?_)
    rintro e w3 ⟨rfl, hb3⟩
    have HX2 := Lib.hid (HX1.out.trans (hb3.mono HX1.out.size))
    clear hb3
    go_wp2
    go_ret
    exact ⟨by rfl, HB1.out.trans (HX2.out.mono HB1.out.size)⟩
  | true =>
    go_wp2_with fail
    (with_reducible refine (HFI.out _ HX1.out).mono ?_)
    rintro e w3 ⟨rfl, hb3⟩
    have HX2 := Lib.hid (HX1.out.trans (hb3.mono HX1.out.size))
    clear hb3
    clear e0 e1 e2 e3 e4 e5 e6 e7 e8 e9 f0 f1
    obtain ⟨r1, r2, _⟩ := HK.out _ HX2.out
    have e0 := r1.cell 0; have e1 := r1.cell 1; have e2 := r1.cell 2; have e3 := r1.cell 3; have e4 := r1.cell 4; have e5 := r1.cell 5; have e6 := r1.cell 6; have e7 := r1.cell 7; have e8 := r1.cell 8; have e9 := r1.cell 9; have f0 := r2.cell 0; have f1 := r2.cell 1
    clear r1 r2
    go_wp2_with fail
    (with_reducible refine (HST.out _ HX2.out).mono ?_)
    rintro e w4 ⟨rfl, hb4⟩
    have HX3 := Lib.hid (HX2.out.trans (hb4.mono HX2.out.size))
    clear hb4
    clear e0 e1 e2 e3 e4 e5 e6 e7 e8 e9 f0 f1
    obtain ⟨r1, r2, _⟩ := HK.out _ HX3.out
    have e0 := r1.cell 0; have e1 := r1.cell 1; have e2 := r1.cell 2; have e3 := r1.cell 3; have e4 := r1.cell 4; have e5 := r1.cell 5; have e6 := r1.cell 6; have e7 := r1.cell 7; have e8 := r1.cell 8; have e9 := r1.cell 9; have f0 := r2.cell 0; have f1 := r2.cell 1
    clear r1 r2
    go_upto_region 4 with (fail)
    have hba := ((Below.refl w4.heap.size w4).alloc (Nat.le_refl _) (.cells #[.int .i64 q, .int .i64 yq] 35)).alloc (by simp) (.cells #[.int .i64 l0, .int .i64 l1, .int .i64 l2, .int .i64 l3, .int .i64 l4, .int .i64 l5] 37)
    obtain ⟨qa, qb⟩ := rows2 w4 #[.int .i64 q, .int .i64 yq] #[.int .i64 l0, .int .i64 l1, .int .i64 l2, .int .i64 l3, .int .i64 l4, .int .i64 l5] 35 37
    obtain ⟨w5, hwa⟩ : ∃ z, (w4.alloc (.cells #[.int .i64 q, .int .i64 yq] 35)).alloc (.cells #[.int .i64 l0, .int .i64 l1, .int .i64 l2, .int .i64 l3, .int .i64 l4, .int .i64 l5] 37) = z := ⟨_, rfl⟩
    rw [hwa] at hba qa qb ⊢
    clear hwa
    obtain ⟨MHA, hM⟩ : ∃ n, w4.heap.size = n := ⟨_, rfl⟩
    rw [hM] at qa qb ⊢
    have HX4 := Lib.hid (HX3.out.trans (hba.mono HX3.out.size))
    have HA := Lib.hid (show ∀ wx, Below w5.heap.size w5 wx → Rw wx MHA 35 #[.int .i64 q, .int .i64 yq] ∧ Rw wx (MHA + 1) 37 #[.int .i64 l0, .int .i64 l1, .int .i64 l2, .int .i64 l3, .int .i64 l4, .int .i64 l5] from fun wx h => ⟨qa.below h qa.lt, qb.below h qb.lt⟩)
    have HYHA_4 := Lib.hid (Below.refl w5.heap.size w5)
    clear hba qa qb hM
    clear e0 e1 e2 e3 e4 e5 e6 e7 e8 e9 f0 f1
    obtain ⟨r1, r2, _⟩ := HK.out _ HX4.out
    have e0 := r1.cell 0; have e1 := r1.cell 1; have e2 := r1.cell 2; have e3 := r1.cell 3; have e4 := r1.cell 4; have e5 := r1.cell 5; have e6 := r1.cell 6; have e7 := r1.cell 7; have e8 := r1.cell 8; have e9 := r1.cell 9; have f0 := r2.cell 0; have f1 := r2.cell 1
    clear r1 r2
    obtain ⟨u1, u2⟩ := HA.out _ HYHA_4.out
    have k0_0 := u1.cell 0; have k0_1 := u1.cell 1; have g0_0 := u2.cell 0; have g0_1 := u2.cell 1; have g0_2 := u2.cell 2; have g0_3 := u2.cell 3; have g0_4 := u2.cell 4; have g0_5 := u2.cell 5
    clear u1 u2
    go_wp2_with fail
    (with_reducible refine (HKN.out _ HX4.out).mono ?_)
    rintro e w6 ⟨rfl, hb6⟩
    have HX5 := Lib.hid (HX4.out.trans (hb6.mono HX4.out.size))
    have HYHA_5 := Lib.hid (HYHA_4.out.trans (hb6.mono HYHA_4.out.size))
    clear hb6
    go_wp2
    go_ret
    exact ⟨by rfl, HB1.out.trans (HX5.out.mono HB1.out.size)⟩
set_option maxRecDepth 100000 in
set_option maxHeartbeats 4000000 in
theorem MotionBalances_dg (A : Option Addr) (c n : Nat) (t : Tr) (m y d sl st k : Int) (w : World) (hn : t.grip.length = n) (hn2 : n ≤ 140737488351232) (hS : Sl w w.heap.size 1 CI A t.grip) (v6 : fineB t m y d sl st = true) (v7 : mkQ t m d sl st ≤ 25000 * t.mass ∧ y + mkQ t m d sl st ≤ 10000000000000000) (v8 : ¬ 0 < (mkL t m d sl st).pull) (hk : ¬ k < 0) (hk1 : ¬ 10000000000000000 - (y + mkQ t m d sl st) < k) :
    Calls Tryz.prog 6 #[.agg #[.int .i64 t.mass, .int .i64 t.len, .int .i64 t.speed, .int .i64 t.effort, .int .i64 t.brake, .int .i64 t.power, .int .i64 t.resist, .int .i64 t.rise, .int .i64 t.back, .slice A n c], .agg #[.int .i64 m, .int .i64 y], .int .i64 d, .int .i64 sl, .int .i64 st, .int .i64 k] w fun e w' => e = .returned (.bool true) ∧ Below w.heap.size w w' := by
  have hb1 := ((Below.refl w.heap.size w).alloc (Nat.le_refl _) (.cells #[.int .i64 t.mass, .int .i64 t.len, .int .i64 t.speed, .int .i64 t.effort, .int .i64 t.brake, .int .i64 t.power, .int .i64 t.resist, .int .i64 t.rise, .int .i64 t.back, .slice A n c] 24)).alloc (by simp) (.cells #[.int .i64 m, .int .i64 y] 35)
  obtain ⟨q1, q2⟩ := rows2 w #[.int .i64 t.mass, .int .i64 t.len, .int .i64 t.speed, .int .i64 t.effort, .int .i64 t.brake, .int .i64 t.power, .int .i64 t.resist, .int .i64 t.rise, .int .i64 t.back, .slice A n c] #[.int .i64 m, .int .i64 y] 24 35
  obtain ⟨W1, hW1⟩ : ∃ z, (w.alloc (.cells #[.int .i64 t.mass, .int .i64 t.len, .int .i64 t.speed, .int .i64 t.effort, .int .i64 t.brake, .int .i64 t.power, .int .i64 t.resist, .int .i64 t.rise, .int .i64 t.back, .slice A n c] 24)).alloc (.cells #[.int .i64 m, .int .i64 y] 35) = z := ⟨_, rfl⟩
  rw [hW1] at hb1 q1 q2
  obtain ⟨N, hN⟩ : ∃ n, w.heap.size = n := ⟨_, rfl⟩
  rw [hN] at q1 q2
  have HB1 := Lib.hid hb1
  have HX0 := Lib.hid (Below.refl W1.heap.size W1)
  have HK := Lib.hid (show ∀ wx, Below W1.heap.size W1 wx → Rw wx N 24 #[.int .i64 t.mass, .int .i64 t.len, .int .i64 t.speed, .int .i64 t.effort, .int .i64 t.brake, .int .i64 t.power, .int .i64 t.resist, .int .i64 t.rise, .int .i64 t.back, .slice A n c] ∧ Rw wx (N + 1) 35 #[.int .i64 m, .int .i64 y] ∧ Sl wx wx.heap.size 1 CI A t.grip from fun wx h => ⟨q1.below h q1.lt, q2.below h q2.lt, (hS.below (hb1.trans (h.mono hb1.size))).more (fun _ _ h => h) (Nat.le_trans hb1.size h.size)⟩)
  have e0 := q1.cell 0; have e1 := q1.cell 1; have e2 := q1.cell 2; have e3 := q1.cell 3; have e4 := q1.cell 4; have e5 := q1.cell 5; have e6 := q1.cell 6; have e7 := q1.cell 7; have e8 := q1.cell 8; have e9 := q1.cell 9; have f0 := q2.cell 0; have f1 := q2.cell 1
  obtain ⟨b0, h0⟩ : ∃ b, decide (n ≤ 20) = b := ⟨_, rfl⟩
  have HSH := Lib.hid (show ∀ wx, Below W1.heap.size W1 wx → Calls Tryz.prog 13 #[.agg #[.int .i64 t.mass, .int .i64 t.len, .int .i64 t.speed, .int .i64 t.effort, .int .i64 t.brake, .int .i64 t.power, .int .i64 t.resist, .int .i64 t.rise, .int .i64 t.back, .slice A n c]] wx fun e w' => e = .returned (.bool b0) ∧ Below wx.heap.size wx w' from fun wx h => by have := short_any A c n t wx hn2; rwa [h0] at this)
  have HKN := Lib.hid (show ∀ wx, Below W1.heap.size W1 wx → Calls Tryz.prog 14 #[] wx fun e w' => e = .returned (.bool true) ∧ Below wx.heap.size wx w' from fun wx _ => known_any wx)
  have v3 : mkE t m y d sl st = 0 := by unfold mkE; rw [if_pos v6, if_pos v7]
  have hF : FineOk t m y d sl st := FineOk.of v6
  have hfit := mkL_fit hF
  have hq0 := fine_q hF
  have hm0 := hF.m0; have hm1 := hF.m1; have hms := hF.ok.m2; have hy0 := hF.y0
  have hk2 : 0 ≤ k ∧ y + mkQ t m d sl st + k ≤ 10000000000000000 → mkE t m (y + k) d sl st = 0 := fun hk => by
    have hf2 : fineB t m (y + k) d sl st = true := by
      unfold fineB stateB at v6 ⊢
      simp only [Bool.and_eq_true, inB_iff] at v6 ⊢
      exact ⟨v6.1, ⟨v6.2.1.1, by omega, by omega⟩, v6.2.2⟩
    unfold mkE
    rw [if_pos hf2, if_pos ⟨v7.1, by omega⟩]
  obtain ⟨q, hq⟩ : ∃ q, mkQ t m d sl st = q := ⟨_, rfl⟩
  obtain ⟨yq, hyq⟩ : ∃ z, y + q = z := ⟨_, rfl⟩
  have v1 : stX t m y d sl st = #[.int .i64 q, .int .i64 yq] := by unfold stX; rw [if_pos v3, hq, hyq]
  obtain ⟨lg, hlg⟩ : ∃ g, mkL t m d sl st = g := ⟨_, rfl⟩
  rw [hlg, hq] at hfit
  obtain ⟨l0, l1, l2, l3, l4, l5⟩ := lg
  have v2 : stL t m y d sl st = #[.int .i64 l0, .int .i64 l1, .int .i64 l2, .int .i64 l3, .int .i64 l4, .int .i64 l5] := by unfold stL; rw [if_pos v3, hlg]; rfl
  obtain ⟨p0, p1, b0', b1, d0, d1, h0', h1, r0, r1, o0, o1, hid, hpb⟩ := hfit
  simp only at p0 p1 b0' b1 d0 d1 h0' h1 r0 r1 o0 o1 hid hpb
  rw [hq] at hq0 v7
  obtain ⟨qq, hqq⟩ : ∃ z, q * q = z := ⟨_, rfl⟩
  obtain ⟨mm, hmm⟩ : ∃ z, m * m = z := ⟨_, rfl⟩
  have bq := mul_bd (x := q) (y := q) (X := 2080000000) (Y := 2080000000) (by omega) (by omega) hq0.1 hq0.2 (by omega)
  have bm := mul_bd (x := m) (y := m) (X := 2000000000) (Y := 2000000000) (by omega) (by omega) hm0 (by omega) (by omega)
  rw [hqq] at bq hid
  rw [hmm] at bm hid
  have nq := Int.mul_nonneg hq0.1 hq0.1
  have nm := Int.mul_nonneg hm0 hm0
  rw [hqq] at nq
  rw [hmm] at nm
  obtain ⟨dd, hdd⟩ : ∃ z, qq - mm = z := ⟨_, rfl⟩
  obtain ⟨s1, hs1⟩ : ∃ z, l0 - l1 = z := ⟨_, rfl⟩
  obtain ⟨s2, hs2⟩ : ∃ z, s1 - l2 = z := ⟨_, rfl⟩
  obtain ⟨s3, hs3⟩ : ∃ z, s2 - l3 = z := ⟨_, rfl⟩
  obtain ⟨s4, hs4⟩ : ∃ z, s3 - l4 = z := ⟨_, rfl⟩
  have w1 : IntKind.i64.wrap (q * q) = qq := by rw [IntKind.wrap_i64]; omega
  have w2 : IntKind.i64.wrap (m * m) = mm := by rw [IntKind.wrap_i64]; omega
  have w3 : IntKind.i64.wrap (qq - mm) = dd := by rw [IntKind.wrap_i64]; omega
  have w4 : IntKind.i64.wrap (l0 - l1) = s1 := by rw [IntKind.wrap_i64]; omega
  have w5 : IntKind.i64.wrap (s1 - l2) = s2 := by rw [IntKind.wrap_i64]; omega
  have w6 : IntKind.i64.wrap (s2 - l3) = s3 := by rw [IntKind.wrap_i64]; omega
  have w7 : IntKind.i64.wrap (s3 - l4) = s4 := by rw [IntKind.wrap_i64]; omega
  have w8 : IntKind.i64.wrap (s4 - l5) = dd := by rw [IntKind.wrap_i64]; omega
  have w9 : IntKind.i64.wrap (y + q) = yq := by rw [IntKind.wrap_i64]; omega
  have c0 : ¬ q < 0 := by omega
  have c1 : ¬ l0 < 0 := by omega
  have c2 : ¬ l1 < 0 := by omega
  have c3 : ¬ l2 < 0 := by omega
  have c4 : ¬ l4 < 0 := by omega
  have c5 : ¬ l5 < 0 := by omega
  obtain ⟨top, htop⟩ : ∃ z, 10000000000000000 - yq = z := ⟨_, rfl⟩
  have wt : IntKind.i64.wrap (10000000000000000 - yq) = top := by rw [IntKind.wrap_i64]; omega
  have HFI := Lib.hid (show ∀ wx, Below W1.heap.size W1 wx → Calls Tryz.prog 22 #[.agg #[.int .i64 t.mass, .int .i64 t.len, .int .i64 t.speed, .int .i64 t.effort, .int .i64 t.brake, .int .i64 t.power, .int .i64 t.resist, .int .i64 t.rise, .int .i64 t.back, .slice A n c], .agg #[.int .i64 m, .int .i64 y], .int .i64 d, .int .i64 sl, .int .i64 st] wx fun e w' => e = .returned (.bool true) ∧ Below wx.heap.size wx w' from fun wx h => by have := rFine_any A c n t m y d sl st wx hn hn2 (HK.out wx h).2.2; rwa [v6] at this)
  have HST := Lib.hid (show ∀ wx, Below W1.heap.size W1 wx → Calls Tryz.prog 20 #[.agg #[.int .i64 t.mass, .int .i64 t.len, .int .i64 t.speed, .int .i64 t.effort, .int .i64 t.brake, .int .i64 t.power, .int .i64 t.resist, .int .i64 t.rise, .int .i64 t.back, .slice A n c], .agg #[.int .i64 m, .int .i64 y], .int .i64 d, .int .i64 sl, .int .i64 st] wx fun e w' => e = .returned (.tuple #[.agg #[.int .i64 q, .int .i64 yq], .agg #[.int .i64 l0, .int .i64 l1, .int .i64 l2, .int .i64 l3, .int .i64 l4, .int .i64 l5], .int .i64 0]) ∧ Below wx.heap.size wx w' from fun wx h => by have := step20_any A c n t m y d sl st wx hn hn2 (HK.out wx h).2.2; rwa [v1, v2, v3] at this)
  rw [hlg] at v8
  replace v8 : ¬ 0 < l0 := v8
  clear hpb
  rw [hq, hyq, htop] at hk1
  rw [hq] at hk2
  obtain ⟨yk, hyk⟩ : ∃ z, y + k = z := ⟨_, rfl⟩
  obtain ⟨ykq, hykq⟩ : ∃ z, yk + q = z := ⟨_, rfl⟩
  have e3 : mkE t m yk d sl st = 0 := by rw [← hyk]; exact hk2 (by omega)
  have x1 : stX t m yk d sl st = #[.int .i64 q, .int .i64 ykq] := by unfold stX; rw [if_pos e3, hq, hykq]
  have x2 : stL t m yk d sl st = #[.int .i64 l0, .int .i64 l1, .int .i64 l2, .int .i64 l3, .int .i64 l4, .int .i64 l5] := by unfold stL; rw [if_pos e3, hlg]; rfl
  have wk : IntKind.i64.wrap (y + k) = yk := by rw [IntKind.wrap_i64]; omega
  have wk2 : IntKind.i64.wrap (yq + k) = ykq := by rw [IntKind.wrap_i64]; omega
  have HS2 := Lib.hid (show ∀ wx, Below W1.heap.size W1 wx → Calls Tryz.prog 20 #[.agg #[.int .i64 t.mass, .int .i64 t.len, .int .i64 t.speed, .int .i64 t.effort, .int .i64 t.brake, .int .i64 t.power, .int .i64 t.resist, .int .i64 t.rise, .int .i64 t.back, .slice A n c], .agg #[.int .i64 m, .int .i64 yk], .int .i64 d, .int .i64 sl, .int .i64 st] wx fun e w' => e = .returned (.tuple #[.agg #[.int .i64 q, .int .i64 ykq], .agg #[.int .i64 l0, .int .i64 l1, .int .i64 l2, .int .i64 l3, .int .i64 l4, .int .i64 l5], .int .i64 0]) ∧ Below wx.heap.size wx w' from fun wx h => by have := step20_any A c n t m yk d sl st wx hn hn2 (HK.out wx h).2.2; rwa [x1, x2, e3] at this)
  clear hyk hykq e3 x1 x2
  clear hb1 q1 q2 hS h0 hn v1 v2 v3 v6 v7 hF hq0 hq hyq hlg p0 p1 b0' b1 d0 d1 h0' h1 r0 r1 o0 o1 hid hqq hmm bq bm nq nm hdd hs1 hs2 hs3 hs4 htop hk2 hm0 hm1 hms hy0
  go_enter Tryz.func6, Tryz.ntmps6
  go_wp2_with fail
  (with_reducible refine (HSH.out _ HX0.out).mono ?_)
  rintro e w2 ⟨rfl, hb2⟩
  have HX1 := Lib.hid (HX0.out.trans (hb2.mono HX0.out.size))
  clear hb2
  clear e0 e1 e2 e3 e4 e5 e6 e7 e8 e9 f0 f1
  obtain ⟨r1, r2, _⟩ := HK.out _ HX1.out
  have e0 := r1.cell 0; have e1 := r1.cell 1; have e2 := r1.cell 2; have e3 := r1.cell 3; have e4 := r1.cell 4; have e5 := r1.cell 5; have e6 := r1.cell 6; have e7 := r1.cell 7; have e8 := r1.cell 8; have e9 := r1.cell 9; have f0 := r2.cell 0; have f1 := r2.cell 1
  clear r1 r2
  clear hW1 hN
  cases b0 with
  | false =>
    go_wp2_with fail
    (with_reducible refine (HKN.out _ HX1.out).mono ?_)
    rintro e w3 ⟨rfl, hb3⟩
    have HX2 := Lib.hid (HX1.out.trans (hb3.mono HX1.out.size))
    clear hb3
    go_wp2
    go_ret
    exact ⟨by rfl, HB1.out.trans (HX2.out.mono HB1.out.size)⟩
  | true =>
    go_wp2_with fail
    (with_reducible refine (HFI.out _ HX1.out).mono ?_)
    rintro e w3 ⟨rfl, hb3⟩
    have HX2 := Lib.hid (HX1.out.trans (hb3.mono HX1.out.size))
    clear hb3
    clear e0 e1 e2 e3 e4 e5 e6 e7 e8 e9 f0 f1
    obtain ⟨r1, r2, _⟩ := HK.out _ HX2.out
    have e0 := r1.cell 0; have e1 := r1.cell 1; have e2 := r1.cell 2; have e3 := r1.cell 3; have e4 := r1.cell 4; have e5 := r1.cell 5; have e6 := r1.cell 6; have e7 := r1.cell 7; have e8 := r1.cell 8; have e9 := r1.cell 9; have f0 := r2.cell 0; have f1 := r2.cell 1
    clear r1 r2
    go_wp2_with fail
    (with_reducible refine (HST.out _ HX2.out).mono ?_)
    rintro e w4 ⟨rfl, hb4⟩
    have HX3 := Lib.hid (HX2.out.trans (hb4.mono HX2.out.size))
    clear hb4
    clear e0 e1 e2 e3 e4 e5 e6 e7 e8 e9 f0 f1
    obtain ⟨r1, r2, _⟩ := HK.out _ HX3.out
    have e0 := r1.cell 0; have e1 := r1.cell 1; have e2 := r1.cell 2; have e3 := r1.cell 3; have e4 := r1.cell 4; have e5 := r1.cell 5; have e6 := r1.cell 6; have e7 := r1.cell 7; have e8 := r1.cell 8; have e9 := r1.cell 9; have f0 := r2.cell 0; have f1 := r2.cell 1
    clear r1 r2
    go_upto_region 4 with (fail)
    have hba := ((Below.refl w4.heap.size w4).alloc (Nat.le_refl _) (.cells #[.int .i64 q, .int .i64 yq] 35)).alloc (by simp) (.cells #[.int .i64 l0, .int .i64 l1, .int .i64 l2, .int .i64 l3, .int .i64 l4, .int .i64 l5] 37)
    obtain ⟨qa, qb⟩ := rows2 w4 #[.int .i64 q, .int .i64 yq] #[.int .i64 l0, .int .i64 l1, .int .i64 l2, .int .i64 l3, .int .i64 l4, .int .i64 l5] 35 37
    obtain ⟨w5, hwa⟩ : ∃ z, (w4.alloc (.cells #[.int .i64 q, .int .i64 yq] 35)).alloc (.cells #[.int .i64 l0, .int .i64 l1, .int .i64 l2, .int .i64 l3, .int .i64 l4, .int .i64 l5] 37) = z := ⟨_, rfl⟩
    rw [hwa] at hba qa qb ⊢
    clear hwa
    obtain ⟨MHA, hM⟩ : ∃ n, w4.heap.size = n := ⟨_, rfl⟩
    rw [hM] at qa qb ⊢
    have HX4 := Lib.hid (HX3.out.trans (hba.mono HX3.out.size))
    have HA := Lib.hid (show ∀ wx, Below w5.heap.size w5 wx → Rw wx MHA 35 #[.int .i64 q, .int .i64 yq] ∧ Rw wx (MHA + 1) 37 #[.int .i64 l0, .int .i64 l1, .int .i64 l2, .int .i64 l3, .int .i64 l4, .int .i64 l5] from fun wx h => ⟨qa.below h qa.lt, qb.below h qb.lt⟩)
    have HYHA_4 := Lib.hid (Below.refl w5.heap.size w5)
    clear hba qa qb hM
    clear e0 e1 e2 e3 e4 e5 e6 e7 e8 e9 f0 f1
    obtain ⟨r1, r2, _⟩ := HK.out _ HX4.out
    have e0 := r1.cell 0; have e1 := r1.cell 1; have e2 := r1.cell 2; have e3 := r1.cell 3; have e4 := r1.cell 4; have e5 := r1.cell 5; have e6 := r1.cell 6; have e7 := r1.cell 7; have e8 := r1.cell 8; have e9 := r1.cell 9; have f0 := r2.cell 0; have f1 := r2.cell 1
    clear r1 r2
    obtain ⟨u1, u2⟩ := HA.out _ HYHA_4.out
    have k0_0 := u1.cell 0; have k0_1 := u1.cell 1; have g0_0 := u2.cell 0; have g0_1 := u2.cell 1; have g0_2 := u2.cell 2; have g0_3 := u2.cell 3; have g0_4 := u2.cell 4; have g0_5 := u2.cell 5
    clear u1 u2
    go_wp2_with fail
    (with_reducible refine (HS2.out _ HX4.out).mono ?_)
    rintro e w6 ⟨rfl, hb6⟩
    have HX5 := Lib.hid (HX4.out.trans (hb6.mono HX4.out.size))
    have HYHA_5 := Lib.hid (HYHA_4.out.trans (hb6.mono HYHA_4.out.size))
    clear hb6
    clear e0 e1 e2 e3 e4 e5 e6 e7 e8 e9 f0 f1 k0_0 k0_1 g0_0 g0_1 g0_2 g0_3 g0_4 g0_5
    obtain ⟨r1, r2, _⟩ := HK.out _ HX5.out
    have e0 := r1.cell 0; have e1 := r1.cell 1; have e2 := r1.cell 2; have e3 := r1.cell 3; have e4 := r1.cell 4; have e5 := r1.cell 5; have e6 := r1.cell 6; have e7 := r1.cell 7; have e8 := r1.cell 8; have e9 := r1.cell 9; have f0 := r2.cell 0; have f1 := r2.cell 1
    clear r1 r2
    obtain ⟨u1, u2⟩ := HA.out _ HYHA_5.out
    have k0_0 := u1.cell 0; have k0_1 := u1.cell 1; have g0_0 := u2.cell 0; have g0_1 := u2.cell 1; have g0_2 := u2.cell 2; have g0_3 := u2.cell 3; have g0_4 := u2.cell 4; have g0_5 := u2.cell 5
    clear u1 u2
    go_upto_region 13 with (fail)
    have hba := ((Below.refl w6.heap.size w6).alloc (Nat.le_refl _) (.cells #[.int .i64 q, .int .i64 ykq] 35)).alloc (by simp) (.cells #[.int .i64 l0, .int .i64 l1, .int .i64 l2, .int .i64 l3, .int .i64 l4, .int .i64 l5] 37)
    obtain ⟨qa, qb⟩ := rows2 w6 #[.int .i64 q, .int .i64 ykq] #[.int .i64 l0, .int .i64 l1, .int .i64 l2, .int .i64 l3, .int .i64 l4, .int .i64 l5] 35 37
    obtain ⟨w7, hwa⟩ : ∃ z, (w6.alloc (.cells #[.int .i64 q, .int .i64 ykq] 35)).alloc (.cells #[.int .i64 l0, .int .i64 l1, .int .i64 l2, .int .i64 l3, .int .i64 l4, .int .i64 l5] 37) = z := ⟨_, rfl⟩
    rw [hwa] at hba qa qb ⊢
    clear hwa
    obtain ⟨MHC, hM⟩ : ∃ n, w6.heap.size = n := ⟨_, rfl⟩
    rw [hM] at qa qb ⊢
    have HX6 := Lib.hid (HX5.out.trans (hba.mono HX5.out.size))
    have HYHA_6 := Lib.hid (HYHA_5.out.trans (hba.mono HYHA_5.out.size))
    have HC := Lib.hid (show ∀ wx, Below w7.heap.size w7 wx → Rw wx MHC 35 #[.int .i64 q, .int .i64 ykq] ∧ Rw wx (MHC + 1) 37 #[.int .i64 l0, .int .i64 l1, .int .i64 l2, .int .i64 l3, .int .i64 l4, .int .i64 l5] from fun wx h => ⟨qa.below h qa.lt, qb.below h qb.lt⟩)
    have HYHC_6 := Lib.hid (Below.refl w7.heap.size w7)
    clear hba qa qb hM
    clear e0 e1 e2 e3 e4 e5 e6 e7 e8 e9 f0 f1 k0_0 k0_1 g0_0 g0_1 g0_2 g0_3 g0_4 g0_5
    obtain ⟨r1, r2, _⟩ := HK.out _ HX6.out
    have e0 := r1.cell 0; have e1 := r1.cell 1; have e2 := r1.cell 2; have e3 := r1.cell 3; have e4 := r1.cell 4; have e5 := r1.cell 5; have e6 := r1.cell 6; have e7 := r1.cell 7; have e8 := r1.cell 8; have e9 := r1.cell 9; have f0 := r2.cell 0; have f1 := r2.cell 1
    clear r1 r2
    obtain ⟨u1, u2⟩ := HA.out _ HYHA_6.out
    have k0_0 := u1.cell 0; have k0_1 := u1.cell 1; have g0_0 := u2.cell 0; have g0_1 := u2.cell 1; have g0_2 := u2.cell 2; have g0_3 := u2.cell 3; have g0_4 := u2.cell 4; have g0_5 := u2.cell 5
    clear u1 u2
    obtain ⟨u1, u2⟩ := HC.out _ HYHC_6.out
    have k1_0 := u1.cell 0; have k1_1 := u1.cell 1; have g1_0 := u2.cell 0; have g1_1 := u2.cell 1; have g1_2 := u2.cell 2; have g1_3 := u2.cell 3; have g1_4 := u2.cell 4; have g1_5 := u2.cell 5
    clear u1 u2
    go_wp2_with fail
    (with_reducible refine (HKN.out _ HX6.out).mono ?_)
    rintro e w8 ⟨rfl, hb8⟩
    have HX7 := Lib.hid (HX6.out.trans (hb8.mono HX6.out.size))
    have HYHA_7 := Lib.hid (HYHA_6.out.trans (hb8.mono HYHA_6.out.size))
    have HYHC_7 := Lib.hid (HYHC_6.out.trans (hb8.mono HYHC_6.out.size))
    clear hb8
    go_wp2
    go_ret
    exact ⟨by rfl, HB1.out.trans (HX7.out.mono HB1.out.size)⟩
theorem MotionBalances_any (A : Option Addr) (c n : Nat) (t : Tr) (m y d sl st k : Int) (w : World) (hn : t.grip.length = n) (hn2 : n ≤ 140737488351232) (hS : Sl w w.heap.size 1 CI A t.grip) :
    Calls Tryz.prog 6 #[.agg #[.int .i64 t.mass, .int .i64 t.len, .int .i64 t.speed, .int .i64 t.effort, .int .i64 t.brake, .int .i64 t.power, .int .i64 t.resist, .int .i64 t.rise, .int .i64 t.back, .slice A n c], .agg #[.int .i64 m, .int .i64 y], .int .i64 d, .int .i64 sl, .int .i64 st, .int .i64 k] w fun e w' => e = .returned (.bool true) ∧ Below w.heap.size w w' := by
  cases v6 : fineB t m y d sl st with
  | false => exact MotionBalances_a A c n t m y d sl st k w hn hn2 hS v6
  | true =>
    by_cases v7 : mkQ t m d sl st ≤ 25000 * t.mass ∧ y + mkQ t m d sl st ≤ 10000000000000000
    · by_cases v8 : 0 < (mkL t m d sl st).pull
      · by_cases hk : k < 0
        · exact MotionBalances_cn A c n t m y d sl st k w hn hn2 hS v6 v7 v8 hk
        · by_cases hk1 : 10000000000000000 - (y + mkQ t m d sl st) < k
          · exact MotionBalances_cb A c n t m y d sl st k w hn hn2 hS v6 v7 v8 hk hk1
          · exact MotionBalances_cg A c n t m y d sl st k w hn hn2 hS v6 v7 v8 hk hk1
      · by_cases hk : k < 0
        · exact MotionBalances_dn A c n t m y d sl st k w hn hn2 hS v6 v7 v8 hk
        · by_cases hk1 : 10000000000000000 - (y + mkQ t m d sl st) < k
          · exact MotionBalances_db A c n t m y d sl st k w hn hn2 hS v6 v7 v8 hk hk1
          · exact MotionBalances_dg A c n t m y d sl st k w hn hn2 hS v6 v7 v8 hk hk1
    · exact MotionBalances_b A c n t m y d sl st k w hn hn2 hS v6 v7
end Go.Proofs.YtfhkbbjddjddmaaGreat
