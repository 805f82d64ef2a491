/- Law: MotionStops. -/
import Derived.Test.YtfhkbbjddjddmaaGreatMj
namespace Go.Proofs.YtfhkbbjddjddmaaGreat
set_option linter.unusedVariables false
set_option linter.unusedSimpArgs false
open Go.RowKit

theorem sightDn_is (t : Tr) (sl st dist : Int) (hd : 0 ≤ dist) : ∀ N : Nat, ∃ r : Nat, sightDn t sl st dist N = (r : Int) ∧ r ≤ N ∧ sightOk t sl st dist r = true ∧ ∀ v, r < v → v ≤ N → sightOk t sl st dist v = false := by
  intro N
  induction N with
  | zero =>
    refine ⟨0, rfl, Nat.le_refl _, ?_, fun v h1 h2 => by omega⟩
    unfold sightOk
    rw [show (((0 : Nat) : Int)) * t.mass = 0 by simp, brakeW_stop 36000 (Int.le_refl 0)]
    show (true && decide (0 / (10 * t.mass) - 0 / (10 * t.mass) ≤ dist)) = true
    rw [Bool.true_and]
    exact decide_eq_true (by omega)
  | succ N ih =>
    rw [sightDn]
    cases h : sightOk t sl st dist (N + 1) with
    | true => exact ⟨N + 1, by rw [if_pos rfl], Nat.le_refl _, h, fun v h1 h2 => by omega⟩
    | false =>
      obtain ⟨r, h1, h2, h3, h4⟩ := ih
      refine ⟨r, by rw [if_neg (by simp)]; exact h1, by omega, h3, fun v g1 g2 => ?_⟩
      by_cases hv : v = N + 1
      · rw [hv]; exact h
      · exact h4 v g1 (by omega)
set_option maxRecDepth 100000 in
set_option maxHeartbeats 4000000 in
theorem MotionStops_any (A : Option Addr) (c n : Nat) (t : Tr) (sl st dist : Int) (w : World) (hn : t.grip.length = n) (hn2 : n ≤ 140737488351232) (hS : Sl w w.heap.size 1 CI A t.grip) :
    Calls Tryz.prog 9 #[.agg #[.int .i64 t.mass, .int .i64 t.len, .int .i64 t.speed, .int .i64 t.effort, .int .i64 t.brake, .int .i64 t.power, .int .i64 t.resist, .int .i64 t.rise, .int .i64 t.back, .slice A n c], .int .i64 sl, .int .i64 st, .int .i64 dist] w fun e w' => e = .returned (.bool true) ∧ Below w.heap.size w w' := by
  have hb1 := (Below.refl w.heap.size w).alloc (Nat.le_refl _) (.cells #[.int .i64 t.mass, .int .i64 t.len, .int .i64 t.speed, .int .i64 t.effort, .int .i64 t.brake, .int .i64 t.power, .int .i64 t.resist, .int .i64 t.rise, .int .i64 t.back, .slice A n c] 24)
  have q1 := Rw.new w #[.int .i64 t.mass, .int .i64 t.len, .int .i64 t.speed, .int .i64 t.effort, .int .i64 t.brake, .int .i64 t.power, .int .i64 t.resist, .int .i64 t.rise, .int .i64 t.back, .slice A n c] 24
  obtain ⟨W1, hW1⟩ : ∃ z, w.alloc (.cells #[.int .i64 t.mass, .int .i64 t.len, .int .i64 t.speed, .int .i64 t.effort, .int .i64 t.brake, .int .i64 t.power, .int .i64 t.resist, .int .i64 t.rise, .int .i64 t.back, .slice A n c] 24) = z := ⟨_, rfl⟩
  rw [hW1] at hb1 q1
  obtain ⟨N, hN⟩ : ∃ n, w.heap.size = n := ⟨_, rfl⟩
  rw [hN] at q1
  have HB1 := Lib.hid hb1
  have HX0 := Lib.hid (Below.refl W1.heap.size W1)
  have HK := Lib.hid (show ∀ wx, Below W1.heap.size W1 wx → Rw wx N 24 #[.int .i64 t.mass, .int .i64 t.len, .int .i64 t.speed, .int .i64 t.effort, .int .i64 t.brake, .int .i64 t.power, .int .i64 t.resist, .int .i64 t.rise, .int .i64 t.back, .slice A n c] ∧ Sl wx wx.heap.size 1 CI A t.grip from fun wx h => ⟨q1.below h q1.lt, (hS.below (hb1.trans (h.mono hb1.size))).more (fun _ _ h => h) (Nat.le_trans hb1.size h.size)⟩)
  have e0 := q1.cell 0; have e1 := q1.cell 1; have e2 := q1.cell 2; have e3 := q1.cell 3; have e4 := q1.cell 4; have e5 := q1.cell 5; have e6 := q1.cell 6; have e7 := q1.cell 7; have e8 := q1.cell 8; have e9 := q1.cell 9
  obtain ⟨b0, h0⟩ : ∃ b, decide (n ≤ 20) = b := ⟨_, rfl⟩
  have HSH := Lib.hid (show ∀ wx, Below W1.heap.size W1 wx → Calls Tryz.prog 13 #[.agg #[.int .i64 t.mass, .int .i64 t.len, .int .i64 t.speed, .int .i64 t.effort, .int .i64 t.brake, .int .i64 t.power, .int .i64 t.resist, .int .i64 t.rise, .int .i64 t.back, .slice A n c]] wx fun e w' => e = .returned (.bool b0) ∧ Below wx.heap.size wx w' from fun wx h => by have := short_any A c n t wx hn2; rwa [h0] at this)
  have HKN := Lib.hid (show ∀ wx, Below W1.heap.size W1 wx → Calls Tryz.prog 14 #[] wx fun e w' => e = .returned (.bool true) ∧ Below wx.heap.size wx w' from fun wx _ => known_any wx)
  obtain ⟨bq, hbq⟩ : ∃ v, decide (t.speed ≤ 2000) = v := ⟨_, rfl⟩
  obtain ⟨bb, hbb⟩ : ∃ v, brkB t 0 0 sl st = v := ⟨_, rfl⟩
  have HQK := Lib.hid (show ∀ wx, Below W1.heap.size W1 wx → Calls Tryz.prog 29 #[.agg #[.int .i64 t.mass, .int .i64 t.len, .int .i64 t.speed, .int .i64 t.effort, .int .i64 t.brake, .int .i64 t.power, .int .i64 t.resist, .int .i64 t.rise, .int .i64 t.back, .slice A n c]] wx fun e w' => e = .returned (.bool bq) ∧ Below wx.heap.size wx w' from fun wx h => by have := quick_any A c n t wx; rwa [hbq] at this)
  have HFI := Lib.hid (show ∀ wx, Below W1.heap.size W1 wx → Calls Tryz.prog 22 #[.agg #[.int .i64 t.mass, .int .i64 t.len, .int .i64 t.speed, .int .i64 t.effort, .int .i64 t.brake, .int .i64 t.power, .int .i64 t.resist, .int .i64 t.rise, .int .i64 t.back, .slice A n c], .agg #[.int .i64 0, .int .i64 0], .int .i64 0, .int .i64 sl, .int .i64 st] wx fun e w' => e = .returned (.bool bb) ∧ Below wx.heap.size wx w' from fun wx h => by have := rFine_any A c n t 0 0 0 sl st wx hn hn2 (HK.out wx h).2; rwa [brkB_fine t 0 0 0 sl st (by omega) (by omega), hbb] at this)
  have HSG := Lib.hid (show ∀ wx, Below W1.heap.size W1 wx → Calls Tryz.prog 27 #[.agg #[.int .i64 t.mass, .int .i64 t.len, .int .i64 t.speed, .int .i64 t.effort, .int .i64 t.brake, .int .i64 t.power, .int .i64 t.resist, .int .i64 t.rise, .int .i64 t.back, .slice A n c], .int .i64 sl, .int .i64 st, .int .i64 dist] wx fun e w' => e = .returned (.tuple #[.int .i64 (sgtR t sl st dist), .int .i64 (sgtE t sl st dist)]) ∧ Below wx.heap.size wx w' from fun wx h => Sight_any A c n t sl st dist wx hn hn2 (HK.out wx h).2)
  have HBK := Lib.hid (show ∀ (m : Int) wx, Below W1.heap.size W1 wx → Calls Tryz.prog 25 #[.agg #[.int .i64 t.mass, .int .i64 t.len, .int .i64 t.speed, .int .i64 t.effort, .int .i64 t.brake, .int .i64 t.power, .int .i64 t.resist, .int .i64 t.rise, .int .i64 t.back, .slice A n c], .agg #[.int .i64 m, .int .i64 0], .int .i64 sl, .int .i64 st] wx fun e w' => e = .returned (.tuple #[.int .i64 (brkR t m 0 sl st), .int .i64 (brkE t m 0 sl st)]) ∧ Below wx.heap.size wx w' from fun m wx h => Braking_any A c n t m 0 sl st wx hn hn2 (HK.out wx h).2)
  have HV := Lib.hid hbb
  have HN := Lib.hid hn
  clear hb1 q1 hS h0 hbb hn hbq
  go_enter Tryz.func9, Tryz.ntmps9
  go_wp2_with fail
  (with_reducible refine (HSH.out _ HX0.out).mono ?_)
  rintro e w2 ⟨rfl, hb2⟩
  have HX1 := Lib.hid (HX0.out.trans (hb2.mono HX0.out.size))
  clear hb2
  clear e0 e1 e2 e3 e4 e5 e6 e7 e8 e9
  obtain ⟨r1, _⟩ := HK.out _ HX1.out
  have e0 := r1.cell 0; have e1 := r1.cell 1; have e2 := r1.cell 2; have e3 := r1.cell 3; have e4 := r1.cell 4; have e5 := r1.cell 5; have e6 := r1.cell 6; have e7 := r1.cell 7; have e8 := r1.cell 8; have e9 := r1.cell 9
  clear r1
  clear hW1 hN
  cases b0 with
  | false =>
    go_wp2_with fail
    (with_reducible refine (HKN.out _ HX1.out).mono ?_)
    rintro e w3 ⟨rfl, hb3⟩
    have HX2 := Lib.hid (HX1.out.trans (hb3.mono HX1.out.size))
    clear hb3
    go_wp2
    go_ret
    exact ⟨by rfl, HB1.out.trans (HX2.out.mono HB1.out.size)⟩
  | true =>
    go_wp2_with fail
    (with_reducible refine (HQK.out _ HX1.out).mono ?_)
    rintro e w3 ⟨rfl, hb3⟩
    have HX2 := Lib.hid (HX1.out.trans (hb3.mono HX1.out.size))
    clear hb3
    clear e0 e1 e2 e3 e4 e5 e6 e7 e8 e9
    obtain ⟨r1, _⟩ := HK.out _ HX2.out
    have e0 := r1.cell 0; have e1 := r1.cell 1; have e2 := r1.cell 2; have e3 := r1.cell 3; have e4 := r1.cell 4; have e5 := r1.cell 5; have e6 := r1.cell 6; have e7 := r1.cell 7; have e8 := r1.cell 8; have e9 := r1.cell 9
    clear r1
    cases bq with
    | false =>
      go_wp2_with fail
      (with_reducible refine (HKN.out _ HX2.out).mono ?_)
      rintro e w4 ⟨rfl, hb4⟩
      have HX3 := Lib.hid (HX2.out.trans (hb4.mono HX2.out.size))
      clear hb4
      go_wp2
      go_ret
      exact ⟨by rfl, HB1.out.trans (HX3.out.mono HB1.out.size)⟩
    | true =>
      go_wp2_with fail
      (with_reducible refine (HFI.out _ HX2.out).mono ?_)
      rintro e w4 ⟨rfl, hb4⟩
      have HX3 := Lib.hid (HX2.out.trans (hb4.mono HX2.out.size))
      clear hb4
      clear e0 e1 e2 e3 e4 e5 e6 e7 e8 e9
      obtain ⟨r1, _⟩ := HK.out _ HX3.out
      have e0 := r1.cell 0; have e1 := r1.cell 1; have e2 := r1.cell 2; have e3 := r1.cell 3; have e4 := r1.cell 4; have e5 := r1.cell 5; have e6 := r1.cell 6; have e7 := r1.cell 7; have e8 := r1.cell 8; have e9 := r1.cell 9
      clear r1
      cases bb with
      | false =>
        go_wp2_with fail
        (with_reducible refine (HKN.out _ HX3.out).mono ?_)
        rintro e w5 ⟨rfl, hb5⟩
        have HX4 := Lib.hid (HX3.out.trans (hb5.mono HX3.out.size))
        clear hb5
        go_wp2
        go_ret
        exact ⟨by rfl, HB1.out.trans (HX4.out.mono HB1.out.size)⟩
      | true =>
        by_cases g1 : dist < 0
        · go_wp2_with fail
          (with_reducible refine (HKN.out _ HX3.out).mono ?_)
          rintro e w5 ⟨rfl, hb5⟩
          have HX4 := Lib.hid (HX3.out.trans (hb5.mono HX3.out.size))
          clear hb5
          go_wp2
          go_ret
          exact ⟨by rfl, HB1.out.trans (HX4.out.mono HB1.out.size)⟩
        by_cases g2 : 1000000 < dist
        · go_wp2_with fail
          (with_reducible refine (HKN.out _ HX3.out).mono ?_)
          rintro e w5 ⟨rfl, hb5⟩
          have HX4 := Lib.hid (HX3.out.trans (hb5.mono HX3.out.size))
          clear hb5
          go_wp2
          go_ret
          exact ⟨by rfl, HB1.out.trans (HX4.out.mono HB1.out.size)⟩
        by_cases g3 : t.brake < 100
        · go_wp2_with fail
          (with_reducible refine (HKN.out _ HX3.out).mono ?_)
          rintro e w5 ⟨rfl, hb5⟩
          have HX4 := Lib.hid (HX3.out.trans (hb5.mono HX3.out.size))
          clear hb5
          go_wp2
          go_ret
          exact ⟨by rfl, HB1.out.trans (HX4.out.mono HB1.out.size)⟩
        by_cases g4 : sl < -30
        · go_wp2_with fail
          (with_reducible refine (HKN.out _ HX3.out).mono ?_)
          rintro e w5 ⟨rfl, hb5⟩
          have HX4 := Lib.hid (HX3.out.trans (hb5.mono HX3.out.size))
          clear hb5
          go_wp2
          go_ret
          exact ⟨by rfl, HB1.out.trans (HX4.out.mono HB1.out.size)⟩
        have v3 := HV.out
        have hr : rightB t = true := by
          unfold brkB at v3
          simp only [Bool.and_eq_true] at v3
          exact v3.1
        have hp : placeB t sl st = true := by
          unfold brkB at v3
          simp only [Bool.and_eq_true] at v3
          exact v3.2.2
        have ht := TrOk.of hr
        have v4 : sgtB t sl st dist = true := by
          unfold sgtB
          rw [hr, hp, inB_iff.2 ⟨by omega, by omega⟩]
          rfl
        have hR : sgtR t sl st dist = sightZ t sl st dist := by unfold sgtR; rw [if_pos v4]
        have hE : sgtE t sl st dist = 0 := by unfold sgtE; rw [if_pos v4]
        obtain ⟨x, hx, hxn, hxo, hxm⟩ := sightDn_is t sl st dist (by omega) t.speed.toNat
        have hsp := ht.v1; have hsp2 := ht.v2; have hms := ht.m1; have hms2 := ht.m2
        have hxs : (x : Int) ≤ t.speed := by omega
        have hZ : sightZ t sl st dist = (x : Int) := hx
        have hbb : ∀ v : Nat, v ≤ 25000 → brkB t ((v : Int) * t.mass) 0 sl st = true := fun v hv => by
          have h1 := Int.mul_nonneg (show (0 : Int) ≤ (v : Int) by omega) (show 0 ≤ t.mass by omega)
          have h2 := Int.mul_le_mul_of_nonneg_right (show (v : Int) ≤ 25000 by omega) (show 0 ≤ t.mass by omega)
          unfold brkB stateB
          rw [hr, hp, inB_iff.2 ⟨h1, h2⟩, inB_iff.2 ⟨Int.le_refl 0, by omega⟩]
          rfl
        have hE1 : brkE t ((x : Int) * t.mass) 0 sl st = 0 := by
          unfold brkE
          rw [if_pos (hbb x (by omega))]
          unfold sightOk at hxo
          rw [Bool.and_eq_true] at hxo
          rw [if_pos hxo.1]
        have hR1 : brkR t ((x : Int) * t.mass) 0 sl st ≤ dist := by
          unfold brkR
          rw [if_pos (hbb x (by omega))]
          unfold sightOk at hxo
          rw [Bool.and_eq_true] at hxo
          exact of_decide_eq_true hxo.2
        obtain ⟨r1, hr1⟩ : ∃ r, brkR t ((x : Int) * t.mass) 0 sl st = r := ⟨_, rfl⟩
        rw [hr1] at hR1
        have hwm : ∀ v : Int, 0 ≤ v → v ≤ 25000 → IntKind.i64.wrap (v * t.mass) = v * t.mass := fun v h0 h1 => by
          have a1 := Int.mul_nonneg h0 (show 0 ≤ t.mass by omega)
          have a2 := Int.mul_le_mul h1 hms2 (by omega) (by omega)
          rw [IntKind.wrap_i64]; omega
        have hw1 := hwm (x : Int) (by omega) (by omega)
        obtain ⟨m1, hm1⟩ : ∃ m, (x : Int) * t.mass = m := ⟨_, rfl⟩
        rw [hm1] at hE1 hr1
        replace hw1 := hw1.trans hm1
        rw [hR, hE, hZ] at HSG
        have HB1' := Lib.hid (show ∀ wx, Below W1.heap.size W1 wx → Calls Tryz.prog 25 #[.agg #[.int .i64 t.mass, .int .i64 t.len, .int .i64 t.speed, .int .i64 t.effort, .int .i64 t.brake, .int .i64 t.power, .int .i64 t.resist, .int .i64 t.rise, .int .i64 t.back, .slice A n c], .agg #[.int .i64 m1, .int .i64 0], .int .i64 sl, .int .i64 st] wx fun e w' => e = .returned (.tuple #[.int .i64 r1, .int .i64 0]) ∧ Below wx.heap.size wx w' from fun wx h => by have := HBK.out m1 wx h; rwa [hE1, hr1] at this)
        have q1' : ¬ (x : Int) < 0 := by omega
        have q2' : ¬ t.speed < (x : Int) := by omega
        have q3' : ¬ dist < r1 := by omega
        by_cases hxe : (x : Int) = t.speed
        · have hbe : ((x : Int) == t.speed) = true := by rw [beq_iff_eq]; exact hxe
          clear hE1 hr1 hm1 hwm hbb hxo hxm hR hE hZ hx hxe v3 v4 hR1
          go_wp2_with fail
          (with_reducible refine (HSG.out _ HX3.out).mono ?_)
          rintro e w5 ⟨rfl, hb5⟩
          have HX4 := Lib.hid (HX3.out.trans (hb5.mono HX3.out.size))
          clear hb5
          clear e0 e1 e2 e3 e4 e5 e6 e7 e8 e9
          obtain ⟨r1, _⟩ := HK.out _ HX4.out
          have e0 := r1.cell 0; have e1 := r1.cell 1; have e2 := r1.cell 2; have e3 := r1.cell 3; have e4 := r1.cell 4; have e5 := r1.cell 5; have e6 := r1.cell 6; have e7 := r1.cell 7; have e8 := r1.cell 8; have e9 := r1.cell 9
          clear r1
          go_wp2_with fail
          (with_reducible refine (HB1'.out _ HX4.out).mono ?_)
          rintro e w6 ⟨rfl, hb6⟩
          have HX5 := Lib.hid (HX4.out.trans (hb6.mono HX4.out.size))
          clear hb6
          clear e0 e1 e2 e3 e4 e5 e6 e7 e8 e9
          obtain ⟨r1, _⟩ := HK.out _ HX5.out
          have e0 := r1.cell 0; have e1 := r1.cell 1; have e2 := r1.cell 2; have e3 := r1.cell 3; have e4 := r1.cell 4; have e5 := r1.cell 5; have e6 := r1.cell 6; have e7 := r1.cell 7; have e8 := r1.cell 8; have e9 := r1.cell 9
          clear r1
          go_wp2_with fail
          (with_reducible refine (HKN.out _ HX5.out).mono ?_)
          rintro e w7 ⟨rfl, hb7⟩
          have HX6 := Lib.hid (HX5.out.trans (hb7.mono HX5.out.size))
          clear hb7
          go_wp2
          go_ret
          exact ⟨by rfl, HB1.out.trans (HX6.out.mono HB1.out.size)⟩
        · have hbe : ((x : Int) == t.speed) = false := by rw [beq_eq_false_iff_ne]; exact hxe
          have hno := hxm (x + 1) (by omega) (by omega)
          have hw2 := hwm ((x : Int) + 1) (by omega) (by omega)
          have hb2 := hbb (x + 1) (by omega)
          rw [show (((x + 1 : Nat) : Int)) = (x : Int) + 1 by omega] at hb2
          unfold sightOk at hno
          rw [show (((x + 1 : Nat) : Int)) = (x : Int) + 1 by omega] at hno
          obtain ⟨m2, hm2⟩ : ∃ m, ((x : Int) + 1) * t.mass = m := ⟨_, rfl⟩
          rw [hm2] at hno hb2
          replace hw2 := hw2.trans hm2
          have hwx : IntKind.i64.wrap ((x : Int) + 1) = (x : Int) + 1 := by rw [IntKind.wrap_i64]; omega
          have hbr : brkR t m2 0 sl st = brkV t 0 (brakeW t sl st 36000 m2 0) := by unfold brkR; rw [if_pos hb2]
          have hbe2 : brkE t m2 0 sl st = if (brakeW t sl st 36000 m2 0).isSome then 0 else 4 := by unfold brkE; rw [if_pos hb2]
          obtain ⟨r2, hr2⟩ : ∃ r, brkV t 0 (brakeW t sl st 36000 m2 0) = r := ⟨_, rfl⟩
          rw [hr2] at hno hbr
          cases hs : (brakeW t sl st 36000 m2 0).isSome with
          | false =>
            rw [hs, if_neg (by simp)] at hbe2
            have HB2' := Lib.hid (show ∀ wx, Below W1.heap.size W1 wx → Calls Tryz.prog 25 #[.agg #[.int .i64 t.mass, .int .i64 t.len, .int .i64 t.speed, .int .i64 t.effort, .int .i64 t.brake, .int .i64 t.power, .int .i64 t.resist, .int .i64 t.rise, .int .i64 t.back, .slice A n c], .agg #[.int .i64 m2, .int .i64 0], .int .i64 sl, .int .i64 st] wx fun e w' => e = .returned (.tuple #[.int .i64 r2, .int .i64 4]) ∧ Below wx.heap.size wx w' from fun wx h => by have := HBK.out m2 wx h; rwa [hbr, hbe2] at this)
            clear hE1 hr1 hm1 hwm hbb hxo hxm hR hE hZ hx hxe v3 v4 hR1 hno hb2 hm2 hbr hbe2 hr2 hs
            go_wp2_with fail
            (with_reducible refine (HSG.out _ HX3.out).mono ?_)
            rintro e w5 ⟨rfl, hb5⟩
            have HX4 := Lib.hid (HX3.out.trans (hb5.mono HX3.out.size))
            clear hb5
            clear e0 e1 e2 e3 e4 e5 e6 e7 e8 e9
            obtain ⟨r1, _⟩ := HK.out _ HX4.out
            have e0 := r1.cell 0; have e1 := r1.cell 1; have e2 := r1.cell 2; have e3 := r1.cell 3; have e4 := r1.cell 4; have e5 := r1.cell 5; have e6 := r1.cell 6; have e7 := r1.cell 7; have e8 := r1.cell 8; have e9 := r1.cell 9
            clear r1
            go_wp2_with fail
            (with_reducible refine (HB1'.out _ HX4.out).mono ?_)
            rintro e w6 ⟨rfl, hb6⟩
            have HX5 := Lib.hid (HX4.out.trans (hb6.mono HX4.out.size))
            clear hb6
            clear e0 e1 e2 e3 e4 e5 e6 e7 e8 e9
            obtain ⟨r1, _⟩ := HK.out _ HX5.out
            have e0 := r1.cell 0; have e1 := r1.cell 1; have e2 := r1.cell 2; have e3 := r1.cell 3; have e4 := r1.cell 4; have e5 := r1.cell 5; have e6 := r1.cell 6; have e7 := r1.cell 7; have e8 := r1.cell 8; have e9 := r1.cell 9
            clear r1
            go_wp2_with fail
            (with_reducible refine (HB2'.out _ HX5.out).mono ?_)
            rintro e w7 ⟨rfl, hb7⟩
            have HX6 := Lib.hid (HX5.out.trans (hb7.mono HX5.out.size))
            clear hb7
            clear e0 e1 e2 e3 e4 e5 e6 e7 e8 e9
            obtain ⟨r1, _⟩ := HK.out _ HX6.out
            have e0 := r1.cell 0; have e1 := r1.cell 1; have e2 := r1.cell 2; have e3 := r1.cell 3; have e4 := r1.cell 4; have e5 := r1.cell 5; have e6 := r1.cell 6; have e7 := r1.cell 7; have e8 := r1.cell 8; have e9 := r1.cell 9
            clear r1
            go_wp2_with fail
            (with_reducible refine (HKN.out _ HX6.out).mono ?_)
            rintro e w8 ⟨rfl, hb8⟩
            have HX7 := Lib.hid (HX6.out.trans (hb8.mono HX6.out.size))
            clear hb8
            go_wp2
            go_ret
            exact ⟨by rfl, HB1.out.trans (HX7.out.mono HB1.out.size)⟩
          | true =>
            rw [hs, if_pos rfl] at hbe2
            rw [hs, Bool.true_and] at hno
            have q4' : dist < r2 := by have := of_decide_eq_false hno; omega
            have HB2' := Lib.hid (show ∀ wx, Below W1.heap.size W1 wx → Calls Tryz.prog 25 #[.agg #[.int .i64 t.mass, .int .i64 t.len, .int .i64 t.speed, .int .i64 t.effort, .int .i64 t.brake, .int .i64 t.power, .int .i64 t.resist, .int .i64 t.rise, .int .i64 t.back, .slice A n c], .agg #[.int .i64 m2, .int .i64 0], .int .i64 sl, .int .i64 st] wx fun e w' => e = .returned (.tuple #[.int .i64 r2, .int .i64 0]) ∧ Below wx.heap.size wx w' from fun wx h => by have := HBK.out m2 wx h; rwa [hbr, hbe2] at this)
            clear hE1 hr1 hm1 hwm hbb hxo hxm hR hE hZ hx hxe v3 v4 hR1 hno hb2 hm2 hbr hbe2 hr2 hs
            go_wp2_with fail
            (with_reducible refine (HSG.out _ HX3.out).mono ?_)
            rintro e w5 ⟨rfl, hb5⟩
            have HX4 := Lib.hid (HX3.out.trans (hb5.mono HX3.out.size))
            clear hb5
            clear e0 e1 e2 e3 e4 e5 e6 e7 e8 e9
            obtain ⟨r1, _⟩ := HK.out _ HX4.out
            have e0 := r1.cell 0; have e1 := r1.cell 1; have e2 := r1.cell 2; have e3 := r1.cell 3; have e4 := r1.cell 4; have e5 := r1.cell 5; have e6 := r1.cell 6; have e7 := r1.cell 7; have e8 := r1.cell 8; have e9 := r1.cell 9
            clear r1
            go_wp2_with fail
            (with_reducible refine (HB1'.out _ HX4.out).mono ?_)
            rintro e w6 ⟨rfl, hb6⟩
            have HX5 := Lib.hid (HX4.out.trans (hb6.mono HX4.out.size))
            clear hb6
            clear e0 e1 e2 e3 e4 e5 e6 e7 e8 e9
            obtain ⟨r1, _⟩ := HK.out _ HX5.out
            have e0 := r1.cell 0; have e1 := r1.cell 1; have e2 := r1.cell 2; have e3 := r1.cell 3; have e4 := r1.cell 4; have e5 := r1.cell 5; have e6 := r1.cell 6; have e7 := r1.cell 7; have e8 := r1.cell 8; have e9 := r1.cell 9
            clear r1
            go_wp2_with fail
            (with_reducible refine (HB2'.out _ HX5.out).mono ?_)
            rintro e w7 ⟨rfl, hb7⟩
            have HX6 := Lib.hid (HX5.out.trans (hb7.mono HX5.out.size))
            clear hb7
            clear e0 e1 e2 e3 e4 e5 e6 e7 e8 e9
            obtain ⟨r1, _⟩ := HK.out _ HX6.out
            have e0 := r1.cell 0; have e1 := r1.cell 1; have e2 := r1.cell 2; have e3 := r1.cell 3; have e4 := r1.cell 4; have e5 := r1.cell 5; have e6 := r1.cell 6; have e7 := r1.cell 7; have e8 := r1.cell 8; have e9 := r1.cell 9
            clear r1
            go_wp2_with fail
            (with_reducible refine (HKN.out _ HX6.out).mono ?_)
            rintro e w8 ⟨rfl, hb8⟩
            have HX7 := Lib.hid (HX6.out.trans (hb8.mono HX6.out.size))
            clear hb8
            go_wp2
            go_ret
            exact ⟨by rfl, HB1.out.trans (HX7.out.mono HB1.out.size)⟩
end Go.Proofs.YtfhkbbjddjddmaaGreat
