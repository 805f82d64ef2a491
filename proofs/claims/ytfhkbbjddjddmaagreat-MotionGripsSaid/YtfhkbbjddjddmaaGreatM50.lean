/- Law: MotionGrips. -/
import Derived.Test.YtfhkbbjddjddmaaGreatM48
namespace Go.Proofs.YtfhkbbjddjddmaaGreat
set_option linter.unusedVariables false
set_option linter.unusedSimpArgs false
open Go.RowKit

set_option maxRecDepth 100000 in
set_option maxHeartbeats 4000000 in
theorem MotionGrips_k0 (A : Option Addr) (c n : Nat) (t : Tr) (m less sl more add : Int) (w : World) (h0 : ¬ n = 1) :
    Calls Tryz.prog 10 #[.agg #[.int .i64 t.mass, .int .i64 t.len, .int .i64 t.speed, .int .i64 t.effort, .int .i64 t.brake, .int .i64 t.power, .int .i64 t.resist, .int .i64 t.rise, .int .i64 t.back, .slice A n c], .int .i64 m, .int .i64 less, .int .i64 sl, .int .i64 more, .int .i64 add] w fun e w' => e = .returned (.bool true) ∧ Below w.heap.size w w' := by
  have hb1 := (Below.refl w.heap.size w).alloc (Nat.le_refl _) (.cells #[.int .i64 t.mass, .int .i64 t.len, .int .i64 t.speed, .int .i64 t.effort, .int .i64 t.brake, .int .i64 t.power, .int .i64 t.resist, .int .i64 t.rise, .int .i64 t.back, .slice A n c] 24)
  have q1 := Rw.new w #[.int .i64 t.mass, .int .i64 t.len, .int .i64 t.speed, .int .i64 t.effort, .int .i64 t.brake, .int .i64 t.power, .int .i64 t.resist, .int .i64 t.rise, .int .i64 t.back, .slice A n c] 24
  obtain ⟨W1, hW1⟩ : ∃ z, w.alloc (.cells #[.int .i64 t.mass, .int .i64 t.len, .int .i64 t.speed, .int .i64 t.effort, .int .i64 t.brake, .int .i64 t.power, .int .i64 t.resist, .int .i64 t.rise, .int .i64 t.back, .slice A n c] 24) = z := ⟨_, rfl⟩
  rw [hW1] at hb1 q1
  have HB1 := Lib.hid hb1
  have e0 := q1.cell 0; have e1 := q1.cell 1; have e2 := q1.cell 2; have e3 := q1.cell 3; have e4 := q1.cell 4; have e5 := q1.cell 5; have e6 := q1.cell 6; have e7 := q1.cell 7; have e8 := q1.cell 8; have e9 := q1.cell 9
  have HKN := Lib.hid (known_any W1)
  clear hb1 q1
  go_enter Tryz.func10, Tryz.ntmps10
  go_wp2_with fail
  (with_reducible refine HKN.out.mono ?_)
  rintro e w2 ⟨rfl, hb2⟩
  have HB2 := Lib.hid (HB1.out.trans (hb2.mono HB1.out.size))
  clear hb2
  go_wp2
  go_ret
  exact ⟨by rfl, HB2.out⟩
set_option maxRecDepth 100000 in
set_option maxHeartbeats 4000000 in
theorem MotionGrips_k1 (A : Option Addr) (c : Nat) (t : Tr) (m less sl more add : Int) (w : World) (h1 : less < 0) :
    Calls Tryz.prog 10 #[.agg #[.int .i64 t.mass, .int .i64 t.len, .int .i64 t.speed, .int .i64 t.effort, .int .i64 t.brake, .int .i64 t.power, .int .i64 t.resist, .int .i64 t.rise, .int .i64 t.back, .slice A 1 c], .int .i64 m, .int .i64 less, .int .i64 sl, .int .i64 more, .int .i64 add] w fun e w' => e = .returned (.bool true) ∧ Below w.heap.size w w' := by
  have hb1 := (Below.refl w.heap.size w).alloc (Nat.le_refl _) (.cells #[.int .i64 t.mass, .int .i64 t.len, .int .i64 t.speed, .int .i64 t.effort, .int .i64 t.brake, .int .i64 t.power, .int .i64 t.resist, .int .i64 t.rise, .int .i64 t.back, .slice A 1 c] 24)
  have q1 := Rw.new w #[.int .i64 t.mass, .int .i64 t.len, .int .i64 t.speed, .int .i64 t.effort, .int .i64 t.brake, .int .i64 t.power, .int .i64 t.resist, .int .i64 t.rise, .int .i64 t.back, .slice A 1 c] 24
  obtain ⟨W1, hW1⟩ : ∃ z, w.alloc (.cells #[.int .i64 t.mass, .int .i64 t.len, .int .i64 t.speed, .int .i64 t.effort, .int .i64 t.brake, .int .i64 t.power, .int .i64 t.resist, .int .i64 t.rise, .int .i64 t.back, .slice A 1 c] 24) = z := ⟨_, rfl⟩
  rw [hW1] at hb1 q1
  have HB1 := Lib.hid hb1
  have e0 := q1.cell 0; have e1 := q1.cell 1; have e2 := q1.cell 2; have e3 := q1.cell 3; have e4 := q1.cell 4; have e5 := q1.cell 5; have e6 := q1.cell 6; have e7 := q1.cell 7; have e8 := q1.cell 8; have e9 := q1.cell 9
  have HKN := Lib.hid (known_any W1)
  clear hb1 q1
  go_enter Tryz.func10, Tryz.ntmps10
  go_wp2_with fail
  (with_reducible refine HKN.out.mono ?_)
  rintro e w2 ⟨rfl, hb2⟩
  have HB2 := Lib.hid (HB1.out.trans (hb2.mono HB1.out.size))
  clear hb2
  go_wp2
  go_ret
  exact ⟨by rfl, HB2.out⟩
set_option maxRecDepth 100000 in
set_option maxHeartbeats 4000000 in
theorem MotionGrips_k2 (A : Option Addr) (c : Nat) (t : Tr) (m less sl more add : Int) (w : World) (h1 : ¬ less < 0) (h2 : more < 0) :
    Calls Tryz.prog 10 #[.agg #[.int .i64 t.mass, .int .i64 t.len, .int .i64 t.speed, .int .i64 t.effort, .int .i64 t.brake, .int .i64 t.power, .int .i64 t.resist, .int .i64 t.rise, .int .i64 t.back, .slice A 1 c], .int .i64 m, .int .i64 less, .int .i64 sl, .int .i64 more, .int .i64 add] w fun e w' => e = .returned (.bool true) ∧ Below w.heap.size w w' := by
  have hb1 := (Below.refl w.heap.size w).alloc (Nat.le_refl _) (.cells #[.int .i64 t.mass, .int .i64 t.len, .int .i64 t.speed, .int .i64 t.effort, .int .i64 t.brake, .int .i64 t.power, .int .i64 t.resist, .int .i64 t.rise, .int .i64 t.back, .slice A 1 c] 24)
  have q1 := Rw.new w #[.int .i64 t.mass, .int .i64 t.len, .int .i64 t.speed, .int .i64 t.effort, .int .i64 t.brake, .int .i64 t.power, .int .i64 t.resist, .int .i64 t.rise, .int .i64 t.back, .slice A 1 c] 24
  obtain ⟨W1, hW1⟩ : ∃ z, w.alloc (.cells #[.int .i64 t.mass, .int .i64 t.len, .int .i64 t.speed, .int .i64 t.effort, .int .i64 t.brake, .int .i64 t.power, .int .i64 t.resist, .int .i64 t.rise, .int .i64 t.back, .slice A 1 c] 24) = z := ⟨_, rfl⟩
  rw [hW1] at hb1 q1
  have HB1 := Lib.hid hb1
  have e0 := q1.cell 0; have e1 := q1.cell 1; have e2 := q1.cell 2; have e3 := q1.cell 3; have e4 := q1.cell 4; have e5 := q1.cell 5; have e6 := q1.cell 6; have e7 := q1.cell 7; have e8 := q1.cell 8; have e9 := q1.cell 9
  have HKN := Lib.hid (known_any W1)
  clear hb1 q1
  go_enter Tryz.func10, Tryz.ntmps10
  go_wp2_with fail
  (with_reducible refine HKN.out.mono ?_)
  rintro e w2 ⟨rfl, hb2⟩
  have HB2 := Lib.hid (HB1.out.trans (hb2.mono HB1.out.size))
  clear hb2
  go_wp2
  go_ret
  exact ⟨by rfl, HB2.out⟩
set_option maxRecDepth 100000 in
set_option maxHeartbeats 4000000 in
theorem MotionGrips_k3 (A : Option Addr) (c : Nat) (t : Tr) (m less sl more add : Int) (w : World) (h1 : ¬ less < 0) (h2 : ¬ more < 0) (h3 : add < 0) :
    Calls Tryz.prog 10 #[.agg #[.int .i64 t.mass, .int .i64 t.len, .int .i64 t.speed, .int .i64 t.effort, .int .i64 t.brake, .int .i64 t.power, .int .i64 t.resist, .int .i64 t.rise, .int .i64 t.back, .slice A 1 c], .int .i64 m, .int .i64 less, .int .i64 sl, .int .i64 more, .int .i64 add] w fun e w' => e = .returned (.bool true) ∧ Below w.heap.size w w' := by
  have hb1 := (Below.refl w.heap.size w).alloc (Nat.le_refl _) (.cells #[.int .i64 t.mass, .int .i64 t.len, .int .i64 t.speed, .int .i64 t.effort, .int .i64 t.brake, .int .i64 t.power, .int .i64 t.resist, .int .i64 t.rise, .int .i64 t.back, .slice A 1 c] 24)
  have q1 := Rw.new w #[.int .i64 t.mass, .int .i64 t.len, .int .i64 t.speed, .int .i64 t.effort, .int .i64 t.brake, .int .i64 t.power, .int .i64 t.resist, .int .i64 t.rise, .int .i64 t.back, .slice A 1 c] 24
  obtain ⟨W1, hW1⟩ : ∃ z, w.alloc (.cells #[.int .i64 t.mass, .int .i64 t.len, .int .i64 t.speed, .int .i64 t.effort, .int .i64 t.brake, .int .i64 t.power, .int .i64 t.resist, .int .i64 t.rise, .int .i64 t.back, .slice A 1 c] 24) = z := ⟨_, rfl⟩
  rw [hW1] at hb1 q1
  have HB1 := Lib.hid hb1
  have e0 := q1.cell 0; have e1 := q1.cell 1; have e2 := q1.cell 2; have e3 := q1.cell 3; have e4 := q1.cell 4; have e5 := q1.cell 5; have e6 := q1.cell 6; have e7 := q1.cell 7; have e8 := q1.cell 8; have e9 := q1.cell 9
  have HKN := Lib.hid (known_any W1)
  clear hb1 q1
  go_enter Tryz.func10, Tryz.ntmps10
  go_wp2_with fail
  (with_reducible refine HKN.out.mono ?_)
  rintro e w2 ⟨rfl, hb2⟩
  have HB2 := Lib.hid (HB1.out.trans (hb2.mono HB1.out.size))
  clear hb2
  go_wp2
  go_ret
  exact ⟨by rfl, HB2.out⟩
set_option maxRecDepth 100000 in
set_option maxHeartbeats 4000000 in
theorem MotionGrips_k4 (A : Option Addr) (c : Nat) (t : Tr) (m less sl more add : Int) (w : World) (h1 : ¬ less < 0) (h2 : ¬ more < 0) (h3 : ¬ add < 0) (h4 : 1000 < add) :
    Calls Tryz.prog 10 #[.agg #[.int .i64 t.mass, .int .i64 t.len, .int .i64 t.speed, .int .i64 t.effort, .int .i64 t.brake, .int .i64 t.power, .int .i64 t.resist, .int .i64 t.rise, .int .i64 t.back, .slice A 1 c], .int .i64 m, .int .i64 less, .int .i64 sl, .int .i64 more, .int .i64 add] w fun e w' => e = .returned (.bool true) ∧ Below w.heap.size w w' := by
  have hb1 := (Below.refl w.heap.size w).alloc (Nat.le_refl _) (.cells #[.int .i64 t.mass, .int .i64 t.len, .int .i64 t.speed, .int .i64 t.effort, .int .i64 t.brake, .int .i64 t.power, .int .i64 t.resist, .int .i64 t.rise, .int .i64 t.back, .slice A 1 c] 24)
  have q1 := Rw.new w #[.int .i64 t.mass, .int .i64 t.len, .int .i64 t.speed, .int .i64 t.effort, .int .i64 t.brake, .int .i64 t.power, .int .i64 t.resist, .int .i64 t.rise, .int .i64 t.back, .slice A 1 c] 24
  obtain ⟨W1, hW1⟩ : ∃ z, w.alloc (.cells #[.int .i64 t.mass, .int .i64 t.len, .int .i64 t.speed, .int .i64 t.effort, .int .i64 t.brake, .int .i64 t.power, .int .i64 t.resist, .int .i64 t.rise, .int .i64 t.back, .slice A 1 c] 24) = z := ⟨_, rfl⟩
  rw [hW1] at hb1 q1
  have HB1 := Lib.hid hb1
  have e0 := q1.cell 0; have e1 := q1.cell 1; have e2 := q1.cell 2; have e3 := q1.cell 3; have e4 := q1.cell 4; have e5 := q1.cell 5; have e6 := q1.cell 6; have e7 := q1.cell 7; have e8 := q1.cell 8; have e9 := q1.cell 9
  have HKN := Lib.hid (known_any W1)
  clear hb1 q1
  go_enter Tryz.func10, Tryz.ntmps10
  go_wp2_with fail
  (with_reducible refine HKN.out.mono ?_)
  rintro e w2 ⟨rfl, hb2⟩
  have HB2 := Lib.hid (HB1.out.trans (hb2.mono HB1.out.size))
  clear hb2
  go_wp2
  go_ret
  exact ⟨by rfl, HB2.out⟩
set_option maxRecDepth 100000 in
set_option maxHeartbeats 4000000 in
theorem MotionGrips_k5 (A : Option Addr) (c : Nat) (t : Tr) (m less sl more add : Int) (w : World) (h1 : ¬ less < 0) (h2 : ¬ more < 0) (h3 : ¬ add < 0) (h4 : ¬ 1000 < add) (h5 : ¬ t.rise = 0) :
    Calls Tryz.prog 10 #[.agg #[.int .i64 t.mass, .int .i64 t.len, .int .i64 t.speed, .int .i64 t.effort, .int .i64 t.brake, .int .i64 t.power, .int .i64 t.resist, .int .i64 t.rise, .int .i64 t.back, .slice A 1 c], .int .i64 m, .int .i64 less, .int .i64 sl, .int .i64 more, .int .i64 add] w fun e w' => e = .returned (.bool true) ∧ Below w.heap.size w w' := by
  have hb1 := (Below.refl w.heap.size w).alloc (Nat.le_refl _) (.cells #[.int .i64 t.mass, .int .i64 t.len, .int .i64 t.speed, .int .i64 t.effort, .int .i64 t.brake, .int .i64 t.power, .int .i64 t.resist, .int .i64 t.rise, .int .i64 t.back, .slice A 1 c] 24)
  have q1 := Rw.new w #[.int .i64 t.mass, .int .i64 t.len, .int .i64 t.speed, .int .i64 t.effort, .int .i64 t.brake, .int .i64 t.power, .int .i64 t.resist, .int .i64 t.rise, .int .i64 t.back, .slice A 1 c] 24
  obtain ⟨W1, hW1⟩ : ∃ z, w.alloc (.cells #[.int .i64 t.mass, .int .i64 t.len, .int .i64 t.speed, .int .i64 t.effort, .int .i64 t.brake, .int .i64 t.power, .int .i64 t.resist, .int .i64 t.rise, .int .i64 t.back, .slice A 1 c] 24) = z := ⟨_, rfl⟩
  rw [hW1] at hb1 q1
  have HB1 := Lib.hid hb1
  have e0 := q1.cell 0; have e1 := q1.cell 1; have e2 := q1.cell 2; have e3 := q1.cell 3; have e4 := q1.cell 4; have e5 := q1.cell 5; have e6 := q1.cell 6; have e7 := q1.cell 7; have e8 := q1.cell 8; have e9 := q1.cell 9
  have HKN := Lib.hid (known_any W1)
  clear hb1 q1
  go_enter Tryz.func10, Tryz.ntmps10
  go_wp2_with fail
  (with_reducible refine HKN.out.mono ?_)
  rintro e w2 ⟨rfl, hb2⟩
  have HB2 := Lib.hid (HB1.out.trans (hb2.mono HB1.out.size))
  clear hb2
  go_wp2
  go_ret
  exact ⟨by rfl, HB2.out⟩
set_option maxRecDepth 100000 in
set_option maxHeartbeats 4000000 in
theorem MotionGrips_k6 (A : Option Addr) (c : Nat) (t : Tr) (m less sl more add : Int) (w : World) (h1 : ¬ less < 0) (h2 : ¬ more < 0) (h3 : ¬ add < 0) (h4 : ¬ 1000 < add) (hr : t.rise = 0) (h6 : 240 < more) :
    Calls Tryz.prog 10 #[.agg #[.int .i64 t.mass, .int .i64 t.len, .int .i64 t.speed, .int .i64 t.effort, .int .i64 t.brake, .int .i64 t.power, .int .i64 t.resist, .int .i64 t.rise, .int .i64 t.back, .slice A 1 c], .int .i64 m, .int .i64 less, .int .i64 sl, .int .i64 more, .int .i64 add] w fun e w' => e = .returned (.bool true) ∧ Below w.heap.size w w' := by
  rw [hr]
  clear hr
  have hb1 := (Below.refl w.heap.size w).alloc (Nat.le_refl _) (.cells #[.int .i64 t.mass, .int .i64 t.len, .int .i64 t.speed, .int .i64 t.effort, .int .i64 t.brake, .int .i64 t.power, .int .i64 t.resist, .int .i64 0, .int .i64 t.back, .slice A 1 c] 24)
  have q1 := Rw.new w #[.int .i64 t.mass, .int .i64 t.len, .int .i64 t.speed, .int .i64 t.effort, .int .i64 t.brake, .int .i64 t.power, .int .i64 t.resist, .int .i64 0, .int .i64 t.back, .slice A 1 c] 24
  obtain ⟨W1, hW1⟩ : ∃ z, w.alloc (.cells #[.int .i64 t.mass, .int .i64 t.len, .int .i64 t.speed, .int .i64 t.effort, .int .i64 t.brake, .int .i64 t.power, .int .i64 t.resist, .int .i64 0, .int .i64 t.back, .slice A 1 c] 24) = z := ⟨_, rfl⟩
  rw [hW1] at hb1 q1
  have HB1 := Lib.hid hb1
  have e0 := q1.cell 0; have e1 := q1.cell 1; have e2 := q1.cell 2; have e3 := q1.cell 3; have e4 := q1.cell 4; have e5 := q1.cell 5; have e6 := q1.cell 6; have e7 := q1.cell 7; have e8 := q1.cell 8; have e9 := q1.cell 9
  have HKN := Lib.hid (known_any W1)
  clear hb1 q1
  go_enter Tryz.func10, Tryz.ntmps10
  go_wp2_with fail
  (with_reducible refine HKN.out.mono ?_)
  rintro e w2 ⟨rfl, hb2⟩
  have HB2 := Lib.hid (HB1.out.trans (hb2.mono HB1.out.size))
  clear hb2
  go_wp2
  go_ret
  exact ⟨by rfl, HB2.out⟩
theorem MotionGrips_any (A : Option Addr) (c n : Nat) (t : Tr) (m less sl more add : Int) (w : World) (hn : t.grip.length = n) (hS : Sl w w.heap.size 1 CI A t.grip) (hl : less ≤ 9223372036854775807) :
    Calls Tryz.prog 10 #[.agg #[.int .i64 t.mass, .int .i64 t.len, .int .i64 t.speed, .int .i64 t.effort, .int .i64 t.brake, .int .i64 t.power, .int .i64 t.resist, .int .i64 t.rise, .int .i64 t.back, .slice A n c], .int .i64 m, .int .i64 less, .int .i64 sl, .int .i64 more, .int .i64 add] w fun e w' => e = .returned (.bool true) ∧ Below w.heap.size w w' := by
  by_cases h0 : n = 1
  · subst h0
    by_cases h1 : less < 0
    · exact MotionGrips_k1 A c t m less sl more add w h1
    by_cases h2 : more < 0
    · exact MotionGrips_k2 A c t m less sl more add w h1 h2
    by_cases h3 : add < 0
    · exact MotionGrips_k3 A c t m less sl more add w h1 h2 h3
    by_cases h4 : 1000 < add
    · exact MotionGrips_k4 A c t m less sl more add w h1 h2 h3 h4
    by_cases h5 : t.rise = 0
    · by_cases h6 : 240 < more
      · exact MotionGrips_k6 A c t m less sl more add w h1 h2 h3 h4 h5 h6
      · match hg : t.grip, hn with
        | [g], _ => exact MotionGrips_m A c t m less sl more add g w hg hS (by omega) hl (by omega) (by omega) (by omega) (by omega) h5
    · exact MotionGrips_k5 A c t m less sl more add w h1 h2 h3 h4 h5
  · exact MotionGrips_k0 A c n t m less sl more add w h0
end Go.Proofs.YtfhkbbjddjddmaaGreat
