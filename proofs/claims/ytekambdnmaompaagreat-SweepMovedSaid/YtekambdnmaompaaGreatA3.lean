/- Contracts: Root, Far, Distance, spot, spotRight. -/
import Derived.Test.YtekambdnmaompaaGreatA2
namespace Go.Proofs.YtekambdnmaompaaGreat
set_option linter.unusedVariables false
set_option linter.unusedSimpArgs false
open Go.RowKit

set_option maxHeartbeats 1000000 in
theorem Root_any (n : Nat) (w : World) (hn : n < 900000000000000) :
    Calls Tryz.prog 80 #[.int .i64 n] w fun e w' => e = .returned (.int .i64 (isq n : Nat)) ∧ w = w' := by
  go_enter Tryz.func80, Tryz.ntmps80
  go_wp2
  go_loop [3, 4] (fun l h => ∃ l' h' : Nat, l = .int .i64 l' ∧ h = .int .i64 h' ∧ h' ≤ 30000000 ∧ l' < h' ∧ l' * l' ≤ n ∧ n < h' * h') (fun l h => (intOf h).toNat - (intOf l).toNat)
  case atStart => exact ⟨0, 30000000, rfl, rfl, by omega, by omega, by omega, by omega⟩
  case round =>
    obtain ⟨l, h, rfl, rfl, hh, hlt, h1, h2⟩ := hrel
    have H1 := Lib.hid h1; have H2 := Lib.hid h2; clear h1 h2
    by_cases hg : 1 < h - l
    · have hx0 : (0 : Int) ≤ (((l : Int) + (h : Int)) / 2) * (((l : Int) + (h : Int)) / 2) := Int.mul_nonneg (by omega) (by omega)
      have hx1 : (((l : Int) + (h : Int)) / 2) * (((l : Int) + (h : Int)) / 2) ≤ 30000000 * 30000000 := Int.mul_le_mul (by omega) (by omega) (by omega) (by omega)
      have hm : (((l : Int) + (h : Int)) / 2) * (((l : Int) + (h : Int)) / 2) = ((((l + h) / 2) * ((l + h) / 2) : Nat) : Int) := by simp
      have HM := Lib.hid hm; clear hm
      go_wp2
      · have hle : (((l : Int) + (h : Int)) / 2) * (((l : Int) + (h : Int)) / 2) ≤ n := by assumption
        go_round
        case rel => exact ⟨(l + h) / 2, h, by go_num, rfl, hh, by omega, by have := HM.out; omega, H2.out⟩
        case measure => simp [intOf]; omega
      · have hle : (n : Int) < (((l : Int) + (h : Int)) / 2) * (((l : Int) + (h : Int)) / 2) := by assumption
        go_round
        case rel => exact ⟨l, (l + h) / 2, rfl, by go_num, by omega, by omega, H1.out, by have := HM.out; omega⟩
        case measure => simp [intOf]; omega
    · obtain rfl : h = l + 1 := by omega
      go_wp2
      go_ret
      exact ⟨ret_int (by rw [isq_of (by omega) H1.out H2.out]), rfl⟩

def inR (s : S) : Prop := -10000000 ≤ s.x ∧ s.x ≤ 10000000 ∧ -10000000 ≤ s.y ∧ s.y ≤ 10000000
theorem spotB_iff (s : S) : spotB s = true ↔ inR s := by simp [spotB, inR, and_assoc]
theorem sq_nn (x : Int) : 0 ≤ x * x := by
  rcases Int.le_total 0 x with h | h
  · exact Int.mul_nonneg h h
  · have h3 := Int.mul_nonneg (show 0 ≤ -x by omega) (show 0 ≤ -x by omega)
    rwa [Int.neg_mul_neg] at h3
theorem sqd_cast (a b : S) : ((sqd a b : Nat) : Int) = (a.x - b.x) * (a.x - b.x) + (a.y - b.y) * (a.y - b.y) := by
  unfold sqd
  have h1 := sq_nn (a.x - b.x)
  have h2 := sq_nn (a.y - b.y)
  omega
theorem mul_sub_comm (x y : Int) : (y - x) * (y - x) = (x - y) * (x - y) := by
  have : y - x = -(x - y) := by omega
  rw [this, Int.neg_mul_neg]
theorem sqd_comm (a b : S) : sqd a b = sqd b a := by unfold sqd; rw [mul_sub_comm a.x b.x, mul_sub_comm a.y b.y]
theorem sqd_lt {a b : S} (ha : inR a) (hb : inR b) : sqd a b ≤ 800000000000000 := by
  have h1 := sq_bound (a.x - b.x) 20000000 (by have := ha.1; have := hb.2.1; omega) (by have := ha.2.1; have := hb.1; omega)
  have h2 := sq_bound (a.y - b.y) 20000000 (by have := ha.2.2.1; have := hb.2.2.2; omega) (by have := ha.2.2.2; have := hb.2.2.1; omega)
  have := sqd_cast a b
  omega
set_option maxHeartbeats 1000000 in
theorem Far_any (a b : S) (w : World) (ha : inR a) (hb : inR b) :
    Calls Tryz.prog 56 #[.agg #[.int .i64 a.x, .int .i64 a.y], .agg #[.int .i64 b.x, .int .i64 b.y]] w fun e w' => e = .returned (.int .i64 (far a b : Nat)) ∧ Below w.heap.size w w' := by
  obtain ⟨a1, a2, a3, a4⟩ := id ha
  obtain ⟨b1, b2, b3, b4⟩ := id hb
  have h1 := sq_bound (a.x - b.x) 20000000 (by omega) (by omega)
  have h2 := sq_bound (a.y - b.y) 20000000 (by omega) (by omega)
  have hc := Lib.hid (sqd_cast a b)
  have hl := sqd_lt ha hb
  go_enter Tryz.func56, Tryz.ntmps56
  go_wp2
  go_quiet (fail)
  go_wp2_with fail
  rw [← hc.out]
  refine (Root_any _ _ (by omega)).mono ?_
  rintro e w1 ⟨rfl, rfl⟩
  go_wp2
  go_ret
  exact ⟨rfl, bDrewN (((Below.refl _ _).alloc (Nat.le_refl _) _).alloc (by simp) _) _⟩

set_option maxHeartbeats 1000000 in
theorem Distance_yes (a b : S) (w : World) (ha : inR a) (hb : inR b) (h1 : 1 ≤ sqd a b) (h2 : sqd a b < 1000002000001) :
    Calls Tryz.prog 99 #[.agg #[.int .i64 a.x, .int .i64 a.y], .agg #[.int .i64 b.x, .int .i64 b.y]] w fun e w' => e = .returned (.tuple #[.int .i64 (far a b : Nat), .bool true]) ∧ Below w.heap.size w w' := by
  obtain ⟨a1, a2, a3, a4⟩ := id ha
  obtain ⟨b1, b2, b3, b4⟩ := id hb
  have q1 := sq_bound (b.x - a.x) 20000000 (by omega) (by omega)
  have q2 := sq_bound (b.y - a.y) 20000000 (by omega) (by omega)
  have hs := sqd_cast b a
  rw [sqd_comm b a] at hs
  have h3 : ((b.x - a.x) * (b.x - a.x) + (b.y - a.y) * (b.y - a.y) == 0) = false := by rw [← hs]; simp; omega
  have h4 : decide (1000002000001 ≤ (b.x - a.x) * (b.x - a.x) + (b.y - a.y) * (b.y - a.y)) = false := by rw [← hs]; simp; omega
  have hc := Lib.hid hs; clear hs
  go_enter Tryz.func99, Tryz.ntmps99
  go_wp2
  go_quiet (fail)
  go_wp2_with fail
  rw [← hc.out]
  refine (root_any _ _ (by omega)).mono ?_
  rintro e w1 ⟨rfl, rfl⟩
  go_wp2
  go_ret2
  exact ⟨rfl, bDrewN (((Below.refl _ _).alloc (Nat.le_refl _) _).alloc (by simp) _) _⟩
set_option maxHeartbeats 1000000 in
theorem Distance_no (a b : S) (w : World) (ha : inR a) (hb : inR b) (h1 : sqd a b = 0 ∨ 1000002000001 ≤ sqd a b) :
    Calls Tryz.prog 99 #[.agg #[.int .i64 a.x, .int .i64 a.y], .agg #[.int .i64 b.x, .int .i64 b.y]] w fun e w' => e = .returned (.tuple #[.int .i64 0, .bool false]) ∧ Below w.heap.size w w' := by
  obtain ⟨a1, a2, a3, a4⟩ := id ha
  obtain ⟨b1, b2, b3, b4⟩ := id hb
  have q1 := sq_bound (b.x - a.x) 20000000 (by omega) (by omega)
  have q2 := sq_bound (b.y - a.y) 20000000 (by omega) (by omega)
  have hs := sqd_cast b a
  rw [sqd_comm b a] at hs
  rcases h1 with h1 | h1
  · have h3 : ((b.x - a.x) * (b.x - a.x) + (b.y - a.y) * (b.y - a.y) == 0) = true := by rw [← hs]; simp; omega
    clear hs
    go_enter Tryz.func99, Tryz.ntmps99
    go_wp2
    go_quiet (fail)
    go_wp2
    go_ret2
    exact ⟨rfl, bDrewN (((Below.refl _ _).alloc (Nat.le_refl _) _).alloc (by simp) _) _⟩
  · have h3 : ((b.x - a.x) * (b.x - a.x) + (b.y - a.y) * (b.y - a.y) == 0) = false := by rw [← hs]; simp; omega
    have h4 : decide (1000002000001 ≤ (b.x - a.x) * (b.x - a.x) + (b.y - a.y) * (b.y - a.y)) = true := by rw [← hs]; simp; omega
    clear hs
    go_enter Tryz.func99, Tryz.ntmps99
    go_wp2
    go_quiet (fail)
    go_wp2
    go_ret2
    exact ⟨rfl, bDrewN (((Below.refl _ _).alloc (Nat.le_refl _) _).alloc (by simp) _) _⟩

set_option maxHeartbeats 1000000 in
theorem spot_any (s : S) (w : World) :
    Calls Tryz.prog 53 #[.agg #[.int .i64 s.x, .int .i64 s.y]] w fun e w' => e = .returned (.bool (spotB s)) ∧ Below w.heap.size w w' := by
  have HS := Lib.hid (show spotB s = (inB s.x (-10000000) 10000000 && inB s.y (-10000000) 10000000) by simp [spotB, inB, Bool.and_assoc])
  by_cases h : inB s.x (-10000000) 10000000 = true
  · go_enter Tryz.func53, Tryz.ntmps53
    go_wp2_with fail
    refine (in_any _ _ _ _).mono ?_
    rintro e w1 ⟨rfl, rfl⟩
    go_wp2_with fail
    refine (in_any _ _ _ _).mono ?_
    rintro e w1 ⟨rfl, rfl⟩
    go_wp2
    go_ret
    exact ⟨by rw [HS.out, h]; rfl, (Below.refl _ _).alloc (Nat.le_refl _) _⟩
  · have h' : inB s.x (-10000000) 10000000 = false := by simpa using h
    go_enter Tryz.func53, Tryz.ntmps53
    go_wp2_with fail
    refine (in_any _ _ _ _).mono ?_
    rintro e w1 ⟨rfl, rfl⟩
    go_wp2
    go_ret
    exact ⟨by rw [HS.out, h']; rfl, (Below.refl _ _).alloc (Nat.le_refl _) _⟩
set_option maxHeartbeats 1000000 in
theorem spotRight_any (s : S) (w : World) :
    Calls Tryz.prog 102 #[.agg #[.int .i64 s.x, .int .i64 s.y]] w fun e w' => e = .returned (.bool (spotB s)) ∧ Below w.heap.size w w' := by
  by_cases h1 : -10000000 ≤ s.x
  · by_cases h2 : s.x ≤ 10000000
    · by_cases h3 : -10000000 ≤ s.y
      · by_cases h4 : s.y ≤ 10000000
        · have HS := Lib.hid (show spotB s = true by simp [spotB, h1, h2, h3, h4])
          go_enter Tryz.func102, Tryz.ntmps102
          go_wp2
          go_ret
          exact ⟨by rw [HS.out]; rfl, (Below.refl _ _).alloc (Nat.le_refl _) _⟩
        · have HS := Lib.hid (show spotB s = false by simp [spotB, h4])
          go_enter Tryz.func102, Tryz.ntmps102
          go_wp2
          go_ret
          exact ⟨by rw [HS.out]; rfl, (Below.refl _ _).alloc (Nat.le_refl _) _⟩
      · have HS := Lib.hid (show spotB s = false by simp [spotB, h3])
        go_enter Tryz.func102, Tryz.ntmps102
        go_wp2
        go_ret
        exact ⟨by rw [HS.out]; rfl, (Below.refl _ _).alloc (Nat.le_refl _) _⟩
    · have HS := Lib.hid (show spotB s = false by simp [spotB, h2])
      go_enter Tryz.func102, Tryz.ntmps102
      go_wp2
      go_ret
      exact ⟨by rw [HS.out]; rfl, (Below.refl _ _).alloc (Nat.le_refl _) _⟩
  · have HS := Lib.hid (show spotB s = false by simp [spotB, h1])
    go_enter Tryz.func102, Tryz.ntmps102
    go_wp2
    go_ret
    exact ⟨by rw [HS.out]; rfl, (Below.refl _ _).alloc (Nat.le_refl _) _⟩
end Go.Proofs.YtekambdnmaompaaGreat
