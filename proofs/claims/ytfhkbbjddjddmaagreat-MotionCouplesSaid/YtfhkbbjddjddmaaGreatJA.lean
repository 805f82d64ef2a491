/- Texts A2 A3. -/
import Derived.Test.YtfhkbbjddjddmaaGreatNum
import Derived.Test.YtfhkbbjddjddmaaGreatProg
import Derived.WalkKit
import Derived.Lib.Hide
import Derived.Outline
import Derived.BigQuiet
import Derived.Deep.QuietTactic
import Derived.Deep.LoopGhost
namespace Go.Proofs.YtfhkbbjddjddmaaGreat
set_option linter.unusedVariables false
set_option linter.unusedSimpArgs false
open Go.RowKit

theorem ret_int {k : IntKind} {a b : Int} (h : a = b) : Ending.returned (.int k a) = .returned (.int k b) := by rw [h]
theorem rt_bound {n r : Nat} (hn : n < 1099511627776) (h : r * r ≤ n) : r ≤ 1048575 := by
  rcases Nat.lt_or_ge 1048575 r with h1 | h1
  · have := Nat.mul_le_mul (show 1048576 ≤ r by omega) (show 1048576 ≤ r by omega); omega
  · exact h1
/-- what holds at the head of a round of root's loop -/
def Rt (n r b : Nat) : Prop := r * r ≤ n ∧ ((b = 0 ∧ n < (r + 1) * (r + 1)) ∨ (0 < b ∧ n < (r + 2 * b) * (r + 2 * b) ∧ ∃ k, b = 2 ^ k ∧ k ≤ 19))
theorem Rt.up {n r b : Nat} (h : Rt n r b) (hb : 0 < b) (hx : (r + b) * (r + b) ≤ n) : Rt n (r + b) (b / 2) := by
  obtain ⟨h1, ⟨rfl, _⟩ | ⟨_, h2, k, rfl, hk⟩⟩ := h
  · omega
  · refine ⟨hx, ?_⟩
    cases k with
    | zero => exact .inl ⟨by simp, by simpa [Nat.add_assoc] using h2⟩
    | succ k =>
      have e : 2 ^ (k + 1) = 2 * 2 ^ k := by rw [Nat.pow_succ, Nat.mul_comm]
      have hp := Nat.two_pow_pos k
      rw [e] at h2 ⊢
      rw [Nat.mul_div_cancel_left _ (by omega)]
      exact .inr ⟨hp, by rw [show r + 2 * 2 ^ k + 2 * 2 ^ k = r + 2 * (2 * 2 ^ k) by omega]; exact h2, k, rfl, by omega⟩
theorem Rt.stay {n r b : Nat} (h : Rt n r b) (hb : 0 < b) (hx : n < (r + b) * (r + b)) : Rt n r (b / 2) := by
  obtain ⟨h1, ⟨rfl, _⟩ | ⟨_, h2, k, rfl, hk⟩⟩ := h
  · omega
  · refine ⟨h1, ?_⟩
    cases k with
    | zero => exact .inl ⟨by simp, by simpa using hx⟩
    | succ k =>
      have e : 2 ^ (k + 1) = 2 * 2 ^ k := by rw [Nat.pow_succ, Nat.mul_comm]
      have hp := Nat.two_pow_pos k
      rw [e] at hx ⊢
      rw [Nat.mul_div_cancel_left _ (by omega)]
      exact .inr ⟨hp, hx, k, rfl, by omega⟩
theorem Rt.small {n r b : Nat} (h : Rt n r b) : b ≤ 524288 := by
  obtain ⟨h1, ⟨rfl, _⟩ | ⟨_, h2, k, rfl, hk⟩⟩ := h
  · omega
  · exact Nat.pow_le_pow_right (by omega) hk
theorem sq_cast (r b : Nat) : ((r : Int) + (b : Int)) * ((r : Int) + (b : Int)) = (((r + b) * (r + b) : Nat) : Int) := by simp
set_option maxHeartbeats 1000000 in
theorem root_any (n : Nat) (w : World) (hn : n < 1099511627776) :
    Calls Tryz.prog 124 #[.int .i64 n] w fun e w' => e = .returned (.int .i64 (isq n : Nat)) ∧ w = w' := by
  go_enter Tryz.func124, Tryz.ntmps124
  go_wp2
  go_loop [3, 4] (fun r b => ∃ r' b' : Nat, r = .int .i64 r' ∧ b = .int .i64 b' ∧ Rt n r' b') (fun _ b => (intOf b).toNat)
  case atStart => exact ⟨0, 524288, rfl, rfl, by omega, .inr ⟨by omega, by omega, 19, rfl, by omega⟩⟩
  case round =>
    obtain ⟨r, b, rfl, rfl, h⟩ := hrel
    have hr := rt_bound hn h.1
    have hbs := h.small
    have hx0 : (0 : Int) ≤ ((r : Int) + (b : Int)) * ((r : Int) + (b : Int)) := Int.mul_nonneg (by omega) (by omega)
    have hx1 : ((r : Int) + (b : Int)) * ((r : Int) + (b : Int)) ≤ 1573863 * 1573863 := Int.mul_le_mul (by omega) (by omega) (by omega) (by omega)
    have hS := Lib.hid (sq_cast r b)
    have H := Lib.hid h; clear h
    by_cases hb : 0 < b
    · go_wp2
      · have hle : ((r : Int) + (b : Int)) * ((r : Int) + (b : Int)) ≤ n := by assumption
        go_round
        case rel => exact ⟨r + b, b / 2, by go_num, by go_num, H.out.up hb (by have := hS.out; omega)⟩
        case measure => simp [intOf]; omega
      · have hle : (n : Int) < ((r : Int) + (b : Int)) * ((r : Int) + (b : Int)) := by assumption
        go_round
        case rel => exact ⟨r, b / 2, by go_num, by go_num, H.out.stay hb (by have := hS.out; omega)⟩
        case measure => simp [intOf]; omega
    · obtain rfl : b = 0 := by omega
      go_wp2
      go_ret
      refine ⟨ret_int ?_, rfl⟩
      obtain ⟨h1, ⟨_, h2⟩ | ⟨h2, _⟩⟩ := H.out
      · rw [isq_of (by omega) h1 h2]
      · omega
end Go.Proofs.YtfhkbbjddjddmaaGreat

namespace Go.Proofs.YtfhkbbjddjddmaaGreat
set_option linter.unusedVariables false
set_option linter.unusedSimpArgs false
open Go.RowKit

def inR (s : S) : Prop := -10000000 ≤ s.x ∧ s.x ≤ 10000000 ∧ -10000000 ≤ s.y ∧ s.y ≤ 10000000
theorem spotB_iff (s : S) : spotB s = true ↔ inR s := by simp [spotB, inR, and_assoc]
theorem sq_nn (x : Int) : 0 ≤ x * x := by
  rcases Int.le_total 0 x with h | h
  · exact Int.mul_nonneg h h
  · have h3 := Int.mul_nonneg (show 0 ≤ -x by omega) (show 0 ≤ -x by omega)
    rwa [Int.neg_mul_neg] at h3
theorem sqd_cast (a b : S) : ((sqd a b : Nat) : Int) = (a.x - b.x) * (a.x - b.x) + (a.y - b.y) * (a.y - b.y) := by
  unfold sqd
  have h1 := sq_nn (a.x - b.x)
  have h2 := sq_nn (a.y - b.y)
  omega
theorem mul_sub_comm (x y : Int) : (y - x) * (y - x) = (x - y) * (x - y) := by
  have : y - x = -(x - y) := by omega
  rw [this, Int.neg_mul_neg]
theorem sqd_comm (a b : S) : sqd a b = sqd b a := by unfold sqd; rw [mul_sub_comm a.x b.x, mul_sub_comm a.y b.y]
set_option maxHeartbeats 1000000 in
theorem Distance_yes (a b : S) (w : World) (ha : inR a) (hb : inR b) (h1 : 1 ≤ sqd a b) (h2 : sqd a b < 1000002000001) :
    Calls Tryz.prog 104 #[.agg #[.int .i64 a.x, .int .i64 a.y], .agg #[.int .i64 b.x, .int .i64 b.y]] w fun e w' => e = .returned (.tuple #[.int .i64 (far a b : Nat), .bool true]) ∧ Below w.heap.size w w' := by
  obtain ⟨a1, a2, a3, a4⟩ := id ha
  obtain ⟨b1, b2, b3, b4⟩ := id hb
  have q1 := sq_bound (b.x - a.x) 20000000 (by omega) (by omega)
  have q2 := sq_bound (b.y - a.y) 20000000 (by omega) (by omega)
  have hs := sqd_cast b a
  rw [sqd_comm b a] at hs
  have h3 : ((b.x - a.x) * (b.x - a.x) + (b.y - a.y) * (b.y - a.y) == 0) = false := by rw [← hs]; simp; omega
  have h4 : decide (1000002000001 ≤ (b.x - a.x) * (b.x - a.x) + (b.y - a.y) * (b.y - a.y)) = false := by rw [← hs]; simp; omega
  have hc := Lib.hid hs; clear hs
  go_enter Tryz.func104, Tryz.ntmps104
  go_wp2
  go_quiet (fail)
  go_wp2_with fail
  rw [← hc.out]
  refine (root_any _ _ (by omega)).mono ?_
  rintro e w1 ⟨rfl, rfl⟩
  go_wp2
  go_ret2
  exact ⟨rfl, bDrewN (((Below.refl _ _).alloc (Nat.le_refl _) _).alloc (by simp) _) _⟩
set_option maxHeartbeats 1000000 in
theorem Distance_no (a b : S) (w : World) (ha : inR a) (hb : inR b) (h1 : sqd a b = 0 ∨ 1000002000001 ≤ sqd a b) :
    Calls Tryz.prog 104 #[.agg #[.int .i64 a.x, .int .i64 a.y], .agg #[.int .i64 b.x, .int .i64 b.y]] w fun e w' => e = .returned (.tuple #[.int .i64 0, .bool false]) ∧ Below w.heap.size w w' := by
  obtain ⟨a1, a2, a3, a4⟩ := id ha
  obtain ⟨b1, b2, b3, b4⟩ := id hb
  have q1 := sq_bound (b.x - a.x) 20000000 (by omega) (by omega)
  have q2 := sq_bound (b.y - a.y) 20000000 (by omega) (by omega)
  have hs := sqd_cast b a
  rw [sqd_comm b a] at hs
  rcases h1 with h1 | h1
  · have h3 : ((b.x - a.x) * (b.x - a.x) + (b.y - a.y) * (b.y - a.y) == 0) = true := by rw [← hs]; simp; omega
    clear hs
    go_enter Tryz.func104, Tryz.ntmps104
    go_wp2
    go_quiet (fail)
    go_wp2
    go_ret2
    exact ⟨rfl, bDrewN (((Below.refl _ _).alloc (Nat.le_refl _) _).alloc (by simp) _) _⟩
  · have h3 : ((b.x - a.x) * (b.x - a.x) + (b.y - a.y) * (b.y - a.y) == 0) = false := by rw [← hs]; simp; omega
    have h4 : decide (1000002000001 ≤ (b.x - a.x) * (b.x - a.x) + (b.y - a.y) * (b.y - a.y)) = true := by rw [← hs]; simp; omega
    clear hs
    go_enter Tryz.func104, Tryz.ntmps104
    go_wp2
    go_quiet (fail)
    go_wp2
    go_ret2
    exact ⟨rfl, bDrewN (((Below.refl _ _).alloc (Nat.le_refl _) _).alloc (by simp) _) _⟩

set_option maxHeartbeats 1000000 in
theorem spotRight_any (s : S) (w : World) :
    Calls Tryz.prog 138 #[.agg #[.int .i64 s.x, .int .i64 s.y]] w fun e w' => e = .returned (.bool (spotB s)) ∧ Below w.heap.size w w' := by
  by_cases h1 : -10000000 ≤ s.x
  · by_cases h2 : s.x ≤ 10000000
    · by_cases h3 : -10000000 ≤ s.y
      · by_cases h4 : s.y ≤ 10000000
        · have HS := Lib.hid (show spotB s = true by simp [spotB, h1, h2, h3, h4])
          go_enter Tryz.func138, Tryz.ntmps138
          go_wp2
          go_ret
          exact ⟨by rw [HS.out]; rfl, (Below.refl _ _).alloc (Nat.le_refl _) _⟩
        · have HS := Lib.hid (show spotB s = false by simp [spotB, h4])
          go_enter Tryz.func138, Tryz.ntmps138
          go_wp2
          go_ret
          exact ⟨by rw [HS.out]; rfl, (Below.refl _ _).alloc (Nat.le_refl _) _⟩
      · have HS := Lib.hid (show spotB s = false by simp [spotB, h3])
        go_enter Tryz.func138, Tryz.ntmps138
        go_wp2
        go_ret
        exact ⟨by rw [HS.out]; rfl, (Below.refl _ _).alloc (Nat.le_refl _) _⟩
    · have HS := Lib.hid (show spotB s = false by simp [spotB, h2])
      go_enter Tryz.func138, Tryz.ntmps138
      go_wp2
      go_ret
      exact ⟨by rw [HS.out]; rfl, (Below.refl _ _).alloc (Nat.le_refl _) _⟩
  · have HS := Lib.hid (show spotB s = false by simp [spotB, h1])
    go_enter Tryz.func138, Tryz.ntmps138
    go_wp2
    go_ret
    exact ⟨by rw [HS.out]; rfl, (Below.refl _ _).alloc (Nat.le_refl _) _⟩
end Go.Proofs.YtfhkbbjddjddmaaGreat
