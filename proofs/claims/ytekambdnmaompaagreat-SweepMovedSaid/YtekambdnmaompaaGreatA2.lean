/- Contracts: small functions on numbers and spots. -/
import Derived.Test.YtekambdnmaompaaGreatNum
import Derived.Test.YtekambdnmaompaaGreatProg
import Derived.WalkKit
import Derived.Lib.Hide
import Derived.Outline
import Derived.BigQuiet
import Derived.Deep.QuietTactic
import Derived.Deep.LoopGhost
namespace Go.Proofs.YtekambdnmaompaaGreat
set_option linter.unusedVariables false
set_option linter.unusedSimpArgs false
open Go.RowKit

theorem ret_int {k : IntKind} {a b : Int} (h : a = b) : Ending.returned (.int k a) = .returned (.int k b) := by rw [h]
def inB (n lo hi : Int) : Bool := decide (lo ≤ n) && decide (n ≤ hi)
theorem in_any (n lo hi : Int) (w : World) :
    Calls Tryz.prog 52 #[.int .i64 n, .int .i64 lo, .int .i64 hi] w fun e w' => e = .returned (.bool (inB n lo hi)) ∧ w = w' := by
  by_cases h : lo ≤ n
  · have HE := Lib.hid (show inB n lo hi = decide (n ≤ hi) by simp [inB, h])
    go_enter Tryz.func52, Tryz.ntmps52
    go_wp2
    go_ret
    exact ⟨by rw [HE.out]; rfl, rfl⟩
  · have HE := Lib.hid (show inB n lo hi = false by simp [inB, h])
    go_enter Tryz.func52, Tryz.ntmps52
    go_wp2
    go_ret
    exact ⟨by rw [HE.out]; rfl, rfl⟩

theorem ends_any (k : Int) (w : World) :
    Calls Tryz.prog 54 #[.int .i64 k] w fun e w' => e = .returned (.int .i64 (endsZ k)) ∧ w = w' := by
  by_cases h1 : k = 1
  · subst h1; go_enter Tryz.func54, Tryz.ntmps54; go_wp2; go_ret; exact ⟨rfl, rfl⟩
  by_cases h2 : k = 2
  · subst h2; go_enter Tryz.func54, Tryz.ntmps54; go_wp2; go_ret; exact ⟨rfl, rfl⟩
  by_cases h3 : k = 3
  · subst h3; go_enter Tryz.func54, Tryz.ntmps54; go_wp2; go_ret; exact ⟨rfl, rfl⟩
  by_cases h4 : k = 4
  · subst h4; go_enter Tryz.func54, Tryz.ntmps54; go_wp2; go_ret; exact ⟨rfl, rfl⟩
  by_cases h5 : k = 5
  · subst h5; go_enter Tryz.func54, Tryz.ntmps54; go_wp2; go_ret; exact ⟨rfl, rfl⟩
  by_cases h6 : k = 6
  · subst h6; go_enter Tryz.func54, Tryz.ntmps54; go_wp2; go_ret; exact ⟨rfl, rfl⟩
  have HE := Lib.hid (show endsZ k = 0 by simp [endsZ, h1, h2, h3, h4, h5, h6])
  go_enter Tryz.func54, Tryz.ntmps54
  go_wp2
  go_ret
  exact ⟨by rw [HE.out]; rfl, rfl⟩

theorem rt_bound {n r : Nat} (hn : n < 1099511627776) (h : r * r ≤ n) : r ≤ 1048575 := by
  rcases Nat.lt_or_ge 1048575 r with h1 | h1
  · have := Nat.mul_le_mul (show 1048576 ≤ r by omega) (show 1048576 ≤ r by omega); omega
  · exact h1
/-- what holds at the head of a round of root's loop -/
def Rt (n r b : Nat) : Prop := r * r ≤ n ∧ ((b = 0 ∧ n < (r + 1) * (r + 1)) ∨ (0 < b ∧ n < (r + 2 * b) * (r + 2 * b) ∧ ∃ k, b = 2 ^ k ∧ k ≤ 19))
theorem Rt.up {n r b : Nat} (h : Rt n r b) (hb : 0 < b) (hx : (r + b) * (r + b) ≤ n) : Rt n (r + b) (b / 2) := by
  obtain ⟨h1, ⟨rfl, _⟩ | ⟨_, h2, k, rfl, hk⟩⟩ := h
  · omega
  · refine ⟨hx, ?_⟩
    cases k with
    | zero => exact .inl ⟨by simp, by simpa [Nat.add_assoc] using h2⟩
    | succ k =>
      have e : 2 ^ (k + 1) = 2 * 2 ^ k := by rw [Nat.pow_succ, Nat.mul_comm]
      have hp := Nat.two_pow_pos k
      rw [e] at h2 ⊢
      rw [Nat.mul_div_cancel_left _ (by omega)]
      exact .inr ⟨hp, by rw [show r + 2 * 2 ^ k + 2 * 2 ^ k = r + 2 * (2 * 2 ^ k) by omega]; exact h2, k, rfl, by omega⟩
theorem Rt.stay {n r b : Nat} (h : Rt n r b) (hb : 0 < b) (hx : n < (r + b) * (r + b)) : Rt n r (b / 2) := by
  obtain ⟨h1, ⟨rfl, _⟩ | ⟨_, h2, k, rfl, hk⟩⟩ := h
  · omega
  · refine ⟨h1, ?_⟩
    cases k with
    | zero => exact .inl ⟨by simp, by simpa using hx⟩
    | succ k =>
      have e : 2 ^ (k + 1) = 2 * 2 ^ k := by rw [Nat.pow_succ, Nat.mul_comm]
      have hp := Nat.two_pow_pos k
      rw [e] at hx ⊢
      rw [Nat.mul_div_cancel_left _ (by omega)]
      exact .inr ⟨hp, hx, k, rfl, by omega⟩
theorem Rt.small {n r b : Nat} (h : Rt n r b) : b ≤ 524288 := by
  obtain ⟨h1, ⟨rfl, _⟩ | ⟨_, h2, k, rfl, hk⟩⟩ := h
  · omega
  · exact Nat.pow_le_pow_right (by omega) hk
theorem sq_cast (r b : Nat) : ((r : Int) + (b : Int)) * ((r : Int) + (b : Int)) = (((r + b) * (r + b) : Nat) : Int) := by simp
set_option maxHeartbeats 1000000 in
theorem root_any (n : Nat) (w : World) (hn : n < 1099511627776) :
    Calls Tryz.prog 126 #[.int .i64 n] w fun e w' => e = .returned (.int .i64 (isq n : Nat)) ∧ w = w' := by
  go_enter Tryz.func126, Tryz.ntmps126
  go_wp2
  go_loop [3, 4] (fun r b => ∃ r' b' : Nat, r = .int .i64 r' ∧ b = .int .i64 b' ∧ Rt n r' b') (fun _ b => (intOf b).toNat)
  case atStart => exact ⟨0, 524288, rfl, rfl, by omega, .inr ⟨by omega, by omega, 19, rfl, by omega⟩⟩
  case round =>
    obtain ⟨r, b, rfl, rfl, h⟩ := hrel
    have hr := rt_bound hn h.1
    have hbs := h.small
    have hx0 : (0 : Int) ≤ ((r : Int) + (b : Int)) * ((r : Int) + (b : Int)) := Int.mul_nonneg (by omega) (by omega)
    have hx1 : ((r : Int) + (b : Int)) * ((r : Int) + (b : Int)) ≤ 1573863 * 1573863 := Int.mul_le_mul (by omega) (by omega) (by omega) (by omega)
    have hS := Lib.hid (sq_cast r b)
    have H := Lib.hid h; clear h
    by_cases hb : 0 < b
    · go_wp2
      · have hle : ((r : Int) + (b : Int)) * ((r : Int) + (b : Int)) ≤ n := by assumption
        go_round
        case rel => exact ⟨r + b, b / 2, by go_num, by go_num, H.out.up hb (by have := hS.out; omega)⟩
        case measure => simp [intOf]; omega
      · have hle : (n : Int) < ((r : Int) + (b : Int)) * ((r : Int) + (b : Int)) := by assumption
        go_round
        case rel => exact ⟨r, b / 2, by go_num, by go_num, H.out.stay hb (by have := hS.out; omega)⟩
        case measure => simp [intOf]; omega
    · obtain rfl : b = 0 := by omega
      go_wp2
      go_ret
      refine ⟨ret_int ?_, rfl⟩
      obtain ⟨h1, ⟨_, h2⟩ | ⟨h2, _⟩⟩ := H.out
      · rw [isq_of (by omega) h1 h2]
      · omega
end Go.Proofs.YtekambdnmaompaaGreat
