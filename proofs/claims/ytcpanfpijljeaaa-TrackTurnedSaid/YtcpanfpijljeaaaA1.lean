/- Contracts: small, and the specification's small functions. -/
import Derived.Test.YtcpanfpijljeaaaMem
import Derived.Test.YtcpanfpijljeaaaProg
import Derived.WalkKit
import Derived.Lib.Hide
import Derived.Outline
import Derived.BigQuiet
import Derived.Deep.QuietTactic
import Derived.Deep.LoopGhost
namespace Go.Proofs.Ytcpanfpijljeaaa
set_option linter.unusedVariables false
set_option linter.unusedSimpArgs false
open Go.RowKit

def smallN (p : Pl) : Bool := !((decide (12 < p.nodes.length ∧ p.nodes.length ≤ 300) || decide (14 < p.rails.length ∧ p.rails.length ≤ 400)) || decide (400 < p.nodes.length) || decide (500 < p.rails.length))
def smallB (p : Pl) : Bool := smallN p && p.nodes.all (fun nd => decide (nd.ends.length ≤ 8)) && p.rails.all (fun r => decide (r.shape.length ≤ 40))

theorem smallB_no1 {p : Pl} (h : smallN p = false) : smallB p = false := by simp [smallB, h]
theorem all_no {α : Type} {l : List α} {f : α → Bool} {k : Nat} (hk : k < l.length) (h : f l[k] = false) : l.all f = false := by
  rw [Bool.eq_false_iff]; intro ha
  rw [List.all_eq_true] at ha
  have := ha l[k] (List.getElem_mem hk)
  simp [h] at this
theorem all_yes {α : Type} {l : List α} {f : α → Bool} (h : ∀ k (hk : k < l.length), f l[k] = true) : l.all f = true := by
  rw [List.all_eq_true]; intro x hx
  obtain ⟨k, hk, rfl⟩ := List.getElem_of_mem hx
  exact h k hk
theorem smallB_no2 {p : Pl} {k : Nat} (hk : k < p.nodes.length) (h : 8 < p.nodes[k].ends.length) : smallB p = false := by
  simp only [smallB]; rw [all_no hk (by simp; omega)]; simp
theorem smallB_no3 {p : Pl} {k : Nat} (hk : k < p.rails.length) (h : 40 < p.rails[k].shape.length) : smallB p = false := by
  simp only [smallB]; rw [all_no (l := p.rails) hk (by simp; omega)]; simp
theorem smallB_yes {p : Pl} (h : smallN p = true) (h2 : ∀ k (hk : k < p.nodes.length), p.nodes[k].ends.length ≤ 8) (h3 : ∀ k (hk : k < p.rails.length), p.rails[k].shape.length ≤ 40) : smallB p = true := by
  simp only [smallB, h, Bool.true_and]
  rw [all_yes (fun k hk => by simpa using h2 k hk), all_yes (fun k hk => by simpa using h3 k hk)]; rfl
theorem ret_boolA {a b : Bool} (h : a = b) : Ending.returned (.bool a) = .returned (.bool b) := by rw [h]

set_option maxHeartbeats 4000000 in
theorem small_any (A A2 : Option Addr) (c c2 : Nat) (p : Pl) (w : World) (hP : PlAt w w.heap.size A c A2 c2 p) :
    Calls Try.prog 9 #[.agg #[.slice A p.nodes.length c, .slice A2 p.rails.length c2]] w fun e w' => e = .returned (.bool (smallB p)) ∧ Below w.heap.size w w' := by
  have hnc := hP.nc; have hnm := hP.nm; have hrc := hP.rc; have hrm := hP.rm
  by_cases hs : smallN p = true
  · have hs' := hs
    simp only [smallN, Bool.not_eq_true', Bool.or_eq_false_iff, decide_eq_false_iff_not, not_and, Nat.not_lt, Nat.not_le] at hs'
    obtain ⟨⟨⟨q1, q2⟩, q3⟩, q4⟩ := hs'
    have HS := Lib.hid hs; clear hs
    have hQ1 : p.nodes.length ≤ 12 ∨ 300 < p.nodes.length := by omega
    have hQ2 : p.rails.length ≤ 14 ∨ 400 < p.rails.length := by omega
    clear q1 q2
    have d3 : decide (400 < p.nodes.length) = false := by simp; omega
    have d4 : decide (500 < p.rails.length) = false := by simp; omega
    rcases hQ1 with g1 | g1 <;> rcases hQ2 with g2 | g2
    all_goals
      go_enter Try.func9, Try.ntmps9
      go_wp2
      go_loop [3] (fun i => ∃ k : Nat, k ≤ p.nodes.length ∧ i = .int .i64 k ∧ ∀ j (hj : j < p.nodes.length), j < k → p.nodes[j].ends.length ≤ 8) (fun i => p.nodes.length - (intOf i).toNat)
      case atStart => exact ⟨0, Nat.zero_le _, rfl, fun j _ h => absurd h (by omega)⟩
      case round =>
        obtain ⟨k, hk, rfl, hall⟩ := hrel
        have HA := Lib.hid hall; clear hall
        by_cases hlt : k < p.nodes.length
        · obtain ⟨b, off, A', c', hA, hb, hE, hc1, hc2, k0, k1, k2, k3, k4⟩ := hP.node hlt
          subst hA
          go_wp2
          · have h8 : 8 < p.nodes[k].ends.length := by omega
            go_ret
            exact ⟨ret_boolA (smallB_no2 hlt h8).symm, (Below.refl _ _).alloc (Nat.le_refl _) _⟩
          · have h8 : p.nodes[k].ends.length ≤ 8 := by omega
            go_round
            case rel => exact ⟨k + 1, by omega, by go_num, fun j hj hjk => if h : j = k then by subst h; exact h8 else HA.out j hj (by omega)⟩
            case measure => simp [intOf]; omega
        · obtain rfl : k = p.nodes.length := by omega
          go_wp2
          go_loop [4] (fun i => ∃ k : Nat, k ≤ p.rails.length ∧ i = .int .i64 k ∧ ∀ j (hj : j < p.rails.length), j < k → p.rails[j].shape.length ≤ 40) (fun i => p.rails.length - (intOf i).toNat)
          case atStart => exact ⟨0, Nat.zero_le _, rfl, fun j _ h => absurd h (by omega)⟩
          case round =>
            obtain ⟨m, hk2, rfl, hall2⟩ := hrel
            have HA2 := Lib.hid hall2; clear hall2
            by_cases hlt2 : m < p.rails.length
            · obtain ⟨b, off, A', c', hA, hb, hE, hc1, hc2, k0, k1, k2, k3, k4⟩ := hP.rail hlt2
              subst hA
              go_wp2
              · have h8 : 40 < p.rails[m].shape.length := by omega
                go_ret
                exact ⟨ret_boolA (smallB_no3 hlt2 h8).symm, (Below.refl _ _).alloc (Nat.le_refl _) _⟩
              · have h8 : p.rails[m].shape.length ≤ 40 := by omega
                go_round
                case rel => exact ⟨m + 1, by omega, by go_num, fun j hj hjk => if h : j = m then by subst h; exact h8 else HA2.out j hj (by omega)⟩
                case measure => simp [intOf]; omega
            · obtain rfl : m = p.rails.length := by omega
              go_wp2
              go_ret
              exact ⟨ret_boolA (smallB_yes HS.out (fun j hj => HA.out j hj hj) (fun j hj => HA2.out j hj hj)).symm, (Below.refl _ _).alloc (Nat.le_refl _) _⟩
  · have hs2 : smallN p = false := by simpa using hs
    have hs' := hs2
    simp only [smallN, Bool.not_eq_false', Bool.or_eq_true, decide_eq_true_iff] at hs'
    have HS := Lib.hid (smallB_no1 hs2); clear hs hs2
    rcases hs' with ((⟨g1, g2⟩ | ⟨g1, g2⟩) | g1) | g1
    all_goals
      go_enter Try.func9, Try.ntmps9
      go_wp2
      all_goals
        go_ret
        exact ⟨ret_boolA HS.out.symm, (Below.refl _ _).alloc (Nat.le_refl _) _⟩
end Go.Proofs.Ytcpanfpijljeaaa
