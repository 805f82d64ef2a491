/- Contracts: hasRail, follows, setting, wayLength. -/
import Derived.Test.YtekambdnmaompaaGreatNw
import Derived.Test.YtekambdnmaompaaGreatJS
import Derived.RegionTactic
import Derived.Test.YtekambdnmaompaaGreatE1
import Derived.Test.YtekambdnmaompaaGreatC6
namespace Go.Proofs.YtekambdnmaompaaGreat
set_option linter.unusedVariables false
set_option linter.unusedSimpArgs false
open Go.RowKit

def railIn (p : Pl) (r : Int) : Bool := decide (0 ≤ r ∧ r < p.rails.length)
theorem Nw.sizes {w : World} {B g : Nat} {p : Pl} (h : Nw w B g p) : 1 ≤ p.nodes.length ∧ p.nodes.length ≤ 300 ∧ 1 ≤ p.rails.length ∧ p.rails.length ≤ 400 := by
  have := of_decide_eq_true h.v.sizes; omega

set_option maxHeartbeats 1000000 in
theorem hasRail_any (B g : Nat) (p : Pl) (r : Int) (w : World) (h : Nw w B g p) :
    Calls Tryz.prog 60 #[.pointer (some ⟨g, 0, none⟩), .int .i64 r] w fun e w' => e = .returned (.bool (railIn p r)) ∧ w = w' := by
  obtain ⟨A, c, A2, c2, lb, sb, nb, bb, hN, h1, h2, h3, h4, h5, h6⟩ := h.net
  obtain ⟨c0, c1, _, _, _, _⟩ := hN.cell
  have hrc := hN.pl.rc; have hrm := hN.pl.rm
  by_cases g0 : 0 ≤ r
  · by_cases g1 : r < p.rails.length
    · have HD := Lib.hid (show railIn p r = true by simp [railIn, g0, g1])
      have d0 : decide (0 ≤ r) = true := by simpa using g0
      have d1 : decide (r < (p.rails.length : Int)) = true := by simpa using g1
      clear hN h h3 h4 h5 h6
      go_enter Tryz.func60, Tryz.ntmps60
      go_wp2
      go_ret
      exact ⟨by rw [HD.out]; rfl, rfl⟩
    · have HD := Lib.hid (show railIn p r = false by simp [railIn, g1])
      have d0 : decide (0 ≤ r) = true := by simpa using g0
      have d1 : decide (r < (p.rails.length : Int)) = false := by simpa using g1
      clear hN h h3 h4 h5 h6
      go_enter Tryz.func60, Tryz.ntmps60
      go_wp2
      go_ret
      exact ⟨by rw [HD.out]; rfl, rfl⟩
  · have HD := Lib.hid (show railIn p r = false by simp [railIn, g0])
    have d0 : decide (0 ≤ r) = false := by simpa using g0
    clear hN h h3 h4 h5 h6
    go_enter Tryz.func60, Tryz.ntmps60
    go_wp2
    go_ret
    exact ⟨by rw [HD.out]; rfl, rfl⟩

theorem nextL_len (p : Pl) (x : Nat) : (nextL p x).length ≤ 2 := by
  unfold nextL; rw [List.length_mergeSort]; exact leaveL_le2 p x

/-- does n follow m? -/
def folB (p : Pl) (m : Nat) (n : Int) : Bool := decide (n ∈ nextL p m)
set_option maxHeartbeats 1000000 in
theorem follows_any (B g : Nat) (p : Pl) (m : Nat) (n : Int) (w : World) (h : Nw w B g p) (hB : B ≤ w.heap.size) (hm : m < 2 * p.rails.length) :
    Calls Tryz.prog 127 #[.pointer (some ⟨g, 0, none⟩), .int .i64 (m : Int), .int .i64 n] w fun e w' => e = .returned (.bool (folB p m n)) ∧ w = w' := by
  have hsz := h.sizes
  obtain ⟨A, c, A2, c2, lb, sb, nb, bb, hN, h1, h2, h3, h4, h5, h6⟩ := h.net
  obtain ⟨_, _, _, _, c4, _⟩ := hN.cell
  obtain ⟨An, cn, k0, k1, k2, k3⟩ := h5.2 m hm
  have hl := nextL_len p m
  have hS : Sl w w.heap.size 1 CI An (nextL p m) := k3.more (fun _ _ h => h) hB
  have HS := Lib.hid hS
  clear hN h h3 h4 h5 h6 hS k3
  go_enter Tryz.func127, Tryz.ntmps127
  go_wp2_with fail
  refine (contains_any An (nextL p m) cn n _ HS.out (by omega)).mono ?_
  rintro e w1 ⟨rfl, rfl⟩
  rw [show decide (n ∈ nextL p m) = folB p m n from rfl]
  go_wp2
  go_ret
  exact ⟨rfl, rfl⟩

end Go.Proofs.YtekambdnmaompaaGreat
