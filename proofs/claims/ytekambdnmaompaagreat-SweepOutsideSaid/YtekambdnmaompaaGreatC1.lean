/- Contracts: small functions of the network and the specification. -/
import Derived.Test.YtekambdnmaompaaGreatOwn
import Derived.Test.YtekambdnmaompaaGreatA3
namespace Go.Proofs.YtekambdnmaompaaGreat
set_option linter.unusedVariables false
set_option linter.unusedSimpArgs false
open Go.RowKit

def endNo (e : E) : Int := if e.last then 2 * e.rail + 1 else 2 * e.rail
set_option maxHeartbeats 1000000 in
theorem endNumber_any (e : E) (w : World) (h0 : 0 ≤ e.rail) (h1 : e.rail ≤ 1000000) :
    Calls Tryz.prog 106 #[.agg #[.int .i64 e.rail, .bool e.last]] w fun r w' => r = .returned (.int .i64 (endNo e)) ∧ Below w.heap.size w w' := by
  obtain ⟨rl, l⟩ := e
  have g0 : 0 ≤ rl := h0
  have g1 : rl ≤ 1000000 := h1
  clear h0 h1
  cases l
  · go_enter Tryz.func106, Tryz.ntmps106
    go_wp2
    go_ret
    exact ⟨rfl, (Below.refl _ _).alloc (Nat.le_refl _) _⟩
  · go_enter Tryz.func106, Tryz.ntmps106
    go_wp2
    go_ret
    exact ⟨rfl, (Below.refl _ _).alloc (Nat.le_refl _) _⟩
set_option maxHeartbeats 1000000 in
theorem number_any (e : E) (w : World) (h0 : 0 ≤ e.rail) (h1 : e.rail ≤ 1000000) :
    Calls Tryz.prog 128 #[.agg #[.int .i64 e.rail, .bool e.last]] w fun r w' => r = .returned (.int .i64 (endNo e)) ∧ Below w.heap.size w w' := by
  obtain ⟨rl, l⟩ := e
  have g0 : 0 ≤ rl := h0
  have g1 : rl ≤ 1000000 := h1
  clear h0 h1
  cases l
  · go_enter Tryz.func128, Tryz.ntmps128
    go_wp2
    go_ret
    exact ⟨rfl, (Below.refl _ _).alloc (Nat.le_refl _) _⟩
  · go_enter Tryz.func128, Tryz.ntmps128
    go_wp2
    go_ret
    exact ⟨rfl, (Below.refl _ _).alloc (Nat.le_refl _) _⟩

theorem endsOf_any (k : Int) (w : World) (h1 : 1 ≤ k) (h2 : k ≤ 6) :
    Calls Tryz.prog 129 #[.int .i64 k] w fun e w' => e = .returned (.int .i64 (endsZ k)) ∧ Below w.heap.size w w' := by
  rcases (show k = 1 ∨ k = 2 ∨ k = 3 ∨ k = 4 ∨ k = 5 ∨ k = 6 by omega) with h | h | h | h | h | h
  all_goals
    subst h
    go_enter Tryz.func129, Tryz.ntmps129
    go_wp2
    go_ret
    exact ⟨rfl, (Below.refl _ _).alloc (Nat.le_refl _) _⟩

/-- the node at which an end is -/
def atZ (p : Pl) (e : E) : Int := if e.last then ((p.rails[e.rail.toNat]?).map (·.to)).getD 0 else ((p.rails[e.rail.toNat]?).map (·.frm)).getD 0
theorem atZ_eq {p : Pl} {e : E} {k : Nat} (h : e.rail = k) (hk : k < p.rails.length) : atZ p e = if e.last then p.rails[k].to else p.rails[k].frm := by
  unfold atZ; rw [h]; simp [hk]
set_option maxHeartbeats 1000000 in
theorem at_any (A A2 : Option Addr) (c c2 : Nat) (p : Pl) (e : E) (w : World) (hP : PlAt w w.heap.size A c A2 c2 p) (h0 : 0 ≤ e.rail) (h1 : e.rail < p.rails.length) :
    Calls Tryz.prog 57 #[.agg #[.slice A p.nodes.length c, .slice A2 p.rails.length c2], .agg #[.int .i64 e.rail, .bool e.last]] w fun r w' => r = .returned (.int .i64 (atZ p e)) ∧ Below w.heap.size w w' := by
  have hrc := hP.rc; have hrm := hP.rm
  obtain ⟨rl, l⟩ := e
  obtain ⟨k, rfl⟩ := Int.eq_ofNat_of_zero_le h0
  have hk : k < p.rails.length := by simpa using h1
  obtain ⟨b, off, A', c', rfl, hb, hE, hc1, hc2, k0, k1, k2, k3, k4⟩ := hP.rail hk
  have hb1 : b < w.heap.size + 1 := by omega
  have HE := Lib.hid (atZ_eq (p := p) (e := ⟨(k : Int), l⟩) rfl hk)
  clear hP h0 h1
  cases l
  · go_enter Tryz.func57, Tryz.ntmps57
    go_wp2
    go_ret
    exact ⟨by rw [HE.out]; rfl, ((Below.refl _ _).alloc (Nat.le_refl _) _).alloc (by simp) _⟩
  · go_enter Tryz.func57, Tryz.ntmps57
    go_wp2
    go_ret
    exact ⟨by rw [HE.out]; rfl, ((Below.refl _ _).alloc (Nat.le_refl _) _).alloc (by simp) _⟩
end Go.Proofs.YtekambdnmaompaaGreat
