/- Texts S1 S2. -/
import Derived.Test.YtekambdnmaompaaGreatMem
import Derived.Test.YtekambdnmaompaaGreatProg
import Derived.WalkKit
import Derived.Lib.Hide
import Derived.Outline
import Derived.BigQuiet
import Derived.Deep.QuietTactic
import Derived.Deep.LoopGhost
import Derived.Test.YtekambdnmaompaaGreatOwn
import Derived.Deep.DeepMust
namespace Go.Proofs.YtekambdnmaompaaGreat
set_option linter.unusedVariables false
set_option linter.unusedSimpArgs false
open Go.RowKit

def SamePost {α : Type} (l m : List α) (w : World) (e : Ending) (w' : World) : Prop := (∃ b, e = .returned (.bool b) ∧ (b = true ↔ l = m)) ∧ Below w.heap.size w w'
theorem take_next {α : Type} {l m : List α} {k : Nat} (h : l.take k = m.take k) (hl : k < l.length) (hm : k < m.length) (he : l[k] = m[k]) : l.take (k + 1) = m.take (k + 1) := by
  rw [List.take_succ_eq_append_getElem hl, List.take_succ_eq_append_getElem hm, h, he]
theorem ne_at {α : Type} {l m : List α} {k : Nat} (hl : k < l.length) (hm : k < m.length) (he : l[k] ≠ m[k]) : l ≠ m := by
  intro e; subst e; exact he rfl

/-- a part of a rail -/
structure C3 where
  rail : Int
  frm : Int
  to : Int
def CC (s : C3) (cs : List Value) : Prop := cs = [.int .i64 s.rail, .int .i64 s.frm, .int .i64 s.to]
end Go.Proofs.YtekambdnmaompaaGreat

namespace Go.Proofs.YtekambdnmaompaaGreat
set_option linter.unusedVariables false
set_option linter.unusedSimpArgs false
open Go.RowKit

theorem not_mem_next {l : List Int} {k : Nat} {v : Int} (hl : k < l.length) (h : v ∉ l.take k) (hne : v ≠ l[k]) : v ∉ l.take (k + 1) := by
  rw [List.take_succ_eq_append_getElem hl]
  simp only [List.mem_append, List.mem_singleton, not_or]
  exact ⟨h, hne⟩
set_option maxHeartbeats 1000000 in
theorem index_any (A : Option Addr) (l : List Int) (c : Nat) (v : Int) (w : World) (hA : Sl w w.heap.size 1 CI A l) (hl : l.length ≤ 140737488351232) :
    Calls Tryz.prog 160 #[.slice A l.length c, .int .i64 v] w fun e w' => (∃ i : Int, e = .returned (.int .i64 i) ∧ (0 ≤ i ↔ v ∈ l)) ∧ w = w' := by
  go_enter Tryz.func160, Tryz.ntmps160
  go_wp2
  go_loop [8] (fun i => ∃ k : Nat, k ≤ l.length ∧ i = .int .i64 k ∧ v ∉ l.take k) (fun i => l.length - (intOf i).toNat)
  case atStart => exact ⟨0, Nat.zero_le _, rfl, by simp⟩
  case round =>
    obtain ⟨k, hk, rfl, hn⟩ := hrel
    have HN := Lib.hid hn; clear hn
    by_cases hlt : k < l.length
    · obtain ⟨b1, o1, e1, g1, q1⟩ := int_at hA hlt
      obtain ⟨x, hx⟩ : ∃ x, l[k] = x := ⟨_, rfl⟩
      rw [hx] at q1
      have HX := Lib.hid hx
      subst e1
      clear hx
      by_cases hxy : v = x
      · have HM := Lib.hid (show v ∈ l by rw [hxy, ← HX.out]; exact List.getElem_mem hlt)
        have n1 : (v == x) = true := by simpa using hxy
        clear hxy
        go_wp2
        go_ret
        exact ⟨⟨_, rfl, fun _ => HM.out, fun _ => by omega⟩, rfl⟩
      · have HM := Lib.hid (not_mem_next hlt HN.out (by rw [HX.out]; exact hxy))
        have n1 : (v == x) = false := by simpa using hxy
        clear hxy
        go_wp2
        go_round
        case rel => exact ⟨k + 1, by omega, by go_num, HM.out⟩
        case measure => simp [intOf]; omega
    · obtain rfl : k = l.length := by omega
      have HQ := Lib.hid (show v ∉ l by have := HN.out; rwa [List.take_length] at this)
      go_wp2
      go_ret
      exact ⟨⟨_, rfl, fun h => absurd h (by omega), fun h => absurd h HQ.out⟩, rfl⟩

set_option maxHeartbeats 1000000 in
theorem contains_any (A : Option Addr) (l : List Int) (c : Nat) (v : Int) (w : World) (hA : Sl w w.heap.size 1 CI A l) (hl : l.length ≤ 140737488351232) :
    Calls Tryz.prog 140 #[.slice A l.length c, .int .i64 v] w fun e w' => e = .returned (.bool (decide (v ∈ l))) ∧ w = w' := by
  go_enter Tryz.func140, Tryz.ntmps140
  go_wp2_with fail
  refine (index_any A l c v _ hA hl).mono ?_
  rintro e w1 ⟨⟨i, rfl, hi⟩, rfl⟩
  by_cases h : 0 ≤ i
  · have HD := Lib.hid (show decide (v ∈ l) = true by simpa using hi.1 h)
    clear hi
    go_wp2
    go_ret
    exact ⟨by rw [HD.out]; rfl, rfl⟩
  · have HD := Lib.hid (show decide (v ∈ l) = false by simpa using fun hm => h (hi.2 hm))
    have hd : decide (0 ≤ i) = false := by simpa using h
    clear hi
    go_wp2
    go_ret
    exact ⟨by rw [HD.out]; rfl, rfl⟩

end Go.Proofs.YtekambdnmaompaaGreat
