/- Texts S1 S2. -/
import Derived.Test.YtekambdnmaompaaGreatMem
import Derived.Test.YtekambdnmaompaaGreatProg
import Derived.WalkKit
import Derived.Lib.Hide
import Derived.Outline
import Derived.BigQuiet
import Derived.Deep.QuietTactic
import Derived.Deep.LoopGhost
import Derived.Test.YtekambdnmaompaaGreatOwn
import Derived.Deep.DeepMust
namespace Go.Proofs.YtekambdnmaompaaGreat
set_option linter.unusedVariables false
set_option linter.unusedSimpArgs false
open Go.RowKit

def SamePost {α : Type} (l m : List α) (w : World) (e : Ending) (w' : World) : Prop := (∃ b, e = .returned (.bool b) ∧ (b = true ↔ l = m)) ∧ Below w.heap.size w w'
theorem take_next {α : Type} {l m : List α} {k : Nat} (h : l.take k = m.take k) (hl : k < l.length) (hm : k < m.length) (he : l[k] = m[k]) : l.take (k + 1) = m.take (k + 1) := by
  rw [List.take_succ_eq_append_getElem hl, List.take_succ_eq_append_getElem hm, h, he]
theorem ne_at {α : Type} {l m : List α} {k : Nat} (hl : k < l.length) (hm : k < m.length) (he : l[k] ≠ m[k]) : l ≠ m := by
  intro e; subst e; exact he rfl

/-- a part of a rail -/
structure C3 where
  rail : Int
  frm : Int
  to : Int
def CC (s : C3) (cs : List Value) : Prop := cs = [.int .i64 s.rail, .int .i64 s.frm, .int .i64 s.to]
end Go.Proofs.YtekambdnmaompaaGreat

namespace Go.Proofs.YtekambdnmaompaaGreat
set_option linter.unusedVariables false
set_option linter.unusedSimpArgs false
open Go.RowKit

end Go.Proofs.YtekambdnmaompaaGreat
