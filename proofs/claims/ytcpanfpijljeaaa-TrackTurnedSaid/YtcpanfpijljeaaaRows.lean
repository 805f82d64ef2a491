/-
  No cell of these rows narrows 'for every input' (looked for: loops, veiled, ifaces, maps, wideKeys, modest, calm, conditions, laid).
  DERIVED. THE GIVEN ROWS OF THIS SEAT. 6 by the template 'for every input the law returns true; each argument reads behind the call as it read before'; 0 by the template 'total and deterministic' (their statements: YtcpanfpijljeaaaTotals.lean).
  GIVEN WITH THE SEED: the statements are not yours to turn. If you find one false, say at which input.
  Laid BY PROGRAM, IN A SANDBOX (cutbox-rows.mjs): the forced cells as the released guide's own fill.sh prints them over the translation 404907b234ebcca8… (all of the seat's roots in one cut). By AI agents, Wed Nov 11 2026. No macro, syntax, notation, axiom, sorry.
-/
import Derived.Test.YtcpanfpijljeaaaChecked
import GoSem.Claim
import GoSem.ClaimJoined
import GoSem.ClaimMapViews
import Derived.JoinedTies
import Derived.KernelRfl
namespace Go.Proofs.Ytcpanfpijljeaaa
/- THE CELL 'sum', in the pinned program and in every row, IS THE sha256 OF THE DUMP (.gsa) THAT YtcpanfpijljeaaaProg.lean LOADS. Nothing in Lean hashes anything: it is a label: what it is worth is what the hold of that sum in a sandbox is worth. -/
noncomputable def Try.pinned : Pinned := { name := "ytcpanfpijljeaaa", sum := "404907b234ebcca872f257670ce047b33a7d80a525d29640b0043d759247ff06", checked := Try.checked }
namespace Rows
def none {H : Type} : Left H := { results := [], args := [] }

/-- 'tramlinelaw01.TrackChecks': WHATEVER THE INPUT: true; the input reads as it did. -/
def trackChecksSpec : ChangeSpec := { name := "trackChecks", fn := fun _ => fun
  | [d1, d2] => { results := [.lit (.bool true)], args := [d1, d2] }
  | _ => none }
def trackChecksRow : OpenClaim := { program := "ytcpanfpijljeaaa", sum := "404907b234ebcca872f257670ce047b33a7d80a525d29640b0043d759247ff06", func := "tramline/tramlinelaw01.TrackChecks", spec := "trackChecks", unfollowed := true, recurses := true, apart := false }
def TrackChecksSaid : Prop := trackChecksRow.holds Try.pinned (OpenSpec.ofChange trackChecksSpec)

/-- ITS FALSE NEIGHBOUR: 'it returns false'. Refute it at one input. -/
def trackChecksWrong : ChangeSpec := { name := "trackChecks", fn := fun _ => fun
  | [d1, d2] => { results := [.lit (.bool false)], args := [d1, d2] }
  | _ => none }
def TrackChecksWrongFalsely : Prop := trackChecksRow.holds Try.pinned (OpenSpec.ofChange trackChecksWrong)

/-- 'tramlinelaw01.TrackNext': WHATEVER THE INPUT: true; the input reads as it did. -/
def trackNextSpec : ChangeSpec := { name := "trackNext", fn := fun _ => fun
  | [d1, d2, d3] => { results := [.lit (.bool true)], args := [d1, d2, d3] }
  | _ => none }
def trackNextRow : OpenClaim := { program := "ytcpanfpijljeaaa", sum := "404907b234ebcca872f257670ce047b33a7d80a525d29640b0043d759247ff06", func := "tramline/tramlinelaw01.TrackNext", spec := "trackNext", unfollowed := true, recurses := true, apart := false }
def TrackNextSaid : Prop := trackNextRow.holds Try.pinned (OpenSpec.ofChange trackNextSpec)

/-- ITS FALSE NEIGHBOUR: 'it returns false'. Refute it at one input. -/
def trackNextWrong : ChangeSpec := { name := "trackNext", fn := fun _ => fun
  | [d1, d2, d3] => { results := [.lit (.bool false)], args := [d1, d2, d3] }
  | _ => none }
def TrackNextWrongFalsely : Prop := trackNextRow.holds Try.pinned (OpenSpec.ofChange trackNextWrong)

/-- 'tramlinelaw01.TrackBack': WHATEVER THE INPUT: true; the input reads as it did. -/
def trackBackSpec : ChangeSpec := { name := "trackBack", fn := fun _ => fun
  | [d1, d2, d3] => { results := [.lit (.bool true)], args := [d1, d2, d3] }
  | _ => none }
def trackBackRow : OpenClaim := { program := "ytcpanfpijljeaaa", sum := "404907b234ebcca872f257670ce047b33a7d80a525d29640b0043d759247ff06", func := "tramline/tramlinelaw01.TrackBack", spec := "trackBack", unfollowed := true, recurses := true, apart := false }
def TrackBackSaid : Prop := trackBackRow.holds Try.pinned (OpenSpec.ofChange trackBackSpec)

/-- ITS FALSE NEIGHBOUR: 'it returns false'. Refute it at one input. -/
def trackBackWrong : ChangeSpec := { name := "trackBack", fn := fun _ => fun
  | [d1, d2, d3] => { results := [.lit (.bool false)], args := [d1, d2, d3] }
  | _ => none }
def TrackBackWrongFalsely : Prop := trackBackRow.holds Try.pinned (OpenSpec.ofChange trackBackWrong)

/-- 'tramlinelaw01.TrackProved': WHATEVER THE INPUT: true; the input reads as it did. -/
def trackProvedSpec : ChangeSpec := { name := "trackProved", fn := fun _ => fun
  | [d1, d2] => { results := [.lit (.bool true)], args := [d1, d2] }
  | _ => none }
def trackProvedRow : OpenClaim := { program := "ytcpanfpijljeaaa", sum := "404907b234ebcca872f257670ce047b33a7d80a525d29640b0043d759247ff06", func := "tramline/tramlinelaw01.TrackProved", spec := "trackProved", unfollowed := true, recurses := true, apart := false }
def TrackProvedSaid : Prop := trackProvedRow.holds Try.pinned (OpenSpec.ofChange trackProvedSpec)

/-- ITS FALSE NEIGHBOUR: 'it returns false'. Refute it at one input. -/
def trackProvedWrong : ChangeSpec := { name := "trackProved", fn := fun _ => fun
  | [d1, d2] => { results := [.lit (.bool false)], args := [d1, d2] }
  | _ => none }
def TrackProvedWrongFalsely : Prop := trackProvedRow.holds Try.pinned (OpenSpec.ofChange trackProvedWrong)

/-- 'tramlinelaw01.TrackForever': WHATEVER THE INPUT: true; the input reads as it did. -/
def trackForeverSpec : ChangeSpec := { name := "trackForever", fn := fun _ => fun
  | [d1, d2] => { results := [.lit (.bool true)], args := [d1, d2] }
  | _ => none }
def trackForeverRow : OpenClaim := { program := "ytcpanfpijljeaaa", sum := "404907b234ebcca872f257670ce047b33a7d80a525d29640b0043d759247ff06", func := "tramline/tramlinelaw01.TrackForever", spec := "trackForever", unfollowed := true, recurses := true, apart := false }
def TrackForeverSaid : Prop := trackForeverRow.holds Try.pinned (OpenSpec.ofChange trackForeverSpec)

/-- ITS FALSE NEIGHBOUR: 'it returns false'. Refute it at one input. -/
def trackForeverWrong : ChangeSpec := { name := "trackForever", fn := fun _ => fun
  | [d1, d2] => { results := [.lit (.bool false)], args := [d1, d2] }
  | _ => none }
def TrackForeverWrongFalsely : Prop := trackForeverRow.holds Try.pinned (OpenSpec.ofChange trackForeverWrong)

/-- 'tramlinelaw01.TrackTurned': WHATEVER THE INPUT: true; the input reads as it did. -/
def trackTurnedSpec : ChangeSpec := { name := "trackTurned", fn := fun _ => fun
  | [d1, d2, d3] => { results := [.lit (.bool true)], args := [d1, d2, d3] }
  | _ => none }
def trackTurnedRow : OpenClaim := { program := "ytcpanfpijljeaaa", sum := "404907b234ebcca872f257670ce047b33a7d80a525d29640b0043d759247ff06", func := "tramline/tramlinelaw01.TrackTurned", spec := "trackTurned", unfollowed := true, recurses := true, apart := false }
def TrackTurnedSaid : Prop := trackTurnedRow.holds Try.pinned (OpenSpec.ofChange trackTurnedSpec)

/-- ITS FALSE NEIGHBOUR: 'it returns false'. Refute it at one input. -/
def trackTurnedWrong : ChangeSpec := { name := "trackTurned", fn := fun _ => fun
  | [d1, d2, d3] => { results := [.lit (.bool false)], args := [d1, d2, d3] }
  | _ => none }
def TrackTurnedWrongFalsely : Prop := trackTurnedRow.holds Try.pinned (OpenSpec.ofChange trackTurnedWrong)

/- THE SECOND FORM. 'bulk': how many values and letters a reading holds, each counted each time it is reached (what is shared counts as often as it is met; a slice's spare places count too). A statement '..UptoSaid' is the law's where the arguments, and the package variables that the reading takes, are together of bulk at most 1048576: NARROWER than '..Said'. Prove '..Said' where nothing that the law and all that it calls make is longer than what came in: it says more and counts as full. Else prove '..UptoSaid'. A law counts once. -/
mutual
def uptoBulk {H : Type} : DataW H → Nat
  | .lit (.string bytes) => bytes.length + 1
  | .lit _ => 1
  | .nil => 1
  | .ptr d => uptoBulk d + 1
  | .slice elems spare => uptoBulkAll elems + uptoBulkAll spare + 1
  | .agg parts => uptoBulkAll parts + 1
  | .iface _ d => uptoBulk d + 1
  | .map entries => uptoBulkEntries entries + 1
  | .held _ => 1
def uptoBulkAll {H : Type} : List (DataW H) → Nat
  | [] => 0
  | d :: r => uptoBulk d + uptoBulkAll r
def uptoBulkEntries {H : Type} : List (Lit × DataW H) → Nat
  | [] => 0
  | x :: r => uptoBulkEntry x + uptoBulkEntries r
def uptoBulkEntry {H : Type} : Lit × DataW H → Nat
  | (.string bytes, d) => bytes.length + uptoBulk d + 1
  | (_, d) => uptoBulk d + 1
 end
def uptoSmall : (H : Type) → List (DataW H) → Bool := fun _ ds => decide (uptoBulkAll ds ≤ 1048576)
def OpenSpec.upto (s : _root_.Go.ChangeSpec) : _root_.Go.OpenSpec := { _root_.Go.OpenSpec.ofChange s with cond := some uptoSmall }

/-- 'tramlinelaw01.TrackChecks', WHERE WHAT IT READS IS OF BULK AT MOST 1048576: true; the input reads as it did. -/
def trackChecksUptoRow : OpenClaim := { program := "ytcpanfpijljeaaa", sum := "404907b234ebcca872f257670ce047b33a7d80a525d29640b0043d759247ff06", func := "tramline/tramlinelaw01.TrackChecks", spec := "trackChecks", unfollowed := true, recurses := true, apart := false, narrowed := true }
def TrackChecksUptoSaid : Prop := trackChecksUptoRow.holds Try.pinned (OpenSpec.upto trackChecksSpec)

/-- 'tramlinelaw01.TrackNext', WHERE WHAT IT READS IS OF BULK AT MOST 1048576: true; the input reads as it did. -/
def trackNextUptoRow : OpenClaim := { program := "ytcpanfpijljeaaa", sum := "404907b234ebcca872f257670ce047b33a7d80a525d29640b0043d759247ff06", func := "tramline/tramlinelaw01.TrackNext", spec := "trackNext", unfollowed := true, recurses := true, apart := false, narrowed := true }
def TrackNextUptoSaid : Prop := trackNextUptoRow.holds Try.pinned (OpenSpec.upto trackNextSpec)

/-- 'tramlinelaw01.TrackBack', WHERE WHAT IT READS IS OF BULK AT MOST 1048576: true; the input reads as it did. -/
def trackBackUptoRow : OpenClaim := { program := "ytcpanfpijljeaaa", sum := "404907b234ebcca872f257670ce047b33a7d80a525d29640b0043d759247ff06", func := "tramline/tramlinelaw01.TrackBack", spec := "trackBack", unfollowed := true, recurses := true, apart := false, narrowed := true }
def TrackBackUptoSaid : Prop := trackBackUptoRow.holds Try.pinned (OpenSpec.upto trackBackSpec)

/-- 'tramlinelaw01.TrackProved', WHERE WHAT IT READS IS OF BULK AT MOST 1048576: true; the input reads as it did. -/
def trackProvedUptoRow : OpenClaim := { program := "ytcpanfpijljeaaa", sum := "404907b234ebcca872f257670ce047b33a7d80a525d29640b0043d759247ff06", func := "tramline/tramlinelaw01.TrackProved", spec := "trackProved", unfollowed := true, recurses := true, apart := false, narrowed := true }
def TrackProvedUptoSaid : Prop := trackProvedUptoRow.holds Try.pinned (OpenSpec.upto trackProvedSpec)

/-- 'tramlinelaw01.TrackForever', WHERE WHAT IT READS IS OF BULK AT MOST 1048576: true; the input reads as it did. -/
def trackForeverUptoRow : OpenClaim := { program := "ytcpanfpijljeaaa", sum := "404907b234ebcca872f257670ce047b33a7d80a525d29640b0043d759247ff06", func := "tramline/tramlinelaw01.TrackForever", spec := "trackForever", unfollowed := true, recurses := true, apart := false, narrowed := true }
def TrackForeverUptoSaid : Prop := trackForeverUptoRow.holds Try.pinned (OpenSpec.upto trackForeverSpec)

/-- 'tramlinelaw01.TrackTurned', WHERE WHAT IT READS IS OF BULK AT MOST 1048576: true; the input reads as it did. -/
def trackTurnedUptoRow : OpenClaim := { program := "ytcpanfpijljeaaa", sum := "404907b234ebcca872f257670ce047b33a7d80a525d29640b0043d759247ff06", func := "tramline/tramlinelaw01.TrackTurned", spec := "trackTurned", unfollowed := true, recurses := true, apart := false, narrowed := true }
def TrackTurnedUptoSaid : Prop := trackTurnedUptoRow.holds Try.pinned (OpenSpec.upto trackTurnedSpec)

end Rows
end Go.Proofs.Ytcpanfpijljeaaa
