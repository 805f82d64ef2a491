/- Contracts: small, and the specification's small functions. -/
import Derived.Test.YtfhkbbjddjddmaaGreatMem
import Derived.Test.YtfhkbbjddjddmaaGreatProg
import Derived.WalkKit
import Derived.Lib.Hide
import Derived.Outline
import Derived.BigQuiet
import Derived.Deep.QuietTactic
import Derived.Deep.LoopGhost
set_option linter.unusedVariables false
set_option linter.unusedSimpArgs false
namespace Go.Proofs.YtfhkbbjddjddmaaGreat
open Go.RowKit
end Go.Proofs.YtfhkbbjddjddmaaGreat
