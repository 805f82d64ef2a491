/- Contracts: Run, fields. -/
import Derived.Test.YtfhkbbjddjddmaaGreatMi
set_option linter.unusedVariables false
set_option linter.unusedSimpArgs false
namespace Go.Proofs.YtfhkbbjddjddmaaGreat
open Go.RowKit
end Go.Proofs.YtfhkbbjddjddmaaGreat
