/- Contracts: the reference Step. -/
import Derived.Test.YtfhkbbjddjddmaaGreatMc
namespace Go.Proofs.YtfhkbbjddjddmaaGreat
set_option linter.unusedVariables false
set_option linter.unusedSimpArgs false
open Go.RowKit

end Go.Proofs.YtfhkbbjddjddmaaGreat
