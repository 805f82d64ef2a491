/- Contract: the reference's Drive. -/
import Derived.Test.YtfhkbbjddjddmaaGreatM62
set_option linter.unusedVariables false
set_option linter.unusedSimpArgs false
namespace Go.Proofs.YtfhkbbjddjddmaaGreat
open Go.RowKit Go.Shelf Go.Lib Go.BigFrame
end Go.Proofs.YtfhkbbjddjddmaaGreat
