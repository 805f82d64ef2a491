/- Contract: the reference's drive. -/
import Derived.Test.YtfhkbbjddjddmaaGreatM57
set_option linter.unusedVariables false
set_option linter.unusedSimpArgs false
namespace Go.Proofs.YtfhkbbjddjddmaaGreat
open Go.RowKit Go.Shelf Go.Lib Go.BigFrame
section
variable {t:Tr} {a:Int} {sl lim:Int→Int} {s m y:Int} {n:Nat}
end
end Go.Proofs.YtfhkbbjddjddmaaGreat
