/- What a car touches, as the specification says, plain. -/
import Derived.Test.YtekambdnmaompaaGreatJ6
import Derived.Test.YtekambdnmaompaaGreatJ8
namespace Go.Proofs.YtekambdnmaompaaGreat.SW
set_option linter.unusedVariables false
set_option linter.unusedSimpArgs false
open Go.RowKit

end Go.Proofs.YtekambdnmaompaaGreat.SW
