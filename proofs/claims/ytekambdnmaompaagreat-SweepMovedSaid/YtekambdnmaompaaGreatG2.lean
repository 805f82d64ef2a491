/- Contracts: hasRail, follows, setting, wayLength. -/
import Derived.Test.YtekambdnmaompaaGreatNw
import Derived.Test.YtekambdnmaompaaGreatJS
import Derived.RegionTactic
import Derived.Test.YtekambdnmaompaaGreatE1
import Derived.Test.YtekambdnmaompaaGreatC6
namespace Go.Proofs.YtekambdnmaompaaGreat
set_option linter.unusedVariables false
set_option linter.unusedSimpArgs false
open Go.RowKit

def railIn (p : Pl) (r : Int) : Bool := decide (0 ≤ r ∧ r < p.rails.length)
theorem Nw.sizes {w : World} {B g : Nat} {p : Pl} (h : Nw w B g p) : 1 ≤ p.nodes.length ∧ p.nodes.length ≤ 300 ∧ 1 ≤ p.rails.length ∧ p.rails.length ≤ 400 := by
  have := of_decide_eq_true h.v.sizes; omega

/-- does n follow m? -/
def folB (p : Pl) (m : Nat) (n : Int) : Bool := decide (n ∈ nextL p m)
end Go.Proofs.YtekambdnmaompaaGreat
