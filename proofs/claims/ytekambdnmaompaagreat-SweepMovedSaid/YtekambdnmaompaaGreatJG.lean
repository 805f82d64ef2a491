/- Texts G4 G5. -/
import Derived.Test.YtekambdnmaompaaGreatG3
namespace Go.Proofs.YtekambdnmaompaaGreat
set_option linter.unusedVariables false
set_option linter.unusedSimpArgs false
open Go.RowKit

def E1' (l : List E) (k : Nat) : E := (l[k]?).getD E0
/-- the first k moves are a way, as far as they go -/
def wayTo (p : Pl) (l : List E) (k : Nat) : Prop := ∀ j, j < k → railIn p (E1' l j).rail = true ∧ (0 < j → folB p (keyE (E1' l (j - 1))) (endNo (E1' l j)) = true)
theorem wayTo.step {p : Pl} {l : List E} {k : Nat} (h : wayTo p l k) (h1 : railIn p (E1' l k).rail = true) (h2 : 0 < k → folB p (keyE (E1' l (k - 1))) (endNo (E1' l k)) = true) : wayTo p l (k + 1) := fun j hj => by
  by_cases e : j = k
  · subst e; exact ⟨h1, h2⟩
  · exact h j (by omega)
end Go.Proofs.YtekambdnmaompaaGreat

namespace Go.Proofs.YtekambdnmaompaaGreat
set_option linter.unusedVariables false
set_option linter.unusedSimpArgs false
open Go.RowKit

end Go.Proofs.YtekambdnmaompaaGreat
