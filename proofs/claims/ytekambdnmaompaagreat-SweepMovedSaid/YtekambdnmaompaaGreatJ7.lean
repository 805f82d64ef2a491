/- The measures of the program and of the document. -/
import Derived.Test.YtekambdnmaompaaGreatJ4
namespace Go.Proofs.YtekambdnmaompaaGreat.SW
set_option linter.unusedVariables false
set_option linter.unusedSimpArgs false
open Go.RowKit

end Go.Proofs.YtekambdnmaompaaGreat.SW

namespace Go.Proofs.YtekambdnmaompaaGreat.SW
set_option linter.unusedVariables false
set_option linter.unusedSimpArgs false
open Go.RowKit

theorem any_congr {α : Type} {f g : α → Bool} {l : List α} (h : ∀ x ∈ l, f x = g x) : l.any f = l.any g := by
  induction l with
  | nil => rfl
  | cons x l ih => rw [List.any_cons, List.any_cons, h x (by simp), ih fun y hy => h y (by simp [hy])]
end Go.Proofs.YtekambdnmaompaaGreat.SW

namespace Go.Proofs.YtekambdnmaompaaGreat.SW
set_option linter.unusedVariables false
set_option linter.unusedSimpArgs false
open Go.RowKit

theorem below_iff (z : Sp) (r : Int) : z.below r false = true ↔ z.over ≤ r * r * z.under := by
  generalize hm : r * r * z.under = m
  simp [Sp.below, hm]
  omega
theorem sq_step {a b u : Int} (h0 : 0 ≤ a) (hab : a ≤ b) (hu : 0 ≤ u) : a * a * u ≤ b * b * u :=
  Int.mul_le_mul_of_nonneg_right (Int.mul_le_mul hab hab h0 (by omega)) hu
end Go.Proofs.YtekambdnmaompaaGreat.SW
