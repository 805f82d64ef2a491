/- Plain: fouls of wider profiles, of rails that meet, and of cars on ways. -/
import Derived.Test.YtekambdnmaompaaGreatJM
import Derived.Test.YtekambdnmaompaaGreatL2A
import Derived.Test.YtekambdnmaompaaGreatJG
import Derived.Test.YtekambdnmaompaaGreatK13
import Derived.Test.YtekambdnmaompaaGreatJ8
namespace Go.Proofs.YtekambdnmaompaaGreat.SW
set_option linter.unusedVariables false
set_option linter.unusedSimpArgs false
open Go.RowKit

theorem few_le {p : Pl} (h : fewB p = true) : p.rails.length ≤ 12 := by
  unfold fewB at h
  simp only [Bool.and_eq_true, decide_eq_true_eq] at h
  exact h.2.2.1
theorem foulsL_le (p : Pl) (l : List S) (h1 : p.rails.length ≤ 12) (h2 : l.length ≤ 6) : (foulsL p l).length ≤ 6000 := by
  have h := f_len (R := rF p l) (N := p.rails.length) (n := l.length) (a := p.rails.length) (x := 0) (j := 0) (y := 0) h1 h2 (Nat.le_refl _) (Nat.zero_le _) (Nat.zero_le _) (Nat.zero_le _) 0
  unfold foulsL
  simp only [List.length_append] at h
  omega
def fS (s : S) : List Value := [.int .i64 s.x, .int .i64 s.y]
end Go.Proofs.YtekambdnmaompaaGreat.SW
