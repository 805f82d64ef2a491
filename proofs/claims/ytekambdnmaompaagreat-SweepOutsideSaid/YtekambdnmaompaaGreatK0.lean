/- What is foul of a rail, plain. -/
import Derived.Test.YtekambdnmaompaaGreatG5
import Derived.Test.YtekambdnmaompaaGreatS1
import Derived.Test.YtekambdnmaompaaGreatLen
namespace Go.Proofs.YtekambdnmaompaaGreat.SW
set_option linter.unusedVariables false
set_option linter.unusedSimpArgs false
open Go.RowKit

/-- a strip is put to what is foul -/
def zput (acc : List C3) (r f t : Int) : List C3 := match acc.getLast? with
  | some x => if x.to = f then acc.dropLast ++ [⟨x.rail, x.frm, t⟩] else acc ++ [⟨r, f, t⟩]
  | none => acc ++ [⟨r, f, t⟩]
def zoneL (r : Int) (L : List S) (fo : Nat → Bool) : Nat → List C3
  | 0 => []
  | k + 1 => if fo k then zput (zoneL r L fo k) r ((lenTo L k : Nat) : Int) ((lenTo L (k + 1) : Nat) : Int) else zoneL r L fo k
theorem zput_len (acc : List C3) (r f t : Int) : (zput acc r f t).length ≤ acc.length + 1 := by
  unfold zput
  split
  · split
    · simp
    · simp
  · simp
theorem zoneL_len (r : Int) (L : List S) (fo : Nat → Bool) : ∀ k, (zoneL r L fo k).length ≤ k
  | 0 => by simp [zoneL]
  | k + 1 => by
    have h1 := zoneL_len r L fo k
    unfold zoneL
    split
    · have h2 := zput_len (zoneL r L fo k) r ((lenTo L k : Nat) : Int) ((lenTo L (k + 1) : Nat) : Int)
      omega
    · omega
theorem zput_snoc (l : List C3) (x : C3) (r f t : Int) : zput (l ++ [x]) r f t = if x.to = f then l ++ [⟨x.rail, x.frm, t⟩] else (l ++ [x]) ++ [⟨r, f, t⟩] := by
  unfold zput
  rw [List.getLast?_concat]
  simp only [List.dropLast_concat]
theorem zput_nil (r f t : Int) : zput [] r f t = [⟨r, f, t⟩] := rfl
theorem any_range_succ (f : Nat → Bool) (k : Nat) : (List.range (k + 1)).any f = ((List.range k).any f || f k) := by
  rw [List.range_succ, List.any_append]
  simp
theorem Own.setTo {w : World} {base g cap n : Nat} {l : List C3} {x : C3} (t : Int) (hn : l.length = n) (h : Own w base 79 3 fC (.slice (some ⟨g, 0, none⟩) (n + 1) cap) (l ++ [x])) :
    Own (w.setCell ⟨g, n * 3 + 2, none⟩ (.int .i64 t)) base 79 3 fC (.slice (some ⟨g, 0, none⟩) (n + 1) cap) (l ++ [⟨x.rail, x.frm, t⟩]) ∧ w.grownBy (w.setCell ⟨g, n * 3 + 2, none⟩ (.int .i64 t)) (some g) := by
  have hl : (l ++ [x]).length = n + 1 := by simp [hn]
  unfold Own at h
  rw [hl] at h
  have h2 := World.ownsRow.stored h (n * 3 + 2) (.int .i64 t)
  refine ⟨?_, h2.2⟩
  unfold Own
  have hl2 : (l ++ [(⟨x.rail, x.frm, t⟩ : C3)]).length = n + 1 := by simp [hn]
  rw [hl2]
  have hf : (l.flatMap fC).length = n * 3 := by
    have := flat_len (f := fC) (size := 3) fC_len l
    rw [this, hn]
  have e : ((l ++ [x]).flatMap fC).set (n * 3 + 2) (.int .i64 t) = (l ++ [(⟨x.rail, x.frm, t⟩ : C3)]).flatMap fC := by
    rw [List.flatMap_append, List.flatMap_append, List.set_append_right _ _ (by omega), hf]
    congr 1
    simp [fC]
  rw [← e]
  exact h2.1
end Go.Proofs.YtekambdnmaompaaGreat.SW
