/- Plain numbers: the integer part of a square root; what spots, nodes and rails have to be. -/
import Derived.Test.YtfhkbbjddjddmaaGreatMem
set_option linter.unusedVariables false
set_option linter.unusedSimpArgs false
namespace Go.Proofs.YtfhkbbjddjddmaaGreat
def isqGo:Nat→Nat→Nat→Nat
 | 0,_,r=>r
 | k+1,n,r=>if (r+2 ^ k) * (r+2 ^ k)≤n then isqGo k n (r+2 ^ k) else isqGo k n r
def isq (n:Nat):Nat:=isqGo 25 n 0
theorem isqGo_spec (k:Nat):∀n r,r * r≤n→n<(r+2 ^ k) * (r+2 ^ k)→isqGo k n r * isqGo k n r≤n∧n<(isqGo k n r+1) * (isqGo k n r+1):=by
 induction k with
 | zero=>intro n r h1 h2;exact⟨h1,by simpa [isqGo] using h2⟩
 | succ k ih=>
  intro n r h1 h2
  unfold isqGo
  split
  ·rename_i h
   exact ih n (r+2 ^ k) h (by rw [Nat.add_assoc];rw [Nat.pow_succ] at h2;rw [show 2 ^ k+2 ^ k=2 ^ k * 2 by omega];exact h2)
  ·rename_i h
   exact ih n r h1 (by omega)
theorem isq_spec (n:Nat) (h:n<1125899906842624):isq n * isq n≤n∧n<(isq n+1) * (isq n+1):=
 isqGo_spec 25 n 0 (by omega) (by simpa using h)
theorem isq_of {n r:Nat} (h:n<1125899906842624) (h1:r * r≤n) (h2:n<(r+1) * (r+1)):r=isq n:=by
 obtain⟨g1,g2⟩:=isq_spec n h
 rcases Nat.lt_trichotomy r (isq n) with hlt|he|hgt
 ·have:=Nat.mul_le_mul (show r+1≤isq n by omega) (show r+1≤isq n by omega);omega
 ·exact he
 ·have:=Nat.mul_le_mul (show isq n+1≤r by omega) (show isq n+1≤r by omega);omega
def spotB (s:S):Bool:=decide (-10000000≤s.x) && decide (s.x≤10000000) && decide (-10000000≤s.y) && decide (s.y≤10000000)
def sqd (a b:S):Nat:=((a.x - b.x) * (a.x - b.x)+(a.y - b.y) * (a.y - b.y)).toNat
def far (a b:S):Nat:=isq (sqd a b)
def endsZ (k:Int):Int:=if k=1 then 1 else if k=2 then 2 else if k=3 then 4 else if k=4 then 3 else if k=5 then 3 else if k=6 then 3 else 0
theorem sq_bound (x:Int) (c:Int) (h1: -c≤x) (h2:x≤c):0≤x * x∧x * x≤c * c:=by
 rcases Int.le_total 0 x with h|h
 ·exact⟨Int.mul_nonneg h h,Int.mul_le_mul h2 h2 h (by omega)⟩
 ·have h3:=Int.mul_nonneg (show 0≤ -x by omega) (show 0≤ -x by omega)
  have h4:=Int.mul_le_mul (show -x≤c by omega) (show -x≤c by omega) (show 0≤ -x by omega) (show (0:Int)≤c by omega)
  rw [Int.neg_mul_neg] at h3 h4
  exact⟨h3,h4⟩
end Go.Proofs.YtfhkbbjddjddmaaGreat
