/- Plain: lengths of lines. -/
import Derived.Test.YtfhkbbjddjddmaaGreatNum
set_option linter.unusedVariables false
set_option linter.unusedSimpArgs false
namespace Go.Proofs.YtfhkbbjddjddmaaGreat
def S0:S:=⟨0,0⟩
def sAt (l:List S) (k:Nat):S:=(l[k]?).getD S0
def lenTo (l:List S):Nat→Nat
 | 0=>0
 | k+1=>lenTo l k+far (sAt l k) (sAt l (k+1))
def lenOf (l:List S):Nat:=lenTo l (l.length - 1)
theorem sAt_eq {l:List S} {k:Nat} (h:k<l.length):sAt l k=l[k]:=by simp [sAt,h]
theorem isqGo_lt (k:Nat):∀n r,isqGo k n r<r+2 ^ k:=by
 induction k with
 | zero=>intro n r;simp [isqGo]
 | succ k ih=>
  intro n r
  unfold isqGo
  rw [Nat.pow_succ]
  split
  ·have:=ih n (r+2 ^ k);omega
  ·have:=ih n r;have:=Nat.two_pow_pos k;omega
theorem far_lt (a b:S):far a b<33554432:=by
 have:=isqGo_lt 25 (sqd a b) 0
 show isqGo 25 (sqd a b) 0<33554432
 simpa using this
theorem lenTo_le (l:List S) (k:Nat):lenTo l k≤k * 33554432:=by
 induction k with
 | zero=>simp [lenTo]
 | succ k ih=>have:=far_lt (sAt l k) (sAt l (k+1));simp only [lenTo];omega
def okD (a b:S):Bool:=decide (1≤sqd a b∧sqd a b<1000002000001)
def okTo (l:List S) (k:Nat):Prop:=∀j,j<k→okD (sAt l j) (sAt l (j+1))=true
def okL (l:List S):Bool:=(List.range (l.length - 1)).all fun j=>okD (sAt l j) (sAt l (j+1))
theorem okL_iff (l:List S):okL l=true ↔ okTo l (l.length - 1):=by simp [okL,okTo]
theorem okD_far {a b:S} (ha:sqd a b≤800000000000000):okD a b=decide (1≤far a b∧far a b≤1000000):=by
 unfold okD far
 obtain⟨h1,h2⟩:=isq_spec (sqd a b) (by omega)
 congr 1
 apply propext
 constructor
 ·rintro⟨g1,g2⟩
  refine⟨?_, ?_⟩
  ·rcases Nat.eq_zero_or_pos (isq (sqd a b)) with h|h
   ·rw [h] at h2;omega
   ·exact h
  ·rcases Nat.lt_or_ge 1000000 (isq (sqd a b)) with h|h
   ·have:=Nat.mul_le_mul (show 1000001≤isq (sqd a b) by omega) (show 1000001≤isq (sqd a b) by omega);omega
   ·exact h
 ·rintro⟨g1,g2⟩
  have e1:=Nat.mul_le_mul g1 g1
  have e2:=Nat.mul_le_mul (show isq (sqd a b)+1≤1000001 by omega) (show isq (sqd a b)+1≤1000001 by omega)
  omega
end Go.Proofs.YtfhkbbjddjddmaaGreat
