/- Texts A2 A3. -/
import Derived.Test.YtfhkbbjddjddmaaGreatNum
import Derived.Test.YtfhkbbjddjddmaaGreatProg
import Derived.WalkKit
import Derived.Lib.Hide
import Derived.Outline
import Derived.BigQuiet
import Derived.Deep.QuietTactic
import Derived.Deep.LoopGhost
set_option linter.unusedVariables false
set_option linter.unusedSimpArgs false
open Go.Value renaming int→O
open Go.IntKind renaming i64→U
open Go.Lib renaming hid→Z
namespace Go.Proofs.YtfhkbbjddjddmaaGreat
open Go.RowKit
theorem ret_int {k:IntKind} {a b:Int} (h:a=b):Ending.returned (.int k a)= .returned (.int k b):=by rw [h]
def inV (n lo hi:Int):Bool:=decide (lo≤n) && decide (n≤hi)
theorem inV_any (n lo hi:Int) (w:World) :
  Calls Tryz.prog 89 #[O U n,O U lo,O U hi] w fun e w'=>e= .returned (.bool (inV n lo hi))∧w=w':=by
 by_cases h:lo≤n
 ·have HE:=Z (show inV n lo hi=decide (n≤hi) by simp [inV,h])
  go_enter Tryz.func89,Tryz.ntmps89
  go_wp2
  go_ret
  exact⟨by rw [HE.out];rfl,rfl⟩
 ·have HE:=Z (show inV n lo hi=false by simp [inV,h])
  go_enter Tryz.func89,Tryz.ntmps89
  go_wp2
  go_ret
  exact⟨by rw [HE.out];rfl,rfl⟩
theorem ends_any (k:Int) (w:World) :
  Calls Tryz.prog 91 #[O U k] w fun e w'=>e= .returned (O U (endsZ k))∧w=w':=by
 by_cases h1:k=1
 ·subst h1;go_enter Tryz.func91,Tryz.ntmps91;go_wp2;go_ret;exact⟨rfl,rfl⟩
 by_cases h2:k=2
 ·subst h2;go_enter Tryz.func91,Tryz.ntmps91;go_wp2;go_ret;exact⟨rfl,rfl⟩
 by_cases h3:k=3
 ·subst h3;go_enter Tryz.func91,Tryz.ntmps91;go_wp2;go_ret;exact⟨rfl,rfl⟩
 by_cases h4:k=4
 ·subst h4;go_enter Tryz.func91,Tryz.ntmps91;go_wp2;go_ret;exact⟨rfl,rfl⟩
 by_cases h5:k=5
 ·subst h5;go_enter Tryz.func91,Tryz.ntmps91;go_wp2;go_ret;exact⟨rfl,rfl⟩
 by_cases h6:k=6
 ·subst h6;go_enter Tryz.func91,Tryz.ntmps91;go_wp2;go_ret;exact⟨rfl,rfl⟩
 have HE:=Z (show endsZ k=0 by simp [endsZ,h1,h2,h3,h4,h5,h6])
 go_enter Tryz.func91,Tryz.ntmps91
 go_wp2
 go_ret
 exact⟨by rw [HE.out];rfl,rfl⟩
theorem rt_bound {n r:Nat} (hn:n<1099511627776) (h:r * r≤n):r≤1048575:=by
 rcases Nat.lt_or_ge 1048575 r with h1|h1
 ·have:=Nat.mul_le_mul (show 1048576≤r by omega) (show 1048576≤r by omega);omega
 ·exact h1
def Rt (n r b:Nat):Prop:=r * r≤n∧((b=0∧n<(r+1) * (r+1))∨(0<b∧n<(r+2 * b) * (r+2 * b)∧∃k,b=2 ^ k∧k≤19))
theorem Rt.up {n r b:Nat} (h:Rt n r b) (hb:0<b) (hx:(r+b) * (r+b)≤n):Rt n (r+b) (b / 2):=by
 obtain⟨h1,⟨rfl,_⟩|⟨_,h2,k,rfl,hk⟩⟩:=h
 ·omega
 ·refine⟨hx, ?_⟩
  cases k with
  | zero=>exact .inl ⟨by simp,by simpa [Nat.add_assoc] using h2⟩
  | succ k=>
   have e:2 ^ (k+1)=2 * 2 ^ k:=by rw [Nat.pow_succ,Nat.mul_comm]
   have hp:=Nat.two_pow_pos k
   rw [e] at h2 ⊢
   rw [Nat.mul_div_cancel_left _ (by omega)]
   exact .inr ⟨hp,by rw [show r+2 * 2 ^ k+2 * 2 ^ k=r+2 * (2 * 2 ^ k) by omega];exact h2,k,rfl,by omega⟩
theorem Rt.stay {n r b:Nat} (h:Rt n r b) (hb:0<b) (hx:n<(r+b) * (r+b)):Rt n r (b / 2):=by
 obtain⟨h1,⟨rfl,_⟩|⟨_,h2,k,rfl,hk⟩⟩:=h
 ·omega
 ·refine⟨h1, ?_⟩
  cases k with
  | zero=>exact .inl ⟨by simp,by simpa using hx⟩
  | succ k=>
   have e:2 ^ (k+1)=2 * 2 ^ k:=by rw [Nat.pow_succ,Nat.mul_comm]
   have hp:=Nat.two_pow_pos k
   rw [e] at hx ⊢
   rw [Nat.mul_div_cancel_left _ (by omega)]
   exact .inr ⟨hp,hx,k,rfl,by omega⟩
theorem Rt.small {n r b:Nat} (h:Rt n r b):b≤524288:=by
 obtain⟨h1,⟨rfl,_⟩|⟨_,h2,k,rfl,hk⟩⟩:=h
 ·omega
 ·exact Nat.pow_le_pow_right (by omega) hk
theorem sq_cast (r b:Nat):((r:Int)+(b:Int)) * ((r:Int)+(b:Int))=(((r+b) * (r+b):Nat):Int):=by simp
set_option maxHeartbeats 1000000 in
theorem root_any (n:Nat) (w:World) (hn:n<1099511627776) :
  Calls Tryz.prog 124 #[O U n] w fun e w'=>e= .returned (O U (isq n:Nat))∧w=w':=by
 go_enter Tryz.func124,Tryz.ntmps124
 go_wp2
 go_loop [3,4] (fun r b=>∃r' b':Nat,r=O U r'∧b=O U b'∧Rt n r' b') (fun _ b=>(intOf b).toNat)
 case atStart=>exact⟨0,524288,rfl,rfl,by omega,.inr ⟨by omega,by omega,19,rfl,by omega⟩⟩
 case round=>
  obtain⟨r,b,rfl,rfl,h⟩:=hrel
  have hr:=rt_bound hn h.1
  have hbs:=h.small
  have hx0:(0:Int)≤((r:Int)+(b:Int)) * ((r:Int)+(b:Int)):=Int.mul_nonneg (by omega) (by omega)
  have hx1:((r:Int)+(b:Int)) * ((r:Int)+(b:Int))≤1573863 * 1573863:=Int.mul_le_mul (by omega) (by omega) (by omega) (by omega)
  have hS:=Z (sq_cast r b)
  have H:=Z h;clear h
  by_cases hb:0<b
  ·go_wp2
   ·have hle:((r:Int)+(b:Int)) * ((r:Int)+(b:Int))≤n:=by assumption
    go_round
    case rel=>exact⟨r+b,b / 2,by go_num,by go_num,H.out.up hb (by have:=hS.out;omega)⟩
    case measure=>simp [intOf];omega
   ·have hle:(n:Int)<((r:Int)+(b:Int)) * ((r:Int)+(b:Int)):=by assumption
    go_round
    case rel=>exact⟨r,b / 2,by go_num,by go_num,H.out.stay hb (by have:=hS.out;omega)⟩
    case measure=>simp [intOf];omega
  ·obtain rfl:b=0:=by omega
   go_wp2
   go_ret
   refine⟨ret_int ?_,rfl⟩
   obtain⟨h1,⟨_,h2⟩|⟨h2,_⟩⟩:=H.out
   ·rw [isq_of (by omega) h1 h2]
   ·omega
open Go.RowKit
set_option maxHeartbeats 1000000 in
theorem Root_any (n:Nat) (w:World) (hn:n<900000000000000) :
  Calls Tryz.prog 110 #[O U n] w fun e w'=>e= .returned (O U (isq n:Nat))∧w=w':=by
 go_enter Tryz.func110,Tryz.ntmps110
 go_wp2
 go_loop [3,4] (fun l h=>∃l' h':Nat,l=O U l'∧h=O U h'∧h'≤30000000∧l'<h'∧l' * l'≤n∧n<h' * h') (fun l h=>(intOf h).toNat - (intOf l).toNat)
 case atStart=>exact⟨0,30000000,rfl,rfl,by omega,by omega,by omega,by omega⟩
 case round=>
  obtain⟨l,h,rfl,rfl,hh,hlt,h1,h2⟩:=hrel
  have H1:=Z h1;have H2:=Z h2;clear h1 h2
  by_cases hg:1<h - l
  ·have hx0:(0:Int)≤(((l:Int)+(h:Int)) / 2) * (((l:Int)+(h:Int)) / 2):=Int.mul_nonneg (by omega) (by omega)
   have hx1:(((l:Int)+(h:Int)) / 2) * (((l:Int)+(h:Int)) / 2)≤30000000 * 30000000:=Int.mul_le_mul (by omega) (by omega) (by omega) (by omega)
   have hm:(((l:Int)+(h:Int)) / 2) * (((l:Int)+(h:Int)) / 2)=((((l+h) / 2) * ((l+h) / 2):Nat):Int):=by simp
   have HM:=Z hm;clear hm
   go_wp2
   ·have hle:(((l:Int)+(h:Int)) / 2) * (((l:Int)+(h:Int)) / 2)≤n:=by assumption
    go_round
    case rel=>exact⟨(l+h) / 2,h,by go_num,rfl,hh,by omega,by have:=HM.out;omega,H2.out⟩
    case measure=>simp [intOf];omega
   ·have hle:(n:Int)<(((l:Int)+(h:Int)) / 2) * (((l:Int)+(h:Int)) / 2):=by assumption
    go_round
    case rel=>exact⟨l,(l+h) / 2,rfl,by go_num,by omega,by omega,H1.out,by have:=HM.out;omega⟩
    case measure=>simp [intOf];omega
  ·obtain rfl:h=l+1:=by omega
   go_wp2
   go_ret
   exact⟨ret_int (by rw [isq_of (by omega) H1.out H2.out]),rfl⟩
def inR (s:S):Prop:= -10000000≤s.x∧s.x≤10000000∧ -10000000≤s.y∧s.y≤10000000
theorem spotB_iff (s:S):spotB s=true ↔ inR s:=by simp [spotB,inR,and_assoc]
theorem sq_nn (x:Int):0≤x * x:=by
 rcases Int.le_total 0 x with h|h
 ·exact Int.mul_nonneg h h
 ·have h3:=Int.mul_nonneg (show 0≤ -x by omega) (show 0≤ -x by omega)
  rwa [Int.neg_mul_neg] at h3
theorem sqd_cast (a b:S):((sqd a b:Nat):Int)=(a.x - b.x) * (a.x - b.x)+(a.y - b.y) * (a.y - b.y):=by
 unfold sqd
 have h1:=sq_nn (a.x - b.x)
 have h2:=sq_nn (a.y - b.y)
 omega
theorem mul_sub_comm (x y:Int):(y - x) * (y - x)=(x - y) * (x - y):=by
 have:y - x= -(x - y):=by omega
 rw [this,Int.neg_mul_neg]
theorem sqd_comm (a b:S):sqd a b=sqd b a:=by unfold sqd;rw [mul_sub_comm a.x b.x,mul_sub_comm a.y b.y]
theorem sqd_lt {a b:S} (ha:inR a) (hb:inR b):sqd a b≤800000000000000:=by
 have h1:=sq_bound (a.x - b.x) 20000000 (by have:=ha.1;have:=hb.2.1;omega) (by have:=ha.2.1;have:=hb.1;omega)
 have h2:=sq_bound (a.y - b.y) 20000000 (by have:=ha.2.2.1;have:=hb.2.2.2;omega) (by have:=ha.2.2.2;have:=hb.2.2.1;omega)
 have:=sqd_cast a b
 omega
set_option maxHeartbeats 1000000 in
theorem Far_any (a b:S) (w:World) (ha:inR a) (hb:inR b) :
  Calls Tryz.prog 93 #[.agg #[O U a.x,O U a.y],.agg #[O U b.x,O U b.y]] w fun e w'=>e= .returned (O U (far a b:Nat))∧Below w.heap.size w w':=by
 obtain⟨a1,a2,a3,a4⟩:=id ha
 obtain⟨b1,b2,b3,b4⟩:=id hb
 have h1:=sq_bound (a.x - b.x) 20000000 (by omega) (by omega)
 have h2:=sq_bound (a.y - b.y) 20000000 (by omega) (by omega)
 have hc:=Z (sqd_cast a b)
 have hl:=sqd_lt ha hb
 go_enter Tryz.func93,Tryz.ntmps93
 go_wp2
 go_quiet (fail)
 go_wp2_with fail
 rw [←hc.out]
 refine (Root_any _ _ (by omega)).mono ?_
 rintro e w1 ⟨rfl,rfl⟩
 go_wp2
 go_ret
 exact⟨rfl,bDrewN (((Below.refl _ _).alloc (Nat.le_refl _) _).alloc (by simp) _) _⟩
set_option maxHeartbeats 1000000 in
theorem Distance_yes (a b:S) (w:World) (ha:inR a) (hb:inR b) (h1:1≤sqd a b) (h2:sqd a b<1000002000001) :
  Calls Tryz.prog 104 #[.agg #[O U a.x,O U a.y],.agg #[O U b.x,O U b.y]] w fun e w'=>e= .returned (.tuple #[O U (far a b:Nat),.bool true])∧Below w.heap.size w w':=by
 obtain⟨a1,a2,a3,a4⟩:=id ha
 obtain⟨b1,b2,b3,b4⟩:=id hb
 have q1:=sq_bound (b.x - a.x) 20000000 (by omega) (by omega)
 have q2:=sq_bound (b.y - a.y) 20000000 (by omega) (by omega)
 have hs:=sqd_cast b a
 rw [sqd_comm b a] at hs
 have h3:((b.x - a.x) * (b.x - a.x)+(b.y - a.y) * (b.y - a.y) == 0)=false:=by rw [←hs];simp;omega
 have h4:decide (1000002000001≤(b.x - a.x) * (b.x - a.x)+(b.y - a.y) * (b.y - a.y))=false:=by rw [←hs];simp;omega
 have hc:=Z hs;clear hs
 go_enter Tryz.func104,Tryz.ntmps104
 go_wp2
 go_quiet (fail)
 go_wp2_with fail
 rw [←hc.out]
 refine (root_any _ _ (by omega)).mono ?_
 rintro e w1 ⟨rfl,rfl⟩
 go_wp2
 go_ret2
 exact⟨rfl,bDrewN (((Below.refl _ _).alloc (Nat.le_refl _) _).alloc (by simp) _) _⟩
set_option maxHeartbeats 1000000 in
theorem Distance_no (a b:S) (w:World) (ha:inR a) (hb:inR b) (h1:sqd a b=0∨1000002000001≤sqd a b) :
  Calls Tryz.prog 104 #[.agg #[O U a.x,O U a.y],.agg #[O U b.x,O U b.y]] w fun e w'=>e= .returned (.tuple #[O U 0,.bool false])∧Below w.heap.size w w':=by
 obtain⟨a1,a2,a3,a4⟩:=id ha
 obtain⟨b1,b2,b3,b4⟩:=id hb
 have q1:=sq_bound (b.x - a.x) 20000000 (by omega) (by omega)
 have q2:=sq_bound (b.y - a.y) 20000000 (by omega) (by omega)
 have hs:=sqd_cast b a
 rw [sqd_comm b a] at hs
 rcases h1 with h1|h1
 ·have h3:((b.x - a.x) * (b.x - a.x)+(b.y - a.y) * (b.y - a.y) == 0)=true:=by rw [←hs];simp;omega
  clear hs
  go_enter Tryz.func104,Tryz.ntmps104
  go_wp2
  go_quiet (fail)
  go_wp2
  go_ret2
  exact⟨rfl,bDrewN (((Below.refl _ _).alloc (Nat.le_refl _) _).alloc (by simp) _) _⟩
 ·have h3:((b.x - a.x) * (b.x - a.x)+(b.y - a.y) * (b.y - a.y) == 0)=false:=by rw [←hs];simp;omega
  have h4:decide (1000002000001≤(b.x - a.x) * (b.x - a.x)+(b.y - a.y) * (b.y - a.y))=true:=by rw [←hs];simp;omega
  clear hs
  go_enter Tryz.func104,Tryz.ntmps104
  go_wp2
  go_quiet (fail)
  go_wp2
  go_ret2
  exact⟨rfl,bDrewN (((Below.refl _ _).alloc (Nat.le_refl _) _).alloc (by simp) _) _⟩
set_option maxHeartbeats 1000000 in
theorem spot_any (s:S) (w:World) :
  Calls Tryz.prog 90 #[.agg #[O U s.x,O U s.y]] w fun e w'=>e= .returned (.bool (spotB s))∧Below w.heap.size w w':=by
 have HS:=Z (show spotB s=(inV s.x (-10000000) 10000000 && inV s.y (-10000000) 10000000) by simp [spotB,inV,Bool.and_assoc])
 by_cases h:inV s.x (-10000000) 10000000=true
 ·go_enter Tryz.func90,Tryz.ntmps90
  go_wp2_with fail
  refine (inV_any _ _ _ _).mono ?_
  rintro e w1 ⟨rfl,rfl⟩
  go_wp2_with fail
  refine (inV_any _ _ _ _).mono ?_
  rintro e w1 ⟨rfl,rfl⟩
  go_wp2
  go_ret
  exact⟨by rw [HS.out,h];rfl,(Below.refl _ _).alloc (Nat.le_refl _) _⟩
 ·have h':inV s.x (-10000000) 10000000=false:=by simpa using h
  go_enter Tryz.func90,Tryz.ntmps90
  go_wp2_with fail
  refine (inV_any _ _ _ _).mono ?_
  rintro e w1 ⟨rfl,rfl⟩
  go_wp2
  go_ret
  exact⟨by rw [HS.out,h'];rfl,(Below.refl _ _).alloc (Nat.le_refl _) _⟩
set_option maxHeartbeats 1000000 in
theorem spotRight_any (s:S) (w:World) :
  Calls Tryz.prog 138 #[.agg #[O U s.x,O U s.y]] w fun e w'=>e= .returned (.bool (spotB s))∧Below w.heap.size w w':=by
 by_cases h1: -10000000≤s.x
 ·by_cases h2:s.x≤10000000
  ·by_cases h3: -10000000≤s.y
   ·by_cases h4:s.y≤10000000
    ·have HS:=Z (show spotB s=true by simp [spotB,h1,h2,h3,h4])
     go_enter Tryz.func138,Tryz.ntmps138
     go_wp2
     go_ret
     exact⟨by rw [HS.out];rfl,(Below.refl _ _).alloc (Nat.le_refl _) _⟩
    ·have HS:=Z (show spotB s=false by simp [spotB,h4])
     go_enter Tryz.func138,Tryz.ntmps138
     go_wp2
     go_ret
     exact⟨by rw [HS.out];rfl,(Below.refl _ _).alloc (Nat.le_refl _) _⟩
   ·have HS:=Z (show spotB s=false by simp [spotB,h3])
    go_enter Tryz.func138,Tryz.ntmps138
    go_wp2
    go_ret
    exact⟨by rw [HS.out];rfl,(Below.refl _ _).alloc (Nat.le_refl _) _⟩
  ·have HS:=Z (show spotB s=false by simp [spotB,h2])
   go_enter Tryz.func138,Tryz.ntmps138
   go_wp2
   go_ret
   exact⟨by rw [HS.out];rfl,(Below.refl _ _).alloc (Nat.le_refl _) _⟩
 ·have HS:=Z (show spotB s=false by simp [spotB,h1])
  go_enter Tryz.func138,Tryz.ntmps138
  go_wp2
  go_ret
  exact⟨by rw [HS.out];rfl,(Below.refl _ _).alloc (Nat.le_refl _) _⟩
end Go.Proofs.YtfhkbbjddjddmaaGreat
