/- Plain: the program's driver is the document's; what a leg comes to. -/
import Derived.Test.YtfhkbbjddjddmaaGreatM51
set_option linter.unusedVariables false
set_option linter.unusedSimpArgs false
namespace Go.Proofs.YtfhkbbjddjddmaaGreat
open Go.RowKit Go.Shelf Go.Lib Go.BigFrame
def safeR (t:Tr) (a:Int) (sl lim:Int→Int) (s:Int):Nat→Int→Int→Bool
 | 0,m,y=>if decide (s<y / (10 * t.mass)) || decide (lim (y / (10 * t.mass))<m / t.mass) then false else decide (m=0)
 | f+1,m,y=>if decide (s<y / (10 * t.mass)) || decide (lim (y / (10 * t.mass))<m / t.mass) then false else if m=0 then true else
  if nextZ t a m (-4) (sl (y / (10 * t.mass)))≤25000 * t.mass then safeR t a sl lim s f (nextZ t a m (-4) (sl (y / (10 * t.mass)))) (y+nextZ t a m (-4) (sl (y / (10 * t.mass)))) else false
def drvQ (t:Tr) (a:Int) (sl:Int→Int) (m y:Int) (n:Nat):Int:=nextZ t a m ((n:Int) - 4) (sl (y / (10 * t.mass)))
def drvF (t:Tr) (a:Int) (sl:Int→Int) (m y:Int) (n:Nat):Fs:=fsZ t a m ((n:Int) - 4) (sl (y / (10 * t.mass)))
def drvN (t:Tr) (a:Int) (sl lim:Int→Int) (s:Int) (m y:Int):Nat→Option Nat
 | 0=>none
 | n+1=>if drvQ t a sl m y n≤25000 * t.mass∧safeR t a sl lim s 36000 (drvQ t a sl m y n) (y+drvQ t a sl m y n)=true then some n else drvN t a sl lim s m y n
def legNextR (t:Tr) (a:Int) (sl:Int→Int) (m y:Int) (n:Nat) (l:LegP):LegP:=
 ⟨l.millis+100,l.at_,addL l.lg (ledgerZ (drvF t a sl m y n) m (drvQ t a sl m y n)),max l.took (tookZ t (drvF t a sl m y n) (drvQ t a sl m y n)),max l.gave (gaveZ t (drvF t a sl m y n) (drvQ t a sl m y n))⟩
def arrR (t:Tr) (s m y:Int):Bool:=decide (m=0) && decide (s - 1000≤y / (10 * t.mass))
def legR (t:Tr) (a:Int) (sl lim:Int→Int) (s:Int):Nat→LegP→Int→Int→Option (LegP × Int)
 | 0,l,m,y=>if arrR t s m y=true then some ({l with at_:=y / (10 * t.mass)},y) else none
 | f+1,l,m,y=>if arrR t s m y=true then some ({l with at_:=y / (10 * t.mass)},y) else if 10000000000000000<y then none else
  match drvN t a sl lim s m y 9 with
  | none=>none
  | some n=>legR t a sl lim s f (legNextR t a sl m y n l) (drvQ t a sl m y n) (y+drvQ t a sl m y n)
def legsR (t:Tr) (a:Int) (sl lim:Int→Int):List Int→Int→List LegP→Option (List LegP × Int)
 | [],y,acc=>some (acc,y)
 | s :: ss,y,acc=>match legR t a sl lim s 36000 Leg0 0 y with
  | none=>none
  | some p=>legsR t a sl lim ss p.2 (acc ++ [p.1])
def legsEnd (o:Option (List LegP × Int)):Option (List LegP):=match o with
 | none=>none
 | some p=>if p.2≤10000000000000000 then some p.1 else none
def drvR (t:Tr) (a:Int) (sl lim:Int→Int) (stops:List Int):Option (List LegP):=legsEnd (legsR t a sl lim (stops.drop 1) (10 * t.mass * stops.getD 0 0) [])
def ZnOk (zs:List Zn) (sl lim:Int→Int) (last:Int):Prop:=∀z x,Trk zs z x→x≤last→zslp zs z=sl x∧zlim zs z=lim x
theorem nextZ0 (t:Tr) (a m d sl:Int):0≤nextZ t a m d sl:=by unfold nextZ afterZ;omega
theorem byd_is {t:Tr} (ht:TrOk t) {s:Int} {x:Pt}:byd t s x=decide (s<x.y / (10 * t.mass)):=by
 have:=ht.m1
 unfold byd
 rw [decide_eq_decide,←Int.le_ediv_iff_mul_le (by omega)]
 omega
theorem brkM_is {t:Tr} {a:Int} {zs:List Zn} {x:Pt}:brkM t a zs x=nextZ t a x.m (-4) (zslp zs x.z):=by
 unfold brkM nextZ fsZ Fs.sum sumZ pullZ
 simp
theorem Trk.mov {t:Tr} (ht:TrOk t) {zs:List Zn} {x:Pt} {q:Int} (h:Trk zs x.z (x.y / (10 * t.mass))) (hq:0≤q):Trk zs (movP t zs x q).z ((movP t zs x q).y / (10 * t.mass)):=by
 have:=ht.m1
 unfold movP
 refine zadv_trk (by omega) _ _ (by omega) ?_
 obtain⟨g,h1,h2⟩:=h.g
 refine⟨g,h1,Int.le_trans h2 ?_⟩
 exact Int.ediv_le_ediv (by omega) (by omega)
theorem safe_is {t:Tr} (ht:TrOk t) {a:Int} {zs:List Zn} {sl lim:Int→Int} {s last:Int} (hZ:ZnOk zs sl lim last) (hs:s≤last):∀(f:Nat) (x:Pt),Trk zs x.z (x.y / (10 * t.mass))→
  safeL t zs s (ptsL t a zs f x)=safeR t a sl lim s f x.m x.y:=by
 have hm:=ht.m1
 intro f
 induction f with
 | zero=>
  intro x hx
  rw [ptsL,safeL,safeR,byd_is ht]
  by_cases hb:s<x.y / (10 * t.mass)
  ·rw [decide_eq_true hb];rfl
  ·obtain⟨h1,h2⟩:=hZ _ _ hx (by omega)
   have hfs:fstB t zs x=decide (lim (x.y / (10 * t.mass))<x.m / t.mass):=by
    unfold fstB
    rw [decide_eq_decide,h2,←Int.le_ediv_iff_mul_le (by omega)]
    omega
   rw [hfs]
   split
   ·rfl
   ·by_cases h0:x.m=0
    ·rw [if_pos h0,decide_eq_true h0]
    ·rw [if_neg h0,decide_eq_false h0];rfl
 | succ f ih=>
  intro x hx
  rw [ptsL,safeL,safeR,byd_is ht]
  by_cases hb:s<x.y / (10 * t.mass)
  ·rw [decide_eq_true hb];rfl
  ·obtain⟨h1,h2⟩:=hZ _ _ hx (by omega)
   have hfs:fstB t zs x=decide (lim (x.y / (10 * t.mass))<x.m / t.mass):=by
    unfold fstB
    rw [decide_eq_decide,h2,←Int.le_ediv_iff_mul_le (by omega)]
    omega
   rw [hfs,brkM_is,h1]
   split
   ·rfl
   ·by_cases h0:x.m=0
    ·rw [if_pos h0,if_pos h0]
    ·rw [if_neg h0,if_neg h0,if_neg h0]
     split
     ·exact ih _ (hx.mov ht (nextZ0 _ _ _ _ _))
     ·rfl
theorem chZ_is {t:Tr} (ht:TrOk t) {a:Int} {zs:List Zn} {sl lim:Int→Int} {s last:Int} (hZ:ZnOk zs sl lim last) (hs:s≤last) {x:Pt} (hx:Trk zs x.z (x.y / (10 * t.mass))) (hx2:x.y / (10 * t.mass)≤last):∀(n:Nat) (tr:Int),
  (0≤tr→safeR t a sl lim s 36000 tr (x.y+tr)=false)→chZ t a zs s x n tr=drvN t a sl lim s x.m x.y n:=by
 have hq:∀n,chQ t a zs x n=drvQ t a sl x.m x.y n:=fun n=>by unfold chQ drvQ;rw [(hZ _ _ hx hx2).1]
 have hS:∀n,chS t a zs s x n=safeR t a sl lim s 36000 (drvQ t a sl x.m x.y n) (x.y+drvQ t a sl x.m x.y n):=fun n=>by
  unfold chS
  rw [safe_is ht hZ hs 36000 (movP t zs x (chQ t a zs x n)) (hx.mov ht (nextZ0 _ _ _ _ _))]
  show safeR t a sl lim s 36000 (chQ t a zs x n) (x.y+chQ t a zs x n)=_
  rw [hq]
 intro n
 induction n with
 | zero=>intro tr _;rfl
 | succ n ih=>
  intro tr htr
  rw [drvN]
  by_cases h1:chQ t a zs x n=tr∨¬chQ t a zs x n≤25000 * t.mass
  ·rw [chZ_skip h1,ih tr htr,if_neg]
   rw [hq] at h1
   rintro⟨h2,h3⟩
   rcases h1 with h1|h1
   ·rw [h1,htr (by rw [←h1];exact nextZ0 _ _ _ _ _)] at h3;cases h3
   ·exact h1 h2
  ·cases h2:chS t a zs s x n with
   | true=>
    rw [chZ_yes h1 h2,if_pos]
    rw [hS] at h2
    rw [hq] at h1
    exact⟨by omega,h2⟩
   | false=>
    rw [chZ_no h1 h2]
    rw [hS] at h2
    rw [if_neg (by rw [h2];rintro⟨_,h⟩;cases h)]
    refine ih _ fun _=> ?_
    rw [hq];exact h2
theorem drvN_ok {t:Tr} {a:Int} {sl lim:Int→Int} {s m y:Int}:∀{n k:Nat},drvN t a sl lim s m y n=some k→k<n∧drvQ t a sl m y k≤25000 * t.mass∧safeR t a sl lim s 36000 (drvQ t a sl m y k) (y+drvQ t a sl m y k)=true:=by
 intro n
 induction n with
 | zero=>intro k h;cases h
 | succ n ih=>
  intro k h
  rw [drvN] at h
  split at h
  ·rename_i h1
   obtain rfl:=Option.some.inj h
   exact⟨by omega,h1.1,h1.2⟩
  ·have:=ih h
   exact⟨by omega,this.2⟩
theorem safeR_in {t:Tr} {a:Int} {sl lim:Int→Int} {s m y:Int} {f:Nat} (h:safeR t a sl lim s f m y=true):y / (10 * t.mass)≤s∧m / t.mass≤lim (y / (10 * t.mass)):=by
 cases f <;>
 ·rw [safeR] at h
  split at h
  ·cases h
  ·rename_i h1
   simp only [Bool.or_eq_true,decide_eq_true_eq,not_or] at h1
   omega
theorem w64_add (a b:Int):wrap64 (wrap64 (0+a)+b)=wrap64 (a+b):=by unfold wrap64;omega
theorem addsL_two (a b:Lg):addsL [a,b] Lg0=addL a b:=by
 unfold addsL addsL addsL addL Lg0
 simp only [w64_add]
theorem legR_stand {t:Tr} {a:Int} {sl lim:Int→Int} {s y:Int} {n:Nat} (h:arrR t s 0 y=false) (hn:drvN t a sl lim s 0 y 9=some n) (hq:drvQ t a sl 0 y n=0):∀(f:Nat) (l:LegP),legR t a sl lim s f l 0 y=none:=by
 intro f
 induction f with
 | zero=>intro l;rw [legR,if_neg (by rw [h];simp)]
 | succ f ih=>
  intro l
  rw [legR,if_neg (by rw [h];simp),hn]
  simp only
  rw [hq,Int.add_zero]
  split
  ·rfl
  ·exact ih _
theorem legR_far {t:Tr} {a:Int} {sl lim:Int→Int} {s:Int} {f:Nat} {l:LegP} {m y:Int} {p:LegP × Int} (hy:10000000000000000<y) (h:legR t a sl lim s f l m y=some p):p.2=y:=by
 cases f with
 | zero=>
  rw [legR] at h
  split at h
  ·obtain rfl:=Option.some.inj h;rfl
  ·cases h
 | succ f=>
  rw [legR] at h
  split at h
  ·obtain rfl:=Option.some.inj h;rfl
  ·first|(cases h;done)|(rw [if_pos hy] at h;cases h)
theorem legsR_far {t:Tr} {a:Int} {sl lim:Int→Int}:∀{ss:List Int} {y:Int} {acc:List LegP},10000000000000000<y→legsEnd (legsR t a sl lim ss y acc)=none:=by
 intro ss
 induction ss with
 | nil=>intro y acc hy;rw [legsR,legsEnd];simp only;rw [if_neg (by omega)]
 | cons s ss ih=>
  intro y acc hy
  rw [legsR]
  cases h:legR t a sl lim s 36000 Leg0 0 y with
  | none=>rfl
  | some p=>simp only;exact ih (by rw [legR_far hy h];exact hy)
theorem leg_is {t:Tr} (ht:TrOk t) {a:Int} {zs:List Zn} {sl lim:Int→Int} {s last:Int} (hZ:ZnOk zs sl lim last) (hs:s≤last):∀(f:Nat) (l:LegP) (x:Pt),Trk zs x.z (x.y / (10 * t.mass))→x.y / (10 * t.mass)≤s→x.y≤10000000000000000→
  (∃p q,legGo t a zs s f l x=some p∧legR t a sl lim s f l x.m x.y=some q∧p.1=q.1∧p.2.m=0∧p.2.y=q.2∧Trk zs p.2.z (p.2.y / (10 * t.mass))∧p.2.y / (10 * t.mass)≤s∧p.2.y≤10000000000000000)∨
  (legGo t a zs s f l x=none∧(legR t a sl lim s f l x.m x.y=none∨∃q,legR t a sl lim s f l x.m x.y=some q∧10000000000000000<q.2)):=by
 intro f
 induction f with
 | zero=>
  intro l x hx hp hy
  cases h:arrB t s x with
  | true=>
   have h0:x.m=0:=by unfold arrB at h;simp only [Bool.and_eq_true,decide_eq_true_eq] at h;exact h.1
   refine .inl ⟨_,_,legGo_arr h,by rw [legR,if_pos (show arrR t s x.m x.y=true from h)],rfl,h0,rfl,hx,hp,hy⟩
  | false=>
   refine .inr ⟨legGo_late h,.inl ?_⟩
   rw [legR,if_neg (by show ¬arrB t s x=true;rw [h];simp)]
 | succ f ih=>
  intro l x hx hp hy
  cases h:arrB t s x with
  | true=>
   have h0:x.m=0:=by unfold arrB at h;simp only [Bool.and_eq_true,decide_eq_true_eq] at h;exact h.1
   refine .inl ⟨_,_,legGo_arr h,by rw [legR,if_pos (show arrR t s x.m x.y=true from h)],rfl,h0,rfl,hx,hp,hy⟩
  | false=>
   have hne:¬arrR t s x.m x.y=true:=by show ¬arrB t s x=true;rw [h];simp
   have hc:=chZ_is (a:=a) ht hZ hs hx (by omega) 9 (-1) (fun h=>by omega)
   cases hn:drvN t a sl lim s x.m x.y 9 with
   | none=>
    rw [hn] at hc
    refine .inr ⟨legGo_none h hc,.inl ?_⟩
    rw [legR,if_neg hne,if_neg (by omega),hn]
   | some n=>
    rw [hn] at hc
    have hq:chQ t a zs x n=drvQ t a sl x.m x.y n:=by unfold chQ drvQ;rw [(hZ _ _ hx (by omega)).1]
    have hf:chF t a zs x n=drvF t a sl x.m x.y n:=by unfold chF drvF;rw [(hZ _ _ hx (by omega)).1]
    have hln:legNext t a zs x n l=legNextR t a sl x.m x.y n l:=by unfold legNext legNextR;rw [hq,hf,addsL_two]
    obtain⟨_,_,hsf⟩:=drvN_ok hn
    by_cases hb:(x.m=0∧chQ t a zs x n=0)∨10000000000000000<x.y+chQ t a zs x n
    ·refine .inr ⟨legGo_stop h hc hb, ?_⟩
     rcases hb with⟨h1,h2⟩|h1
     ·left
      rw [hq,h1] at h2
      rw [h1] at hn hne ⊢
      exact legR_stand (by simpa using hne) hn h2 _ _
     ·rw [hq] at h1
      rw [legR,if_neg hne,if_neg (by omega),hn]
      simp only
      cases hr:legR t a sl lim s f (legNextR t a sl x.m x.y n l) (drvQ t a sl x.m x.y n) (x.y+drvQ t a sl x.m x.y n) with
      | none=>exact .inl rfl
      | some q=>exact .inr ⟨q,rfl,by rw [legR_far h1 hr];exact h1⟩
    ·rw [legGo_more h hc hb,hln,legR,if_neg hne,if_neg (by omega),hn]
     simp only
     have:=ih (legNextR t a sl x.m x.y n l) (movP t zs x (chQ t a zs x n)) (hx.mov ht (nextZ0 _ _ _ _ _)) (by show (x.y+chQ t a zs x n) / (10 * t.mass)≤s;rw [hq];exact (safeR_in hsf).1) (by show x.y+chQ t a zs x n≤_;omega)
     rw [show (movP t zs x (chQ t a zs x n)).m=drvQ t a sl x.m x.y n from hq,show (movP t zs x (chQ t a zs x n)).y=x.y+drvQ t a sl x.m x.y n by rw [←hq];rfl] at this
     exact this
theorem legs_is {t:Tr} (ht:TrOk t) {a:Int} {zs:List Zn} {sl lim:Int→Int} {last:Int} (hZ:ZnOk zs sl lim last):∀(ss:List Int) (x:Pt) (acc:List LegP),(∀s∈ss,s≤last∧x.y / (10 * t.mass)≤s)→ss.Pairwise (·≤·)→x.m=0→Trk zs x.z (x.y / (10 * t.mass))→x.y≤10000000000000000→
  legsGo t a zs ss x acc=legsEnd (legsR t a sl lim ss x.y acc):=by
 intro ss
 induction ss with
 | nil=>intro x acc _ _ _ _ hy;rw [legsGo,legsR,legsEnd];simp only;rw [if_pos hy]
 | cons s ss ih=>
  intro x acc hss hp h0 hx hy
  rw [legsGo,legsR]
  have h:=leg_is (a:=a) ht hZ (hss s (by simp)).1 36000 Leg0 x hx (hss s (by simp)).2 hy
  rw [h0] at h
  rcases h with⟨p,q,h1,h2,h3,h4,h5,h6,h7,h8⟩|⟨h1,h2⟩
  ·rw [h1,h2]
   simp only
   rw [ih p.2 _ (fun s' hs'=>⟨(hss s' (by simp [hs'])).1,Int.le_trans h7 (List.rel_of_pairwise_cons hp hs')⟩) hp.of_cons h4 h6 h8,h5,h3]
  ·rw [h1]
   rcases h2 with h2|⟨q,h2,h3⟩
   ·rw [h2];rfl
   ·rw [h2]
    simp only
    exact (legsR_far h3).symm
theorem legsZ_is {t:Tr} (ht:TrOk t) {a:Int} {zs:List Zn} {sl lim:Int→Int} {last:Int} (hZ:ZnOk zs sl lim last) {stops:List Int} (h1:∀s∈stops,stops.getD 0 0≤s∧s≤last) (h2:stops.Pairwise (·≤·)) (h3:∃g,zs[0]? = some g∧g.fr≤stops.getD 0 0) :
  legsZ t a zs stops=drvR t a sl lim stops:=by
 have hm:=ht.m1
 unfold legsZ drvR
 split
 ·rename_i h
  exact (legsR_far h).symm
 ·rename_i h
  have hpl:(10 * t.mass * stops.getD 0 0+0) / (10 * t.mass)=stops.getD 0 0:=by
   rw [Int.add_zero,Int.mul_ediv_cancel_left _ (by omega)]
  have:=legs_is (a:=a) ht hZ (stops.drop 1) (movP t zs ⟨0,10 * t.mass * stops.getD 0 0,0⟩ 0) [] (fun s hs=>by
   have hm:=h1 s (List.mem_of_mem_drop hs)
   refine⟨hm.2, ?_⟩
   show (10 * t.mass * stops.getD 0 0+0) / (10 * t.mass)≤s
   rw [hpl];exact hm.1) (h2.sublist (List.drop_sublist 1 stops)) rfl (by
   refine zadv_trk (by omega) _ _ (by show zs.length≤0+zs.length+1;omega) ?_
   obtain⟨g,e1,e2⟩:=h3
   exact⟨g,e1,by show g.fr≤(10 * t.mass * stops.getD 0 0+0) / (10 * t.mass);rw [hpl];exact e2⟩) (by show 10 * t.mass * stops.getD 0 0+0≤_;omega)
  rw [this]
  show legsEnd (legsR t a sl lim (stops.drop 1) (10 * t.mass * stops.getD 0 0+0) [])=_
  rw [Int.add_zero]
def balL (l:Lg):Int:=l.pull - l.brake - l.drag - l.hill - l.round - l.hold
def inL (l:Lg):Prop:= -9223372036854775808≤l.pull∧l.pull≤9223372036854775807
theorem ledger_bal (t:Tr) (a m d sl:Int):balL (ledgerZ (fsZ t a m d sl) m (nextZ t a m d sl))=nextZ t a m d sl * nextZ t a m d sl - m * m:=by
 unfold ledgerZ balL
 split
 ·rename_i h
  rw [h]
  unfold Fs.sum sumZ
  generalize (fsZ t a m d sl).p=p;generalize (fsZ t a m d sl).b=b;generalize (fsZ t a m d sl).d=d;generalize (fsZ t a m d sl).h=e
  simp only
  grind
 ·rename_i h
  have h0:nextZ t a m d sl=0:=by
   unfold nextZ afterZ at h ⊢
   omega
  rw [h0]
  simp
theorem addL_bal (a b:Lg):∃k,balL (addL a b)=balL a+balL b+18446744073709551616 * k:=by
 unfold addL balL wrap64
 simp only
 refine⟨-((a.pull+b.pull+9223372036854775808) / 18446744073709551616)+(a.brake+b.brake+9223372036854775808) / 18446744073709551616+(a.drag+b.drag+9223372036854775808) / 18446744073709551616+(a.hill+b.hill+9223372036854775808) / 18446744073709551616+(a.round+b.round+9223372036854775808) / 18446744073709551616+(a.hold+b.hold+9223372036854775808) / 18446744073709551616, ?_⟩
 omega
theorem addL_in (a b:Lg):inL (addL a b):=by
 unfold inL addL wrap64
 simp only
 omega
theorem bal_words {l:Lg} {k:Int} (h:balL l=18446744073709551616 * k) (hi:inL l):l.pull=wrap64 (wrap64 (wrap64 (wrap64 (l.brake+l.drag)+l.hill)+l.round)+l.hold):=by
 unfold balL at h
 unfold inL at hi
 unfold wrap64
 omega
structure LegOk (t:Tr) (s v:Int) (k:Nat) (l l':LegP) (m y y':Int):Prop where
 le:y≤y'
 at_:l'.at_=y' / (10 * t.mass)
 near:s - 1000≤y' / (10 * t.mass)
 most:y' / (10 * t.mass)≤s
 ms:l'.millis=l.millis+100 * (k:Int)
 tm:y' - y≤(k:Int) * ((v+1) * t.mass - 1)
 bal:∃j,balL l'.lg=balL l.lg - m * m+18446744073709551616 * j
 inl:inL l.lg→inL l'.lg
theorem legR_ok {t:Tr} (ht:TrOk t) {a:Int} {sl lim:Int→Int} {s v lo:Int} (hv:∀x,lo≤x→x≤s→lim x≤v):∀(f:Nat) (l:LegP) (m y:Int) (p:LegP × Int),0≤m→lo≤y / (10 * t.mass)→y / (10 * t.mass)≤s→legR t a sl lim s f l m y=some p→
  ∃k,k≤f∧LegOk t s v k l p.1 m y p.2:=by
 have hm:=ht.m1
 have hend:∀(l:LegP) (m y:Int),y / (10 * t.mass)≤s→arrR t s m y=true→LegOk t s v 0 l {l with at_:=y / (10 * t.mass)} m y y:=fun l m y hy h=>by
  unfold arrR at h
  simp only [Bool.and_eq_true,decide_eq_true_eq] at h
  exact⟨Int.le_refl _,rfl,h.2,hy,by simp,by simp,⟨0,by rw [h.1];simp⟩,fun h=>h⟩
 intro f
 induction f with
 | zero=>
  intro l m y p h0 hlo hy h
  rw [legR] at h
  split at h
  ·rename_i ha
   obtain rfl:=Option.some.inj h
   exact⟨0,Nat.le_refl _,hend l m y hy ha⟩
  ·cases h
 | succ f ih=>
  intro l m y p h0 hlo hy h
  rw [legR] at h
  split at h
  ·rename_i ha
   obtain rfl:=Option.some.inj h
   exact⟨0,Nat.zero_le _,hend l m y hy ha⟩
  ·split at h
   ·cases h
   ·cases hn:drvN t a sl lim s m y 9 with
    | none=>rw [hn] at h;cases h
    | some n=>
     rw [hn] at h
     simp only at h
     obtain⟨_,_,hsf⟩:=drvN_ok hn
     obtain⟨s1,s2⟩:=safeR_in hsf
     have hq:0≤drvQ t a sl m y n:=nextZ0 _ _ _ _ _
     have hlo2:lo≤(y+drvQ t a sl m y n) / (10 * t.mass):=Int.le_trans hlo (Int.ediv_le_ediv (by omega) (by omega))
     obtain⟨k,hk,hl⟩:=ih _ _ _ p hq hlo2 s1 h
     have hvv:=hv _ hlo2 s1
     have hqv:drvQ t a sl m y n≤(v+1) * t.mass - 1:=by
      have h1:drvQ t a sl m y n / t.mass<v+1:=by omega
      have h2:=(Int.ediv_lt_iff_lt_mul (by omega)).1 h1
      omega
     refine⟨k+1,by omega, ?_,hl.at_,hl.near,hl.most, ?_, ?_, ?_,fun _=>hl.inl (addL_in _ _)⟩
     ·have:=hl.le;omega
     ·rw [hl.ms];show l.millis+100+100 * (k:Int)=_;push_cast;omega
     ·have:=hl.tm
      have e:((k+1:Nat):Int) * ((v+1) * t.mass - 1)=(k:Int) * ((v+1) * t.mass - 1)+((v+1) * t.mass - 1):=by push_cast;rw [Int.add_mul,Int.one_mul]
      rw [e]
      omega
     ·obtain⟨j,hj⟩:=hl.bal
      obtain⟨j2,hj2⟩:=addL_bal l.lg (ledgerZ (drvF t a sl m y n) m (drvQ t a sl m y n))
      have hb:=ledger_bal t a m ((n:Int) - 4) (sl (y / (10 * t.mass)))
      refine⟨j+j2, ?_⟩
      rw [hj]
      show balL (addL l.lg (ledgerZ (drvF t a sl m y n) m (drvQ t a sl m y n))) - _+_=_
      rw [hj2]
      show balL l.lg+balL (ledgerZ (fsZ t a m ((n:Int) - 4) (sl (y / (10 * t.mass)))) m (nextZ t a m ((n:Int) - 4) (sl (y / (10 * t.mass)))))+_ - drvQ t a sl m y n * drvQ t a sl m y n+_=_
      rw [hb]
      show balL l.lg+(drvQ t a sl m y n * drvQ t a sl m y n - m * m)+_ - drvQ t a sl m y n * drvQ t a sl m y n+_=_
      omega
structure LegFit (s pr v:Int) (l:LegP):Prop where
 le:l.at_≤s
 near:s - 1000≤l.at_
 m0:0≤l.millis
 m1:l.millis≤3600000
 hund:l.millis % 100=0
 back:pr≤l.at_
 bal:l.lg.pull=wrap64 (wrap64 (wrap64 (wrap64 (l.lg.brake+l.lg.drag)+l.lg.hill)+l.lg.round)+l.lg.hold)
 tm:1000 * (l.at_ - pr - 1)≤l.millis * (v+1)
theorem leg_fit {t:Tr} (ht:TrOk t) {s v pr:Int} {k:Nat} {l':LegP} {y y':Int} (hk:k≤36000) (hv:0≤v) (hp:y / (10 * t.mass)=pr) (h:LegOk t s v k Leg0 l' 0 y y'):LegFit s pr v l':=by
 have hm:=ht.m1
 have hms:=h.ms
 have hat:=h.at_
 have hms0:l'.millis=100 * (k:Int):=by rw [hms];show (0:Int)+_=_;omega
 refine⟨by rw [hat];exact h.most,by rw [hat];exact h.near,by omega,by omega,by omega,by rw [hat,←hp];exact Int.ediv_le_ediv (by omega) h.le, ?_, ?_⟩
 ·obtain⟨j,hj⟩:=h.bal
  refine bal_words (k:=j) (by rw [hj];show balL Lg0 - 0 * 0+_=_;unfold balL Lg0;simp) (h.inl ?_)
  show inL Lg0
  unfold inL Lg0
  simp
 ·rw [hms0,hat]
  have htm:=h.tm
  have e1:y' / (10 * t.mass) * (10 * t.mass)≤y':=Int.ediv_mul_le _ (by omega)
  have e2:y<(pr+1) * (10 * t.mass):=by rw [←hp];exact Int.lt_ediv_add_one_mul_self _ (by omega)
  generalize y' / (10 * t.mass)=A at *
  have e3:(A - pr - 1) * (10 * t.mass)≤(k:Int) * ((v+1) * t.mass - 1):=by
   have:(A - pr - 1) * (10 * t.mass)=A * (10 * t.mass) - (pr+1) * (10 * t.mass):=by rw [←Int.sub_mul];congr 1;omega
   rw [this]
   omega
  have e4:(k:Int) * ((v+1) * t.mass - 1)≤(k:Int) * ((v+1) * t.mass):=Int.mul_le_mul_of_nonneg_left (by omega) (by omega)
  have e5:(10 * (A - pr - 1)) * t.mass≤((k:Int) * (v+1)) * t.mass:=by
   have a1:(10 * (A - pr - 1)) * t.mass=(A - pr - 1) * (10 * t.mass):=by rw [Int.mul_comm 10,Int.mul_assoc]
   have a2:((k:Int) * (v+1)) * t.mass=(k:Int) * ((v+1) * t.mass):=Int.mul_assoc _ _ _
   rw [a1,a2];omega
  have e6:=Int.le_of_mul_le_mul_right e5 (by omega)
  have e7:100 * (k:Int) * (v+1)=100 * ((k:Int) * (v+1)):=Int.mul_assoc _ _ _
  rw [e7]
  omega
theorem legsR_acc {t:Tr} {a:Int} {sl lim:Int→Int}:∀{ss:List Int} {y:Int} {acc:List LegP},legsR t a sl lim ss y acc=(legsR t a sl lim ss y []).map fun p=>(acc ++ p.1,p.2):=by
 intro ss
 induction ss with
 | nil=>intro y acc;simp [legsR]
 | cons s ss ih=>
  intro y acc
  rw [legsR,legsR]
  cases h:legR t a sl lim s 36000 Leg0 0 y with
  | none=>rfl
  | some p=>
   simp only
   rw [ih (acc:=acc ++ [p.1]),ih (acc:= [] ++ [p.1])]
   cases legsR t a sl lim ss p.2 [] with
   | none=>rfl
   | some q=>simp
def prevAt (l:List LegP) (p0:Int) (i:Nat):Int:=if i=0 then p0 else ((l[i - 1]?).map (·.at_)).getD 0
theorem legsR_ok {t:Tr} (ht:TrOk t) {a:Int} {sl lim:Int→Int} {v lo last:Int} (hv0:0≤v) (hv:∀x,lo≤x→x≤last→lim x≤v):∀(ss:List Int) (y:Int) (L:List LegP) (z:Int),lo≤y / (10 * t.mass)→(∀s∈ss,s≤last∧y / (10 * t.mass)≤s)→ss.Pairwise (·≤·)→legsR t a sl lim ss y []=some (L,z)→
  L.length=ss.length∧y≤z∧∀i (hi:i<L.length),∃s,ss[i]? = some s∧LegFit s (prevAt L (y / (10 * t.mass)) i) v L[i]:=by
 have hm:=ht.m1
 intro ss
 induction ss with
 | nil=>intro y L z _ _ _ h;rw [legsR] at h;obtain⟨rfl,rfl⟩:=Prod.mk.inj (Option.some.inj h);exact⟨rfl,Int.le_refl _,fun i hi=>absurd hi (by simp)⟩
 | cons s ss ih=>
  intro y L z hlo hs hp h
  rw [legsR] at h
  cases hl:legR t a sl lim s 36000 Leg0 0 y with
  | none=>rw [hl] at h;cases h
  | some p=>
   rw [hl] at h
   simp only at h
   rw [legsR_acc] at h
   cases hr:legsR t a sl lim ss p.2 [] with
   | none=>rw [hr] at h;cases h
   | some q=>
    rw [hr] at h
    obtain⟨rfl,rfl⟩:=Prod.mk.inj (Option.some.inj h)
    obtain⟨hsl,hsy⟩:=hs s (by simp)
    obtain⟨k,hk,ho⟩:=legR_ok (a:=a) ht (s:=s) (v:=v) (lo:=lo) (fun x h1 h2=>hv x h1 (by omega)) 36000 Leg0 0 y p (by omega) hlo hsy hl
    have hlo2:lo≤p.2 / (10 * t.mass):=Int.le_trans hlo (Int.ediv_le_ediv (by omega) ho.le)
    obtain⟨i1,i2,i3⟩:=ih p.2 q.1 q.2 hlo2 (fun s' hs'=>⟨(hs s' (by simp [hs'])).1,Int.le_trans ho.most (List.rel_of_pairwise_cons hp hs')⟩) hp.of_cons hr
    refine⟨by simp [i1],Int.le_trans ho.le i2,fun i hi=> ?_⟩
    have hle:=leg_fit ht hk hv0 rfl ho
    cases i with
    | zero=>exact⟨s,rfl,hle⟩
    | succ i=>
     obtain⟨s',e1,e2⟩:=i3 i (by simpa using hi)
     refine⟨s',by simpa using e1, ?_⟩
     have e3:prevAt ([] ++ [p.1] ++ q.1) (y / (10 * t.mass)) (i+1)=prevAt q.1 (p.2 / (10 * t.mass)) i:=by
      unfold prevAt
      rw [if_neg (by omega)]
      cases i with
      | zero=>simp [ho.at_]
      | succ i=>simp
     rw [e3]
     simpa using e2
def slpR (p:Pl) (l:List E) (x:Int):Int:=slpE p ((l[advF (begTo p l l.length) l.length x l.length 0]?).getD E0)
def limR (p:Pl) (l:List E) (t:Tr) (x:Int):Int:=limAll (covB (begTo p l l.length) t.len x) (limAt p l) t.speed l.length
theorem begTo_ok {p:Pl} (hV:Vld p) {l:List E} (h1:1≤l.length):BsOk (begTo p l l.length) l.length:=by
 refine⟨h1,by rw [begTo_getD (by omega),begAt_zero],fun i j hij hj=> ?_⟩
 rw [begTo_getD (by omega),begTo_getD hj]
 obtain⟨d,rfl⟩:∃d,j=i+d:=⟨j - i,by omega⟩
 clear hij
 induction d with
 | zero=>exact Int.le_refl _
 | succ d ih=>
  have h:=begAt_succ (p:=p) (l:=l) (k:=i+d) (by omega)
  have:=ih (by omega)
  have h2:=lenAt_bd hV l[i+d].rail
  rw [show i+(d+1)=i+d+1 from rfl,h]
  omega
theorem slpR_of {p:Pl} {l:List E} {x:Int} (h1:1≤l.length) {f:Nat} (h:Fr (begTo p l l.length) l.length f x):slpR p l x=slpE p ((l[f]?).getD E0):=by
 obtain⟨b1,b2,b3⟩:=advF_spec (bs:=begTo p l l.length) (x:=x) (n:=l.length) l.length 0 (by omega) (by omega) (fun j a b=>by omega)
 unfold slpR
 rw [Fr.uniq ⟨b1,b2,b3⟩ h]
theorem ascN_pair {l:List Int} (h:ascN l l.length=true):l.Pairwise (·≤·):=by
 rw [List.pairwise_iff_getElem]
 intro i j hi hj hij
 have:=ascN_lt h i j hij hj
 rw [List.getD_eq_getElem?_getD,List.getD_eq_getElem?_getD,List.getElem?_eq_getElem hi,List.getElem?_eq_getElem hj] at this
 simp at this
 omega
theorem drvZ_is {p:Pl} {l:List E} {t:Tr} {st:Int} {stops:List Int} (h:DrOk p l t st stops):drvZ p l t st stops=drvR t (adhZ t (gripZ t st)) (slpR p l) (limR p l t) stops:=by
 have ht:=TrOk.of h.tr
 have hw1:=h.way.1
 obtain⟨s1,s2,s3,s4⟩:=stopsB_in h.stops
 have hB:=begTo_ok h.v hw1
 have hla:stops.getD (stops.length - 1) 0≤(begTo p l l.length).getD l.length 0:=by rw [begTo_getD (Nat.le_refl _),begAt_all];exact s4
 have hz:ZsFor p l (begTo p l l.length) t.len (stops.getD (stops.length - 1) 0) t.speed (zonesZ p l t (stops.getD (stops.length - 1) 0)):=zones_for hB ht.l1 hla
 have hs0:stops.getD 0 0∈stops:=by
  rw [List.getD_eq_getElem?_getD,List.getElem?_eq_getElem (by omega)];exact List.getElem_mem _
 have h00:=s3 _ hs0
 have hl1:=ht.l1
 have hord:ascN stops stops.length=true:=by
  have:=h.stops
  unfold stopsB at this
  simp only [Bool.and_eq_true] at this
  exact this.2.1
 unfold drvZ
 refine legsZ_is ht (last:=stops.getD (stops.length - 1) 0) (fun z x ht2 hx=> ?_) (fun s hs=>⟨?_,(s3 s hs).2⟩) (ascN_pair hord) ?_
 ·obtain⟨g,hg,hr⟩:=hz.at_ hB (begTo_len _ _ _) hl1 ht2 hx
  obtain⟨f,hf,e⟩:=hr.sl
  refine⟨?_, ?_⟩
  ·unfold zslp;rw [hg];exact e.trans (slpR_of hw1 hf).symm
  ·unfold zlim;rw [hg];exact hr.lim
 ·obtain⟨i,hi,rfl⟩:=List.getElem_of_mem hs
  have hp:=ascN_pair hord
  rw [List.getD_eq_getElem?_getD,List.getElem?_eq_getElem (by omega)]
  by_cases e:i=0
  ·subst e;exact Int.le_refl _
  ·exact List.pairwise_iff_getElem.1 hp 0 i (by omega) hi (by omega)
 ·have h0:(0:Int)∈bordS t.len (begTo p l l.length):=(bordS_has (by unfold begTo;exact List.mem_map.2 ⟨0,by simp,begAt_zero p l⟩)).1
  have h1:=hz.has 0 h0 (by omega)
  obtain⟨k,hk,e⟩:=List.getElem_of_mem h1
  have hkl:k<(zonesZ p l t (stops.getD (stops.length - 1) 0)).length:=by simpa using hk
  refine⟨_,List.getElem?_eq_getElem (by omega), ?_⟩
  have h2:((zonesZ p l t (stops.getD (stops.length - 1) 0)).map (·.fr))[0]'(by omega)≤((zonesZ p l t (stops.getD (stops.length - 1) 0)).map (·.fr))[k]:=by
   by_cases e0:k=0
   ·subst e0;exact Int.le_refl _
   ·exact List.pairwise_iff_getElem.1 hz.sorted 0 k (by omega) hk (by omega)
  rw [e] at h2
  rw [List.getElem_map] at h2
  omega
end Go.Proofs.YtfhkbbjddjddmaaGreat
