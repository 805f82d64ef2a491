/- Plain facts of MotionArrives: no leg is faster than the greatest limit of the way, and a drive to fewer stops is the first part of the drive. -/
import Derived.Test.YtfhkbbjddjddmaaGreatM67
set_option linter.unusedVariables false
set_option linter.unusedSimpArgs false
namespace Go.Proofs.YtfhkbbjddjddmaaGreat
open Go.RowKit Go.Shelf Go.Lib Go.BigFrame
def mostZ (p:Pl) (l:List E):Nat→Int
 | 0=>0
 | k+1=>max (mostZ p l k) (limAt p l k)
theorem mostZ_pos (p:Pl) (l:List E):∀k,0≤mostZ p l k:=by
 intro k
 induction k with
 | zero=>exact Int.le_refl _
 | succ k ih=>rw [mostZ];omega
theorem mostZ_ge (p:Pl) (l:List E) {i:Nat}:∀{k},i<k→limAt p l i≤mostZ p l k:=by
 intro k
 induction k with
 | zero=>intro h;omega
 | succ k ih=>
  intro h
  rw [mostZ]
  by_cases e:i=k
  ·subst e;omega
  ·have:=ih (by omega);omega
theorem limAll_le {c:Nat→Bool} {lm:Nat→Int} {sp:Int}:∀{k:Nat},limAll c lm sp k≤sp:=by
 intro k
 induction k with
 | zero=>exact Int.le_refl _
 | succ k ih=>rw [limAll];split <;> omega
theorem limAll_one {c:Nat→Bool} {lm:Nat→Int} {sp:Int} {i:Nat} (hc:c i=true):∀{k:Nat},i<k→limAll c lm sp k≤lm i:=by
 intro k
 induction k with
 | zero=>intro h;omega
 | succ k ih=>
  intro h
  rw [limAll]
  by_cases e:i=k
  ·subst e;rw [if_pos hc];omega
  ·have:=ih (by omega);split <;> omega
theorem cov_some {bs:List Int} {x:Int} (h0:bs.getD 0 0<x):∀n:Nat,x≤bs.getD n 0→∃i,i<n∧bs.getD i 0<x∧x≤bs.getD (i+1) 0:=by
 intro n
 induction n with
 | zero=>intro h;omega
 | succ n ih=>
  intro h
  by_cases h2:x≤bs.getD n 0
  ·obtain⟨i,h3,h4⟩:=ih h2;exact⟨i,by omega,h4⟩
  ·exact⟨n,by omega,by omega,h⟩
theorem limR_most {p:Pl} {l:List E} {t:Tr} (hV:Vld p) (h1:1≤l.length) (ht:TrOk t) {x:Int} (hx:t.len≤x) (hx2:x≤wlen p (l.map endNo)):limR p l t x≤min (mostZ p l l.length) t.speed:=by
 have hB:=begTo_ok hV h1
 have hl1:=ht.l1
 have hla:x≤(begTo p l l.length).getD l.length 0:=by rw [begTo_getD (Nat.le_refl _),begAt_all];exact hx2
 obtain⟨i,hi,c1,c2⟩:=cov_some (bs:=begTo p l l.length) (x:=x) (by rw [hB.z];omega) l.length hla
 have e1:limR p l t x≤t.speed:=limAll_le
 have e2:limR p l t x≤limAt p l i:=limAll_one (by unfold covB;simp only [Bool.and_eq_true,decide_eq_true_eq];omega) hi
 have e3:=mostZ_ge p l hi
 omega
theorem legsR_cut {t:Tr} {a:Int} {sl lim:Int→Int}:∀(ss:List Int) (y:Int) (L:List LegP) (z:Int) (k:Nat),legsR t a sl lim ss y []=some (L,z)→∃z',legsR t a sl lim (ss.take k) y []=some (L.take k,z')∧legsR t a sl lim (ss.drop k) z' []=some (L.drop k,z):=by
 intro ss
 induction ss with
 | nil=>intro y L z k h;rw [legsR] at h;obtain⟨rfl,rfl⟩:=Prod.mk.inj (Option.some.inj h);exact⟨y,by simp [legsR],by simp [legsR]⟩
 | cons s ss ih=>
  intro y L z k h
  cases k with
  | zero=>exact⟨y,by simp [legsR],by simpa using h⟩
  | succ k=>
   rw [legsR] at h
   rw [List.take_succ_cons,legsR,List.drop_succ_cons]
   cases hl:legR t a sl lim s 36000 Leg0 0 y with
   | none=>rw [hl] at h;cases h
   | some p=>
    rw [hl] at h
    simp only at h ⊢
    rw [legsR_acc] at h ⊢
    cases hr:legsR t a sl lim ss p.2 [] with
    | none=>rw [hr] at h;cases h
    | some q=>
     rw [hr] at h
     obtain⟨rfl,rfl⟩:=Prod.mk.inj (Option.some.inj h)
     obtain⟨z',hz,hz2⟩:=ih p.2 q.1 q.2 k hr
     rw [hz]
     exact⟨z',by simp,by simpa using hz2⟩
theorem drvR_take {t:Tr} {a:Int} {sl lim:Int→Int} {stops:List Int} {L:List LegP} (h:drvR t a sl lim stops=some L) {k:Nat} (hk:1≤k):drvR t a sl lim (stops.take k)=some (L.take (k - 1)):=by
 unfold drvR at h ⊢
 have e1:(stops.take k).drop 1=(stops.drop 1).take (k - 1):=by rw [List.drop_take]
 have e2:(stops.take k).getD 0 0=stops.getD 0 0:=by
  rw [List.getD_eq_getElem?_getD,List.getElem?_take,if_pos (by omega),List.getD_eq_getElem?_getD]
 rw [e1,e2]
 cases hr:legsR t a sl lim (stops.drop 1) (10 * t.mass * stops.getD 0 0) [] with
 | none=>rw [hr] at h;cases h
 | some q=>
  obtain⟨M,z⟩:=q
  rw [hr,legsEnd] at h
  simp only at h
  split at h
  case isFalse=>cases h
  case isTrue hz=>
   obtain rfl:=Option.some.inj h
   obtain⟨z',h1,h2⟩:=legsR_cut _ _ _ _ (k - 1) hr
   rw [h1,legsEnd]
   simp only
   by_cases hz2:z'≤10000000000000000
   ·rw [if_pos hz2]
   ·have:=legsR_far (t:=t) (a:=a) (sl:=sl) (lim:=lim) (ss:=(stops.drop 1).drop (k - 1)) (acc:= []) (y:=z') (by omega)
    rw [h2,legsEnd] at this
    simp only at this
    rw [if_pos hz] at this
    cases this
theorem ascN_take {l:List Int} {k:Nat}:∀{n:Nat},n≤k→ascN (l.take k) n=ascN l n:=by
 intro n
 induction n with
 | zero=>intro _;rfl
 | succ n ih=>
  intro h
  have e:∀i,i<k→(l.take k).getD i 0=l.getD i 0:=fun i hi=>by
   rw [List.getD_eq_getElem?_getD,List.getElem?_take,if_pos hi,List.getD_eq_getElem?_getD]
  rw [ascN,ascN,ih (by omega),e _ (by omega),e _ (by omega)]
theorem DrOk.take {p:Pl} {l:List E} {t:Tr} {st:Int} {stops:List Int} (h:DrOk p l t st stops) {k:Nat} (h2:2≤k) (hk:k≤stops.length):DrOk p l t st (stops.take k):=by
 refine⟨h.v,h.way,h.tr,h.s0, ?_⟩
 obtain⟨s1,s2,s3,s4⟩:=stopsB_in h.stops
 have hs:=h.stops
 unfold stopsB at hs ⊢
 simp only [Bool.and_eq_true,inB_iff,decide_eq_true_eq] at hs ⊢
 have hlen:(stops.take k).length=k:=by rw [List.length_take];omega
 have e:∀i,i<k→(stops.take k).getD i 0=stops.getD i 0:=fun i hi=>by
  rw [List.getD_eq_getElem?_getD,List.getElem?_take,if_pos hi,List.getD_eq_getElem?_getD]
 rw [hlen,ascN_take (Nat.le_refl _),e _ (by omega),e _ (by omega)]
 refine⟨by omega,ascN_pre hs.2.1 hk,hs.2.2.1, ?_⟩
 have hm:stops.getD (k - 1) 0∈stops:=by
  rw [List.getD_eq_getElem?_getD,List.getElem?_eq_getElem (by omega)];exact List.getElem_mem _
 have:=(s3 _ hm).2
 omega
theorem drvZ_take {p:Pl} {l:List E} {t:Tr} {st:Int} {stops:List Int} (h:DrOk p l t st stops) {L:List LegP} (hz:drvZ p l t st stops=some L) {k:Nat} (h2:2≤k) (hk:k≤stops.length):drvZ p l t st (stops.take k)=some (L.take (k - 1)):=by
 rw [drvZ_is h] at hz
 rw [drvZ_is (h.take h2 hk)]
 exact drvR_take hz (by omega)
theorem drvZ_fit {p:Pl} {l:List E} {t:Tr} {st:Int} {stops:List Int} (h:DrOk p l t st stops) {L:List LegP} (hz:drvZ p l t st stops=some L):L.length=stops.length - 1∧∀i (hi:i<L.length),LegFit (stops.getD (i+1) 0) (prevAt L (stops.getD 0 0) i) (min (mostZ p l l.length) t.speed) L[i]:=by
 have ht:=TrOk.of h.tr
 have hm:=ht.m1
 obtain⟨s1,s2,s3,s4⟩:=stopsB_in h.stops
 have hw1:=h.way.1
 have hs0:stops.getD 0 0∈stops:=by
  rw [List.getD_eq_getElem?_getD,List.getElem?_eq_getElem (by omega)];exact List.getElem_mem _
 have h00:=s3 _ hs0
 have hord:ascN stops stops.length=true:=by
  have:=h.stops
  unfold stopsB at this
  simp only [Bool.and_eq_true] at this
  exact this.2.1
 have hp:=ascN_pair hord
 have hdiv:10 * t.mass * stops.getD 0 0 / (10 * t.mass)=stops.getD 0 0:=Int.mul_ediv_cancel_left _ (by omega)
 rw [drvZ_is h] at hz
 unfold drvR at hz
 cases hr:legsR t (adhZ t (gripZ t st)) (slpR p l) (limR p l t) (stops.drop 1) (10 * t.mass * stops.getD 0 0) [] with
 | none=>rw [hr] at hz;cases hz
 | some q=>
  obtain⟨M,z⟩:=q
  rw [hr,legsEnd] at hz
  simp only at hz
  split at hz
  case isFalse=>cases hz
  case isTrue hz1=>
   obtain rfl:=Option.some.inj hz
   have hsp:=ht.v1
   have hmo:=mostZ_pos p l l.length
   have hk:=legsR_ok ht (a:=adhZ t (gripZ t st)) (sl:=slpR p l) (lim:=limR p l t) (v:=min (mostZ p l l.length) t.speed) (lo:=t.len) (last:=wlen p (l.map endNo)) (by omega) (fun x h3 h4=>limR_most h.v hw1 ht h3 h4) (stops.drop 1) _ M z (by rw [hdiv];exact h00.1) (fun s hs=>by
    rw [hdiv]
    obtain⟨i,hi,rfl⟩:=List.getElem_of_mem hs
    rw [List.getElem_drop]
    have hi2:1+i<stops.length:=by rw [List.length_drop] at hi;omega
    have h5:=s3 _ (List.getElem_mem hi2)
    refine⟨by omega, ?_⟩
    rw [List.getD_eq_getElem?_getD,List.getElem?_eq_getElem (by omega)]
    exact List.pairwise_iff_getElem.1 hp 0 (1+i) (by omega) hi2 (by omega)) (hp.sublist (List.drop_sublist _ _)) hr
   rw [hdiv] at hk
   obtain⟨k1,k2,k3⟩:=hk
   refine⟨by rw [k1,List.length_drop],fun i hi=> ?_⟩
   obtain⟨s,hs,hf⟩:=k3 i hi
   rw [List.getElem?_drop] at hs
   have:stops.getD (i+1) 0=s:=by rw [List.getD_eq_getElem?_getD,show i+1=1+i by omega,hs];rfl
   rw [this];exact hf
end Go.Proofs.YtfhkbbjddjddmaaGreat
