/- Ported: ways, their length, and what a car covers, of the specification of layer 1. -/
import Derived.Test.YtfhkbbjddjddmaaGreatZ3
import Derived.Test.YtfhkbbjddjddmaaGreatM52
import Derived.Test.YtfhkbbjddjddmaaGreatJB
set_option linter.unusedVariables false
set_option linter.unusedSimpArgs false
open Go.Value renaming int→O
open Go.IntKind renaming i64→U
open Go.Lib renaming hid→Z
namespace Go.Proofs.YtfhkbbjddjddmaaGreat
open Go.RowKit
structure Cv3 where
  rail:Int
  frm:Int
  «to» : Int
def CCv (s:Cv3) (cs:List Value):Prop:=cs= [O U s.rail,O U s.frm,O U s.«to»]
def PlainPost (v:Value) (w:World) (e:Ending) (w':World):Prop:=e= .returned v∧Below w.heap.size w w'
def covOnv (p:Pl) (m begin frm «to» : Int):List Cv3:=
  if max (frm - begin) 0≥min («to» - begin) (lenAt p (m / 2)) then []
  else if m % 2=1 then [⟨m / 2,lenAt p (m / 2) - min («to» - begin) (lenAt p (m / 2)),lenAt p (m / 2) - max (frm - begin) 0⟩]
  else [⟨m / 2,max (frm - begin) 0,min («to» - begin) (lenAt p (m / 2))⟩]
def covTov (p:Pl) (l:List Int) (frm «to» : Int) (k:Nat):List Cv3:=(List.range k).flatMap fun j=>covOnv p ((l[j]?).getD 0) (wlen p (l.take j)) frm «to»
def covLv (p:Pl) (l:List Int) (frm «to» : Int):List Cv3:=covTov p l frm «to» l.length
theorem covOnv_le (p:Pl) (m b f t:Int):(covOnv p m b f t).length≤1:=by
  unfold covOnv;split;· simp
  · split <;> simp
theorem covTov_succ (p:Pl) (l:List Int) (frm «to» : Int) {k:Nat} (h:k<l.length):covTov p l frm «to» (k+1)=covTov p l frm «to» k ++ covOnv p l[k] (wlen p (l.take k)) frm «to»:=by
  unfold covTov;rw [List.range_succ,List.flatMap_append];simp [h]
theorem covTov_len (p:Pl) (l:List Int) (frm «to» : Int):∀k,(covTov p l frm «to» k).length≤k:=fun k=>by
  induction k with
  | zero=>simp [covTov]
  | succ k ih=>
    have:covTov p l frm «to» (k+1)=covTov p l frm «to» k ++ covOnv p ((l[k]?).getD 0) (wlen p (l.take k)) frm «to»:=by
      unfold covTov;rw [List.range_succ,List.flatMap_append];simp
    rw [this,List.length_append]
    have:=covOnv_le p ((l[k]?).getD 0) (wlen p (l.take k)) frm «to»
    omega
def fCv (s:Cv3):List Value:= [O U s.rail,O U s.frm,O U s.«to»]
theorem fCv_len (s:Cv3):(fCv s).length=3:=rfl
theorem fCv_one (s:Cv3):∀u∈fCv s,u.oneCell'=true:=by simp [fCv,Value.oneCell']
theorem info205v:(Tryz.prog.info? 205).map (fun i=>(i.zero,i.size,i.bytes))=some (some (.agg #[O U 0,O U 0,O U 0]),3,24):=by kernel_rfl
theorem rLength_in (A A2:Option Addr) (c c2:Nat) (p:Pl) (r:Int) (w:World) (hP:PlAt w w.heap.size A c A2 c2 p) (hv:Vld p) (hr:railIn p r=true) :
    Calls Tryz.prog 69 #[.agg #[.slice A p.nodes.length c,.slice A2 p.rails.length c2],O U r] w (PlainPost (O U (lenAt p r)) w):=by
  have h2:=of_decide_eq_true hr
  obtain⟨k,rfl⟩:=Int.eq_ofNat_of_zero_le h2.1
  have hk:k<p.rails.length:=by omega
  have h1:=railB_ix (hv.rail hk).1
  refine (rLength_any A A2 c c2 p k w hP hk h1.1 h1.2.1 (by omega) (allR_line (spots_ok hv.nodes) (hv.rail hk).1)).mono ?_
  rintro e w' ⟨rfl,hb⟩
  exact⟨by rw [show lenAt p (k:Int)=((lenOf (lineOf p p.rails[k]):Nat):Int) by simp [lenAt,lensOf,lenZ,hk]],hb⟩
theorem wlen_snoc {p:Pl} {l:List E} {k:Nat} (h:k<l.length):wlen p ((l.take (k+1)).map endNo)=wlen p ((l.take k).map endNo)+lenAt p l[k].rail:=by
  rw [List.map_take,List.map_take,wlen_succ p _ (by simpa using h),List.getElem_map,endNo_half]
theorem wlen_take_bd {p:Pl} (hv:Vld p) (l:List E) (k:Nat) (hk:k≤2000):0≤wlen p ((l.take k).map endNo)∧wlen p ((l.take k).map endNo)≤2214592512000:=by
  have:=wlen_bd hv ((l.take k).map endNo)
  have h2:((l.take k).map endNo).length≤2000:=by simp;omega
  omega
set_option maxRecDepth 100000 in
set_option maxHeartbeats 2000000 in
theorem rWayLength_any (A A2 A3:Option Addr) (c c2 c3:Nat) (p:Pl) (l:List E) (w:World) (hP:PlAt w w.heap.size A c A2 c2 p) (hv:Vld p) (hA:Sl w w.heap.size 2 CE A3 l) (hl:l.length≤2000) (hin:∀j (hj:j<l.length),railIn p l[j].rail=true) :
    Calls Tryz.prog 37 #[.agg #[.slice A p.nodes.length c,.slice A2 p.rails.length c2],.slice A3 l.length c3] w (PlainPost (O U (wlen p (l.map endNo))) w):=by
  have HP1:=Z (hP.box (.cells #[.slice A p.nodes.length c,.slice A2 p.rails.length c2] 60))
  have hB0:=(Below.refl w.heap.size w).alloc (Nat.le_refl _) (.cells #[.slice A p.nodes.length c,.slice A2 p.rails.length c2] 60)
  have HA:=Z ((hA.below hB0).more (fun _ _ h=>h) hB0.size)
  have HX:=Z (show ∀j:Nat,(w.alloc (.cells #[.slice A p.nodes.length c,.slice A2 p.rails.length c2] 60)).cell? ⟨w.heap.size,j,none⟩=#[.slice A p.nodes.length c,.slice A2 p.rails.length c2][j]? from fun j=>cell_new1 w _ 60 j)
  have hz3:(w.alloc (.cells #[.slice A p.nodes.length c,.slice A2 p.rails.length c2] 60)).heap.size=w.heap.size+1:=by simp
  have HV:=Z hv;have HI:=Z hin
  have HB0:=Z hB0
  clear hP hv hA hB0 hin
  go_enter Tryz.func37,Tryz.ntmps37
  go_wp2
  generalize w.alloc (.cells #[.slice A p.nodes.length c,.slice A2 p.rails.length c2] 60)=W1 at *
  go_loopw [5,6] (fun s i wr=>∃k:Nat,k≤l.length∧i=O U k∧s=O U (wlen p ((l.take k).map endNo))∧Below W1.heap.size W1 wr) (fun _ i _=>l.length - (intOf i).toNat)
  case atStart=>exact⟨0,Nat.zero_le _,rfl,by simp [wlen],Below.refl _ _⟩
  case round=>
    obtain⟨k,hk,rfl,rfl,hb⟩:=hrel
    have hzw:=hb.size
    have ha0:w.heap.size<W1.heap.size:=by omega
    have k0:=(hb.cell (p:=⟨w.heap.size,0,none⟩) ha0).trans (HX.out 0)
    have k1:=(hb.cell (p:=⟨w.heap.size,1,none⟩) ha0).trans (HX.out 1)
    simp only [List.getElem?_toArray,List.getElem?_cons_zero,List.getElem?_cons_succ] at k0 k1
    have HPw:=Z ((HP1.out.below hb).more hzw)
    have HAw:=Z ((HA.out.below hb).more (fun _ _ h=>h) hzw)
    have HB:=Z hb
    clear hb
    have hr0:w.heap.size<wr.heap.size:=by omega
    by_cases hlt:k<l.length
    · have hk0:(0:Int)≤(k:Int):=by omega
      have hk1:(k:Int)<(l.length:Int):=by omega
      obtain⟨b1,o1,e1,g1,q0,q1⟩:=end_at HAw.out hlt
      have hs1:=wlen_snoc (p:=p) hlt
      have hri:=HI.out k hlt
      obtain⟨⟨mr,ml⟩,hx⟩:∃x,l[k]=x:=⟨_,rfl⟩
      rw [hx] at q0 q1 hs1 hri
      have HRI:=Z hri
      have hbx:=wlen_take_bd HV.out l k (by omega)
      have hby:=lenAt_bd HV.out mr
      obtain⟨X,hX⟩:∃x,wlen p ((l.take k).map endNo)=x:=⟨_,rfl⟩
      obtain⟨Y,hY⟩:∃x,lenAt p mr=x:=⟨_,rfl⟩
      rw [hX] at hbx hs1 ⊢
      simp only [hY] at hby hs1
      have HS1:=Z hs1;have HY:=Z hY
      have hx0:=hbx.1;have hx1:=hbx.2;have hy0:=hby.1;have hy1:=hby.2
      subst e1
      clear hx hX hY hs1 hri hbx hby
      go_upto_region 5 with (fail)
      have hbq:Below wr.heap.size wr wr.drew:=(Below.refl _ _).drew
      have hwr:IntKind.i64.wrap (X+Y)=X+Y:=by rw [IntKind.wrap_i64];omega
      first
        | (go_region_held3 (fun w'=>w'.cell? ⟨w.heap.size,0,none⟩=some (.slice A p.nodes.length c)∧w'.cell? ⟨w.heap.size,1,none⟩=some (.slice A2 p.rails.length c2)∧w'.cell? ⟨b1,o1+k * 2,none⟩=some (O U mr))
            (exact⟨(hbq.cell (p:=⟨w.heap.size,0,none⟩) hr0).trans k0,(hbq.cell (p:=⟨w.heap.size,1,none⟩) hr0).trans k1,(hbq.cell (p:=⟨b1,o1+k * 2,none⟩) g1).trans q0⟩)
            ((first
              | (go_at_call 69;have hpw:=(HPw.out.below hbq).more hbq.size;have hlc:=rLength_in A A2 c c2 p mr _ hpw HV.out HRI.out;rw [HY.out] at hlc;(with_reducible refine hlc.mono ?_);rintro e w5 ⟨rfl,hb5⟩;replace hbq:=hbq.trans (hb5.mono hbq.size)))))
        | fail "held3"
      all_goals
        have HB2:=Z (HB.out.trans (hbq.mono hzw))
        clear hbq hwr
        go_wp2
        go_roundw
        case rel=>exact⟨k+1,by omega,by go_num,by rw [HS1.out],HB2.out⟩
        case measure=>simp [intOf];omega
    · obtain rfl:k=l.length:=by omega
      have HQ:=Z (show wlen p ((l.take l.length).map endNo)=wlen p (l.map endNo) by rw [List.take_length])
      go_wp2
      go_ret
      exact⟨by rw [←HQ.out];rfl,HB0.out.trans (HB.out.mono (by omega))⟩
def WayB (p:Pl) (l:List E) (e:Ending):Prop:=∃b,e= .returned (.bool b)∧(b=true ↔ wayOk p l)
def RWayPost (p:Pl) (l:List E) (w:World) (e:Ending) (w':World):Prop:=WayB p l e∧Below w.heap.size w w'
set_option maxRecDepth 100000 in
set_option maxHeartbeats 4000000 in
theorem rWay_any (A A2 A3:Option Addr) (c c2 c3:Nat) (p:Pl) (l:List E) (w:World) (hP:PlAt w w.heap.size A c A2 c2 p) (hv:Vld p) (hA:Sl w w.heap.size 2 CE A3 l) (hl:l.length≤140737488351232) :
    Calls Tryz.prog 63 #[.agg #[.slice A p.nodes.length c,.slice A2 p.rails.length c2],.slice A3 l.length c3] w (RWayPost p l w):=by
  have HP1:=Z (hP.box (.cells #[.slice A p.nodes.length c,.slice A2 p.rails.length c2] 60))
  have hB0:=(Below.refl w.heap.size w).alloc (Nat.le_refl _) (.cells #[.slice A p.nodes.length c,.slice A2 p.rails.length c2] 60)
  have HA:=Z ((hA.below hB0).more (fun _ _ h=>h) hB0.size)
  have HX:=Z (show ∀j:Nat,(w.alloc (.cells #[.slice A p.nodes.length c,.slice A2 p.rails.length c2] 60)).cell? ⟨w.heap.size,j,none⟩=#[.slice A p.nodes.length c,.slice A2 p.rails.length c2][j]? from fun j=>cell_new1 w _ 60 j)
  have hz3:(w.alloc (.cells #[.slice A p.nodes.length c,.slice A2 p.rails.length c2] 60)).heap.size=w.heap.size+1:=by simp
  have HV:=Z hv
  have HB0:=Z hB0
  clear hP hv hA hB0
  go_enter Tryz.func63,Tryz.ntmps63
  go_wp2
  generalize w.alloc (.cells #[.slice A p.nodes.length c,.slice A2 p.rails.length c2] 60)=W1 at *
  go_loopw [5] (fun i wr=>∃k:Nat,k≤l.length∧i=O U k∧wayTo p l k∧Below W1.heap.size W1 wr) (fun i _=>l.length - (intOf i).toNat)
  case atStart=>exact⟨0,Nat.zero_le _,rfl,fun j hj=>absurd hj (by omega),Below.refl _ _⟩
  case round=>
    obtain⟨k,hk,rfl,hw,hb⟩:=hrel
    have hzw:=hb.size
    have ha0:w.heap.size<W1.heap.size:=by omega
    have k0:=(hb.cell (p:=⟨w.heap.size,0,none⟩) ha0).trans (HX.out 0)
    have k1:=(hb.cell (p:=⟨w.heap.size,1,none⟩) ha0).trans (HX.out 1)
    simp only [List.getElem?_toArray,List.getElem?_cons_zero,List.getElem?_cons_succ] at k0 k1
    have HPw:=Z ((HP1.out.below hb).more hzw)
    have HAw:=Z ((HA.out.below hb).more (fun _ _ h=>h) hzw)
    have HB:=Z hb;have HW:=Z hw
    clear hb hw
    have hr0:w.heap.size<wr.heap.size:=by omega
    by_cases hlt:k<l.length
    · have hlt2:(k:Int)<(l.length:Int):=by omega
      have hk0:(0:Int)≤(k:Int):=by omega
      obtain⟨b1,o1,e1,g1,q0,q1⟩:=end_at HAw.out hlt
      obtain⟨⟨mr,ml⟩,hx⟩:∃x,l[k]=x:=⟨_,rfl⟩
      have HXk:=Z (show E1' l k=⟨mr,ml⟩ by rw [E1_eq hlt];exact hx)
      rw [hx] at q0 q1
      subst e1
      clear hx
      cases hr:railIn p mr
      · have HR:=Z (show ¬wayOk p l from fun h=>by have:=(h.2.2 k hlt).1;rw [HXk.out] at this;rw [hr] at this;cases this)
        have HRM:=Z hr
        clear hr
        go_upto_region 4 with (fail)
        go_cut [36] from 6 to 36 (fun s36 wx=>s36= .bool true∧Below wr.heap.size wr wx)
        case first=>
          have hbq:Below wr.heap.size wr wr.drew:=(Below.refl _ _).drew
          have HS:=Z (show (fun w'=>w'.cell? ⟨w.heap.size,0,none⟩=some (.slice A p.nodes.length c)∧w'.cell? ⟨w.heap.size,1,none⟩=some (.slice A2 p.rails.length c2)∧w'.cell? ⟨b1,o1+k * 2,none⟩=some (O U mr)∧w'.cell? ⟨b1,o1+k * 2+1,none⟩=some (.bool ml)) wr.drew from⟨(hbq.cell (p:=⟨w.heap.size,0,none⟩) hr0).trans k0,(hbq.cell (p:=⟨w.heap.size,1,none⟩) hr0).trans k1,(hbq.cell (p:=⟨b1,o1+k * 2,none⟩) g1).trans q0,(hbq.cell (p:=⟨b1,o1+k * 2+1,none⟩) g1).trans q1⟩)
          refine wp_region_held_drew (S:=(fun w'=>w'.cell? ⟨w.heap.size,0,none⟩=some (.slice A p.nodes.length c)∧w'.cell? ⟨w.heap.size,1,none⟩=some (.slice A2 p.rails.length c2)∧w'.cell? ⟨b1,o1+k * 2,none⟩=some (O U mr)∧w'.cell? ⟨b1,o1+k * 2+1,none⟩=some (.bool ml))) (by kernel_rfl) HS.out (fun _=> ?_)
          refine hTk (i:=0) (d:=12) (v:= .agg #[.slice A p.nodes.length c,.slice A2 p.rails.length c2]) rfl rfl (Or.inl ⟨rfl,by rintro W' ⟨s1,s2,s3,s4⟩;go_simp⟩) HS.out ?_
          simp only [Act.put,sB,sZ,sS]
          refine hTk (i:=1) (d:=13) (v:= .slice (some ⟨b1,o1,none⟩) l.length c3) rfl rfl (Or.inl ⟨rfl,by rintro W' ⟨s1,s2,s3,s4⟩;go_simp⟩) HS.out ?_
          simp only [Act.put,sB,sZ,sS]
          refine hTk (i:=2) (d:=14) (v:=O U (k:Int)) rfl rfl (Or.inl ⟨rfl,by rintro W' ⟨s1,s2,s3,s4⟩;go_simp⟩) HS.out ?_
          simp only [Act.put,sB,sZ,sS]
          refine hTk (i:=3) (d:=15) (v:= .pointer (some ⟨b1,o1+k * 2,none⟩)) rfl rfl (Or.inl ⟨rfl,by rintro W' ⟨s1,s2,s3,s4⟩;go_simp⟩) HS.out ?_
          simp only [Act.put,sB,sZ,sS]
          refine hTk (i:=4) (d:=16) (v:= .agg #[O U mr,.bool ml]) rfl rfl (Or.inl ⟨rfl,by rintro W' ⟨s1,s2,s3,s4⟩;go_simp⟩) HS.out ?_
          simp only [Act.put,sB,sZ,sS]
          refine wpAnyH_ready (rs:= [5]) (by kernel_rfl) (by simp) ?_
          refine AllReadyH.cons rfl (fun K hK=> ?_) AllReadyH.nil
          rw [if_pos (by rfl)]
          go_simp
          go_at_call 95
          have hpw:=(HPw.out.below hbq).more hbq.size
          have hmv:=Move_any A A2 c c2 p mr ml _ hpw
          rw [HRM.out] at hmv
          refine hmv.mono ?_
          rintro e w5 ⟨rfl,hb5⟩
          replace hbq:=hbq.trans (hb5.mono hbq.size)
          have HS:=Z (show (fun w'=>w'.cell? ⟨w.heap.size,0,none⟩=some (.slice A p.nodes.length c)∧w'.cell? ⟨w.heap.size,1,none⟩=some (.slice A2 p.rails.length c2)∧w'.cell? ⟨b1,o1+k * 2,none⟩=some (O U mr)∧w'.cell? ⟨b1,o1+k * 2+1,none⟩=some (.bool ml)) w5 from⟨(hbq.cell (p:=⟨w.heap.size,0,none⟩) hr0).trans k0,(hbq.cell (p:=⟨w.heap.size,1,none⟩) hr0).trans k1,(hbq.cell (p:=⟨b1,o1+k * 2,none⟩) g1).trans q0,(hbq.cell (p:=⟨b1,o1+k * 2+1,none⟩) g1).trans q1⟩)
          refine hK.out _ _ HS.out (fun _=> ?_)
          clear hK K hmv hpw hb5
          refine hTk (i:=6) (d:=18) (v:= .bool true) rfl rfl (Or.inl ⟨rfl,by rintro W' ⟨s1,s2,s3,s4⟩;go_simp⟩) HS.out ?_
          simp only [Act.put,sB,sZ,sS]
          refine hTk (i:=7) (d:=19) (v:= .bool true) rfl rfl (Or.inl ⟨rfl,by rintro W' ⟨s1,s2,s3,s4⟩;go_simp⟩) HS.out ?_
          simp only [Act.put,sB,sZ,sS]
          refine hTk (i:=8) (d:=20) (v:=undef) rfl rfl (Or.inr ⟨rfl,rfl⟩) HS.out ?_
          simp only [Act.put,sB,sZ,sS]
          refine hTk (i:=9) (d:=21) (v:=undef) rfl rfl (Or.inr ⟨rfl,rfl⟩) HS.out ?_
          simp only [Act.put,sB,sZ,sS]
          refine hTk (i:=10) (d:=22) (v:=undef) rfl rfl (Or.inr ⟨rfl,rfl⟩) HS.out ?_
          simp only [Act.put,sB,sZ,sS]
          refine hTk (i:=11) (d:=23) (v:=undef) rfl rfl (Or.inr ⟨rfl,rfl⟩) HS.out ?_
          simp only [Act.put,sB,sZ,sS]
          refine hTk (i:=12) (d:=24) (v:=undef) rfl rfl (Or.inr ⟨rfl,rfl⟩) HS.out ?_
          simp only [Act.put,sB,sZ,sS]
          refine hTk (i:=13) (d:=25) (v:=undef) rfl rfl (Or.inr ⟨rfl,rfl⟩) HS.out ?_
          simp only [Act.put,sB,sZ,sS]
          refine hTk (i:=14) (d:=26) (v:=undef) rfl rfl (Or.inr ⟨rfl,rfl⟩) HS.out ?_
          simp only [Act.put,sB,sZ,sS]
          refine hTk (i:=15) (d:=27) (v:=undef) rfl rfl (Or.inr ⟨rfl,rfl⟩) HS.out ?_
          simp only [Act.put,sB,sZ,sS]
          refine hTk (i:=16) (d:=28) (v:=undef) rfl rfl (Or.inr ⟨rfl,rfl⟩) HS.out ?_
          simp only [Act.put,sB,sZ,sS]
          refine hTk (i:=17) (d:=29) (v:=undef) rfl rfl (Or.inr ⟨rfl,rfl⟩) HS.out ?_
          simp only [Act.put,sB,sZ,sS]
          refine hTk (i:=18) (d:=30) (v:=undef) rfl rfl (Or.inr ⟨rfl,rfl⟩) HS.out ?_
          simp only [Act.put,sB,sZ,sS]
          refine hTk (i:=19) (d:=31) (v:=undef) rfl rfl (Or.inr ⟨rfl,rfl⟩) HS.out ?_
          simp only [Act.put,sB,sZ,sS]
          refine hTk (i:=20) (d:=32) (v:=undef) rfl rfl (Or.inr ⟨rfl,rfl⟩) HS.out ?_
          simp only [Act.put,sB,sZ,sS]
          refine hTk (i:=21) (d:=33) (v:=undef) rfl rfl (Or.inr ⟨rfl,rfl⟩) HS.out ?_
          simp only [Act.put,sB,sZ,sS]
          refine hTk (i:=22) (d:=34) (v:=undef) rfl rfl (Or.inr ⟨rfl,rfl⟩) HS.out ?_
          simp only [Act.put,sB,sZ,sS]
          refine hTk (i:=23) (d:=35) (v:=undef) rfl rfl (Or.inr ⟨rfl,rfl⟩) HS.out ?_
          simp only [Act.put,sB,sZ,sS]
          refine hTk (i:=24) (d:=36) (v:= .bool true) rfl rfl (Or.inl ⟨rfl,by rintro W' ⟨s1,s2,s3,s4⟩;go_simp⟩) HS.out ?_
          simp only [Act.put,sB,sZ,sS]
          refine wpAnyH_done (by kernel_rfl) ?_ _
          all_goals
            go_wp2_with fail
            go_meet
            exact⟨rfl,hbq⟩
        case rest=>
        obtain⟨rfl,hbq⟩:=hcut
        have HBQ:=Z (HB0.out.trans ((HB.out.trans (hbq.mono hzw)).mono (by omega)))
        clear hbq
        go_wp2
        go_ret
        exact⟨⟨false,rfl,fun h=>(by cases h),fun h=>absurd h HR.out⟩,HBQ.out⟩
      have HRM:=Z hr
      clear hr
      rcases k with _|j
      · have HW2:=Z (HW.out.step (by rw [HXk.out];exact HRM.out) (fun h=>absurd h (by omega)))
        have d3:decide ((0:Int)<((0:Nat):Int))=false:=by simp
        go_upto_region 4 with (fail)
        go_cut [36] from 6 to 36 (fun s36 wx=>s36= .bool false∧Below wr.heap.size wr wx)
        case first=>
          have hbq:Below wr.heap.size wr wr.drew:=(Below.refl _ _).drew
          simp only [Nat.zero_mul,Nat.add_zero] at q0 q1
          have HS:=Z (show (fun w'=>w'.cell? ⟨w.heap.size,0,none⟩=some (.slice A p.nodes.length c)∧w'.cell? ⟨w.heap.size,1,none⟩=some (.slice A2 p.rails.length c2)∧w'.cell? ⟨b1,o1,none⟩=some (O U mr)∧w'.cell? ⟨b1,o1+1,none⟩=some (.bool ml)) wr.drew from⟨(hbq.cell (p:=⟨w.heap.size,0,none⟩) hr0).trans k0,(hbq.cell (p:=⟨w.heap.size,1,none⟩) hr0).trans k1,(hbq.cell (p:=⟨b1,o1,none⟩) g1).trans q0,(hbq.cell (p:=⟨b1,o1+1,none⟩) g1).trans q1⟩)
          refine wp_region_held_drew (S:=(fun w'=>w'.cell? ⟨w.heap.size,0,none⟩=some (.slice A p.nodes.length c)∧w'.cell? ⟨w.heap.size,1,none⟩=some (.slice A2 p.rails.length c2)∧w'.cell? ⟨b1,o1,none⟩=some (O U mr)∧w'.cell? ⟨b1,o1+1,none⟩=some (.bool ml))) (by kernel_rfl) HS.out (fun _=> ?_)
          refine hTk (i:=0) (d:=12) (v:= .agg #[.slice A p.nodes.length c,.slice A2 p.rails.length c2]) rfl rfl (Or.inl ⟨rfl,by rintro W' ⟨s1,s2,s3,s4⟩;go_simp⟩) HS.out ?_
          simp only [Act.put,sB,sZ,sS]
          refine hTk (i:=1) (d:=13) (v:= .slice (some ⟨b1,o1,none⟩) l.length c3) rfl rfl (Or.inl ⟨rfl,by rintro W' ⟨s1,s2,s3,s4⟩;go_simp⟩) HS.out ?_
          simp only [Act.put,sB,sZ,sS]
          refine hTk (i:=2) (d:=14) (v:=O U ((0:Nat):Int)) rfl rfl (Or.inl ⟨rfl,by rintro W' ⟨s1,s2,s3,s4⟩;go_simp⟩) HS.out ?_
          simp only [Act.put,sB,sZ,sS]
          refine hTk (i:=3) (d:=15) (v:= .pointer (some ⟨b1,o1,none⟩)) rfl rfl (Or.inl ⟨rfl,by rintro W' ⟨s1,s2,s3,s4⟩;go_simp⟩) HS.out ?_
          simp only [Act.put,sB,sZ,sS]
          refine hTk (i:=4) (d:=16) (v:= .agg #[O U mr,.bool ml]) rfl rfl (Or.inl ⟨rfl,by rintro W' ⟨s1,s2,s3,s4⟩;go_simp⟩) HS.out ?_
          simp only [Act.put,sB,sZ,sS]
          refine wpAnyH_ready (rs:= [5]) (by kernel_rfl) (by simp) ?_
          refine AllReadyH.cons rfl (fun K hK=> ?_) AllReadyH.nil
          rw [if_pos (by rfl)]
          go_simp
          go_at_call 95
          have hpw:=(HPw.out.below hbq).more hbq.size
          have hmv:=Move_any A A2 c c2 p mr ml _ hpw
          rw [HRM.out] at hmv
          refine hmv.mono ?_
          rintro e w5 ⟨rfl,hb5⟩
          replace hbq:=hbq.trans (hb5.mono hbq.size)
          have HS:=Z (show (fun w'=>w'.cell? ⟨w.heap.size,0,none⟩=some (.slice A p.nodes.length c)∧w'.cell? ⟨w.heap.size,1,none⟩=some (.slice A2 p.rails.length c2)∧w'.cell? ⟨b1,o1,none⟩=some (O U mr)∧w'.cell? ⟨b1,o1+1,none⟩=some (.bool ml)) w5 from⟨(hbq.cell (p:=⟨w.heap.size,0,none⟩) hr0).trans k0,(hbq.cell (p:=⟨w.heap.size,1,none⟩) hr0).trans k1,(hbq.cell (p:=⟨b1,o1,none⟩) g1).trans q0,(hbq.cell (p:=⟨b1,o1+1,none⟩) g1).trans q1⟩)
          refine hK.out _ _ HS.out (fun _=> ?_)
          clear hK K hmv hpw hb5
          refine hTk (i:=6) (d:=18) (v:= .bool false) rfl rfl (Or.inl ⟨rfl,by rintro W' ⟨s1,s2,s3,s4⟩;go_simp⟩) HS.out ?_
          simp only [Act.put,sB,sZ,sS]
          refine hTk (i:=7) (d:=19) (v:= .bool false) rfl rfl (Or.inl ⟨rfl,by rintro W' ⟨s1,s2,s3,s4⟩;go_simp⟩) HS.out ?_
          simp only [Act.put,sB,sZ,sS]
          refine hTk (i:=8) (d:=20) (v:=O U ((0:Nat):Int)) rfl rfl (Or.inl ⟨rfl,by rintro W' ⟨s1,s2,s3,s4⟩;go_simp⟩) HS.out ?_
          simp only [Act.put,sB,sZ,sS]
          refine hTk (i:=9) (d:=21) (v:= .bool false) rfl rfl (Or.inl ⟨rfl,by rintro W' ⟨s1,s2,s3,s4⟩;go_simp⟩) HS.out ?_
          simp only [Act.put,sB,sZ,sS]
          refine hTk (i:=10) (d:=22) (v:= .bool false) rfl rfl (Or.inl ⟨rfl,by rintro W' ⟨s1,s2,s3,s4⟩;go_simp⟩) HS.out ?_
          simp only [Act.put,sB,sZ,sS]
          refine hTk (i:=11) (d:=23) (v:=undef) rfl rfl (Or.inr ⟨rfl,rfl⟩) HS.out ?_
          simp only [Act.put,sB,sZ,sS]
          refine hTk (i:=12) (d:=24) (v:=undef) rfl rfl (Or.inr ⟨rfl,rfl⟩) HS.out ?_
          simp only [Act.put,sB,sZ,sS]
          refine hTk (i:=13) (d:=25) (v:=undef) rfl rfl (Or.inr ⟨rfl,rfl⟩) HS.out ?_
          simp only [Act.put,sB,sZ,sS]
          refine hTk (i:=14) (d:=26) (v:=undef) rfl rfl (Or.inr ⟨rfl,rfl⟩) HS.out ?_
          simp only [Act.put,sB,sZ,sS]
          refine hTk (i:=15) (d:=27) (v:=undef) rfl rfl (Or.inr ⟨rfl,rfl⟩) HS.out ?_
          simp only [Act.put,sB,sZ,sS]
          refine hTk (i:=16) (d:=28) (v:=undef) rfl rfl (Or.inr ⟨rfl,rfl⟩) HS.out ?_
          simp only [Act.put,sB,sZ,sS]
          refine hTk (i:=17) (d:=29) (v:=undef) rfl rfl (Or.inr ⟨rfl,rfl⟩) HS.out ?_
          simp only [Act.put,sB,sZ,sS]
          refine hTk (i:=18) (d:=30) (v:=undef) rfl rfl (Or.inr ⟨rfl,rfl⟩) HS.out ?_
          simp only [Act.put,sB,sZ,sS]
          refine hTk (i:=19) (d:=31) (v:=undef) rfl rfl (Or.inr ⟨rfl,rfl⟩) HS.out ?_
          simp only [Act.put,sB,sZ,sS]
          refine hTk (i:=20) (d:=32) (v:=undef) rfl rfl (Or.inr ⟨rfl,rfl⟩) HS.out ?_
          simp only [Act.put,sB,sZ,sS]
          refine hTk (i:=21) (d:=33) (v:=undef) rfl rfl (Or.inr ⟨rfl,rfl⟩) HS.out ?_
          simp only [Act.put,sB,sZ,sS]
          refine hTk (i:=22) (d:=34) (v:=undef) rfl rfl (Or.inr ⟨rfl,rfl⟩) HS.out ?_
          simp only [Act.put,sB,sZ,sS]
          refine hTk (i:=23) (d:=35) (v:= .bool false) rfl rfl (Or.inl ⟨rfl,by rintro W' ⟨s1,s2,s3,s4⟩;go_simp⟩) HS.out ?_
          simp only [Act.put,sB,sZ,sS]
          refine hTk (i:=24) (d:=36) (v:= .bool false) rfl rfl (Or.inl ⟨rfl,by rintro W' ⟨s1,s2,s3,s4⟩;go_simp⟩) HS.out ?_
          simp only [Act.put,sB,sZ,sS]
          refine wpAnyH_done (by kernel_rfl) ?_ _
          all_goals
            go_wp2_with fail
            go_meet
            exact⟨rfl,hbq⟩
        case rest=>
        obtain⟨rfl,hbq⟩:=hcut
        have HBQ:=Z (HB.out.trans (hbq.mono hzw))
        clear hbq
        go_wp2
        go_roundw
        case rel=>exact⟨0+1,by omega,by go_num,HW2.out,HBQ.out⟩
        case measure=>simp [intOf];omega
      · obtain⟨b2,o2,e2,g2,q2,q3⟩:=end_at HAw.out (i:=j) (by omega)
        obtain⟨rfl,rfl⟩:b1=b2∧o1=o2:=by simpa using e2
        obtain⟨⟨lr,ll⟩,hy⟩:∃x,l[j]'(by omega)=x:=⟨_,rfl⟩
        have HY:=Z (show E1' l j=⟨lr,ll⟩ by rw [E1_eq (by omega)];exact hy)
        rw [hy] at q2 q3
        have HRL:=Z (show railIn p lr=true by have:=(HW.out j (by omega)).1;rw [HY.out] at this;exact this)
        clear hy e2
        obtain⟨fo,hfo⟩:∃x,folB p (keyE ⟨lr,ll⟩) (endNo ⟨mr,ml⟩)=x:=⟨_,rfl⟩
        have HFO:=Z (show ∀w,PlAt w w.heap.size A c A2 c2 p→Calls Tryz.prog 96 #[.agg #[.slice A p.nodes.length c,.slice A2 p.rails.length c2],.agg #[O U lr,.bool ll],.agg #[O U mr,.bool ml]] w fun e w'=>e= .returned (.bool fo)∧Below w.heap.size w w' from fun w hP=>by
          have:=rFollows_any A A2 c c2 p ⟨lr,ll⟩ ⟨mr,ml⟩ w hP HV.out HRL.out HRM.out
          rw [hfo] at this;exact this)
        have HF:=Z hfo
        clear hfo
        have d3:decide ((0:Int)<((j+1:Nat):Int))=true:=by first|(simp;done)|(simp;omega)
        have d4:decide ((0:Int)<(j:Int)+1)=true:=by rw [decide_eq_true_iff];omega
        have hj0:(0:Int)≤(j:Int):=by omega
        have hjs:(j:Int)<(l.length:Int):=by omega
        have hwr1:IntKind.i64.wrap ((j:Int)+1 - 1)=(j:Int):=by rw [IntKind.wrap_i64];omega
        have hwr2:IntKind.i64.wrap (j:Int)=(j:Int):=by rw [IntKind.wrap_i64];omega
        go_upto_region 4 with (fail)
        go_cut [36] from 6 to 36 (fun s36 wx=>s36= .bool (!fo)∧Below wr.heap.size wr wx)
        case first=>
          have hj2:(0:Int)≤(j:Int)+1:=by omega
          have hj3:(j:Int)+1<(l.length:Int):=by omega
          have hj4:((j:Int)+1).toNat=j+1:=by omega
          have hbq:Below wr.heap.size wr wr.drew:=(Below.refl _ _).drew
          first
            | (go_region_held3 (fun w'=>w'.cell? ⟨w.heap.size,0,none⟩=some (.slice A p.nodes.length c)∧w'.cell? ⟨w.heap.size,1,none⟩=some (.slice A2 p.rails.length c2)∧w'.cell? ⟨b1,o1+(j+1) * 2,none⟩=some (O U mr)∧w'.cell? ⟨b1,o1+(j+1) * 2+1,none⟩=some (.bool ml)∧w'.cell? ⟨b1,o1+j * 2,none⟩=some (O U lr)∧w'.cell? ⟨b1,o1+j * 2+1,none⟩=some (.bool ll))
                (exact⟨(hbq.cell (p:=⟨w.heap.size,0,none⟩) hr0).trans k0,(hbq.cell (p:=⟨w.heap.size,1,none⟩) hr0).trans k1,(hbq.cell (p:=⟨b1,o1+(j+1) * 2,none⟩) g1).trans q0,(hbq.cell (p:=⟨b1,o1+(j+1) * 2+1,none⟩) g1).trans q1,(hbq.cell (p:=⟨b1,o1+j * 2,none⟩) g1).trans q2,(hbq.cell (p:=⟨b1,o1+j * 2+1,none⟩) g1).trans q3⟩)
                ((first
                  | (go_at_call 95;have hpw:=(HPw.out.below hbq).more hbq.size;have hmv:=Move_any A A2 c c2 p mr ml _ hpw;rw [HRM.out] at hmv;(with_reducible refine hmv.mono ?_);rintro e w5 ⟨rfl,hb5⟩;replace hbq:=hbq.trans (hb5.mono hbq.size))
                  | (go_at_call 96;have hpw:=(HPw.out.below hbq).more hbq.size;(with_reducible refine (HFO.out _ hpw).mono ?_);rintro e w6 ⟨rfl,hb6⟩;replace hbq:=hbq.trans (hb6.mono hbq.size)))))
            | fail "x"
          all_goals
            go_wp2_with fail
            go_meet
            exact⟨rfl,hbq⟩
        case rest=>
        obtain⟨rfl,hbq⟩:=hcut
        clear hwr1 hwr2
        have HBQ:=Z (HB.out.trans (hbq.mono hzw))
        clear hbq
        cases fo
        · have HR:=Z (show ¬wayOk p l from fun h=>by have:=(h.2.2 (j+1) hlt).2 (by omega);rw [HXk.out,show j+1 - 1=j by omega,HY.out,HF.out] at this;cases this)
          go_wp2
          go_ret
          exact⟨⟨false,rfl,fun h=>(by cases h),fun h=>absurd h HR.out⟩,HB0.out.trans (HBQ.out.mono (by omega))⟩
        · have HW2:=Z (HW.out.step (by rw [HXk.out];exact HRM.out) (fun _=>by rw [HXk.out,show j+1 - 1=j by omega,HY.out];exact HF.out))
          go_wp2
          go_roundw
          case rel=>exact⟨j+1+1,by omega,by go_num,HW2.out,HBQ.out⟩
          case measure=>simp [intOf];omega
    · obtain rfl:k=l.length:=by omega
      have HQ:=Z (show inV (l.length:Int) 1 2000=true ↔ wayOk p l by
        unfold inV
        rw [Bool.and_eq_true,decide_eq_true_iff,decide_eq_true_iff]
        exact⟨fun h=>⟨by omega,by omega,HW.out⟩,fun h=>⟨by have:=h.1;omega,by have:=h.2.1;omega⟩⟩)
      go_wp2_with fail
      refine (inV_any _ _ _ _).mono ?_
      rintro e w5 ⟨rfl,rfl⟩
      obtain⟨bb,hbb⟩:∃x,inV (l.length:Int) 1 2000=x:=⟨_,rfl⟩
      rw [hbb] at HQ ⊢
      clear hbb
      go_wp2
      go_ret
      exact⟨⟨bb,rfl,HQ.out⟩,HB0.out.trans (HB.out.mono (by omega))⟩
theorem endNo_odd (m:E):endNo m % 2=if m.last=true then 1 else 0:=by unfold endNo;split <;> omega
def RCovPost (p:Pl) (l:List E) (fr tt:Int) (w:World) (e:Ending) (w':World):Prop:=(∃B d,e= .returned (.slice B (covLv p (l.map endNo) fr tt).length d)∧Sl w' w'.heap.size 3 CCv B (covLv p (l.map endNo) fr tt))∧Below w.heap.size w w'
set_option maxRecDepth 100000 in
set_option maxHeartbeats 8000000 in
theorem rCovers_any (A A2 A3:Option Addr) (c c2 c3:Nat) (p:Pl) (l:List E) (front len:Int) (w:World) (hP:PlAt w w.heap.size A c A2 c2 p) (hA:Sl w w.heap.size 2 CE A3 l) (hv:Vld p) (hl:l.length≤2000) (hin:∀j (hj:j<l.length),railIn p l[j].rail=true)
    (h1:1≤len) (h2:len≤front) (h3:front≤10000000000000) :
    Calls Tryz.prog 137 #[.agg #[.slice A p.nodes.length c,.slice A2 p.rails.length c2],.slice A3 l.length c3,O U front,O U len] w (RCovPost p l (front - len) front w):=by
  have HP1:=Z (hP.box (.cells #[.slice A p.nodes.length c,.slice A2 p.rails.length c2] 60))
  have hB0:=(Below.refl w.heap.size w).alloc (Nat.le_refl _) (.cells #[.slice A p.nodes.length c,.slice A2 p.rails.length c2] 60)
  have HA:=Z ((hA.below hB0).more (fun _ _ h=>h) hB0.size)
  have HX:=Z (show ∀j:Nat,(w.alloc (.cells #[.slice A p.nodes.length c,.slice A2 p.rails.length c2] 60)).cell? ⟨w.heap.size,j,none⟩=#[.slice A p.nodes.length c,.slice A2 p.rails.length c2][j]? from fun j=>cell_new1 w _ 60 j)
  have hz3:(w.alloc (.cells #[.slice A p.nodes.length c,.slice A2 p.rails.length c2] 60)).heap.size=w.heap.size+1:=by simp
  have HV:=Z hv;have HI:=Z hin
  have HB0:=Z hB0
  obtain⟨i0,hi,hz0,hz1,hz2⟩:=info_parts info205v
  clear hP hv hA hB0 hin
  go_enter Tryz.func137,Tryz.ntmps137
  go_wp2
  generalize w.alloc (.cells #[.slice A p.nodes.length c,.slice A2 p.rails.length c2] 60)=W1 at *
  go_loopw [9,10,11] (fun v s i wr=>∃k:Nat,k≤l.length∧i=O U k∧s=O U (wlen p ((l.take k).map endNo))∧Own wr W1.heap.size 205 3 fCv v (covTov p (l.map endNo) (front - len) front k)∧Below W1.heap.size W1 wr) (fun _ _ i _=>l.length - (intOf i).toNat)
  case atStart=>exact⟨0,Nat.zero_le _,rfl,by simp [wlen],by simp only [covTov,List.range_zero,List.flatMap_nil];exact Own.nil _ _ _ _ _,Below.refl _ _⟩
  case round=>
    obtain⟨k,hk,rfl,rfl,ho,hb⟩:=hrel
    have hzw:=hb.size
    have ha0:w.heap.size<W1.heap.size:=by omega
    have k0:=(hb.cell (p:=⟨w.heap.size,0,none⟩) ha0).trans (HX.out 0)
    have k1:=(hb.cell (p:=⟨w.heap.size,1,none⟩) ha0).trans (HX.out 1)
    simp only [List.getElem?_toArray,List.getElem?_cons_zero,List.getElem?_cons_succ] at k0 k1
    have hr0:w.heap.size<wr.heap.size:=by omega
    have HO:=Z ho;have HBR:=Z hb
    have HPw:=Z ((HP1.out.below hb).more hzw)
    have HAw:=Z ((HA.out.below hb).more (fun _ _ h=>h) hzw)
    clear ho hb
    by_cases hlt:k<l.length
    · have hk0:(0:Int)≤(k:Int):=by omega
      have hk1:(k:Int)<(l.length:Int):=by omega
      obtain⟨b1,o1,e1,g1,q0,q1⟩:=end_at HAw.out hlt
      have hs1:=wlen_snoc (p:=p) hlt
      have hri:=HI.out k hlt
      have hcs:=covTov_succ p (l.map endNo) (front - len) front (k:=k) (by simpa using hlt)
      rw [List.getElem_map,←List.map_take] at hcs
      obtain⟨⟨mr,ml⟩,hx⟩:∃x,l[k]=x:=⟨_,rfl⟩
      rw [hx] at q0 q1 hs1 hri hcs
      have HRI:=Z hri
      have hbx:=wlen_take_bd HV.out l k (by omega)
      have hby:=lenAt_bd HV.out mr
      have hcl:=covTov_len p (l.map endNo) (front - len) front k
      have hhf:=endNo_half (e:=⟨mr,ml⟩)
      have hod:=endNo_odd ⟨mr,ml⟩
      obtain⟨s,hX⟩:∃x,wlen p ((l.take k).map endNo)=x:=⟨_,rfl⟩
      obtain⟨y,hY⟩:∃x,lenAt p mr=x:=⟨_,rfl⟩
      rw [hX] at hbx hs1 hcs ⊢
      simp only [hY] at hby hs1
      have HS1:=Z hs1;have HY:=Z hY
      have hx0:=hbx.1;have hx1:=hbx.2;have hy0:=hby.1;have hy1:=hby.2
      have HCS:=Z (show covTov p (l.map endNo) (front - len) front (k+1)=covTov p (l.map endNo) (front - len) front k ++ (if max (front - len - s) 0≥min (front - s) y then [] else if ml=true then [⟨mr,y - min (front - s) y,y - max (front - len - s) 0⟩] else [⟨mr,max (front - len - s) 0,min (front - s) y⟩]) by
        rw [hcs]
        unfold covOnv
        rw [hhf]
        simp only [hY]
        rw [hod]
        cases ml <;> simp)
      subst e1
      clear hx hX hY hs1 hri hbx hby hcs hhf hod
      go_upto_region 6 with (fail)
      go_cut [12] from 15 to 27 (fun s12 wx=>s12=O U y∧Below wr.heap.size wr wx)
      case first=>
        have hbq:Below wr.heap.size wr wr.drew:=(Below.refl _ _).drew
        first
          | (go_region_held3 (fun w'=>w'.cell? ⟨w.heap.size,0,none⟩=some (.slice A p.nodes.length c)∧w'.cell? ⟨w.heap.size,1,none⟩=some (.slice A2 p.rails.length c2)∧w'.cell? ⟨b1,o1+k * 2,none⟩=some (O U mr))
              (exact⟨(hbq.cell (p:=⟨w.heap.size,0,none⟩) hr0).trans k0,(hbq.cell (p:=⟨w.heap.size,1,none⟩) hr0).trans k1,(hbq.cell (p:=⟨b1,o1+k * 2,none⟩) g1).trans q0⟩)
              ((first
                | (go_at_call 69;have hpw:=(HPw.out.below hbq).more hbq.size;have hlc:=rLength_in A A2 c c2 p mr _ hpw HV.out HRI.out;rw [HY.out] at hlc;(with_reducible refine hlc.mono ?_);rintro e w5 ⟨rfl,hb5⟩;replace hbq:=hbq.trans (hb5.mono hbq.size)))))
          | fail "held3"
        all_goals
          go_wp2_with fail
          go_meet
          exact⟨rfl,hbq⟩
      case rest=>
      obtain⟨rfl,hbq⟩:=hcut
      have hzc:=hbq.size
      replace q0:=(hbq.cell (p:=⟨b1,o1+k * 2,none⟩) g1).trans q0
      replace q1:=(hbq.cell (p:=⟨b1,o1+k * 2+1,none⟩) g1).trans q1
      have HO2:=Z (HO.out.below hbq (Nat.le_refl _))
      have HB2:=Z (HBR.out.trans (hbq.mono hzw))
      clear hbq HO HBR k0 k1
      have hzw2:W1.heap.size≤wc.heap.size:=by omega
      obtain⟨a,ha⟩:∃x,max (front - len) s=x:=⟨_,rfl⟩
      obtain⟨b,hb⟩:∃x,min front (s+y)=x:=⟨_,rfl⟩
      have ha1:s≤a:=by omega
      have ha2:a≤20000000000000:=by omega
      have hb1:b≤10000000000000:=by omega
      have hb2:0≤b:=by omega
      have HAB:=Z (show max (front - len - s) 0=a - s∧min (front - s) y=b - s by omega)
      rw [HAB.out.1,HAB.out.2] at HCS
      by_cases c3:a - s≥b - s
      · have d3:decide (b - s≤a - s)=true:=by rw [decide_eq_true_iff];exact c3
        have d5:b≤a:=by omega
        have HC:=Z (show covTov p (l.map endNo) (front - len) front (k+1)=covTov p (l.map endNo) (front - len) front k by rw [HCS.out,if_pos c3];simp)
        go_wp2
        go_roundw
        case rel=>exact⟨k+1,by omega,by go_num,by rw [HS1.out],by rw [HC.out];exact HO2.out,HB2.out⟩
        case measure=>simp [intOf];omega
      have d3:decide (b - s≤a - s)=false:=by rw [decide_eq_false_iff_not];exact c3
      have d5:decide (b≤a)=false:=by rw [decide_eq_false_iff_not];omega
      have d6:¬b≤a:=by omega
      have HC0:=Z (HCS.out.trans (by rw [if_neg c3]))
      clear c3
      cases ml
      · have HC:=Z (show covTov p (l.map endNo) (front - len) front (k+1)=covTov p (l.map endNo) (front - len) front k ++ [⟨mr,a - s,b - s⟩] by rw [HC0.out];rfl)
        go_wp2_with (at_builtin;go_must (refine wpList_app _ rfl (.tmp 59) (.tmp 68) _ rfl W1.heap.size 205 i0 _ 3 24 Tryz.underlying202 hi hz0 hz1 hz2 rfl (by omega) fCv_len fCv_one u9 _ rfl (HO2.out.alloc _) _ _ [(⟨mr,a - s,b - s⟩:Cv3)] 1 rfl (Sl.new _ _ (⟨mr,a - s,b - s⟩:Cv3) _ rfl) (by unfold maxLen;simp only [List.length_cons,List.length_nil];omega) (by simp only [List.length_cons,List.length_nil];omega) (by simp;omega) (fun _=> .inr ⟨_,rfl⟩) ?_);intro v2 w2 o2 gr2 at2 ne2)
        go_roundw
        case rel=>exact⟨k+1,by omega,by go_num,by rw [HS1.out],by rw [HC.out];exact o2,(HB2.out.alloc (by omega) _).grown gr2 (by simp;omega) (fun k hk=>(HO2.out.lt k hk).1)⟩
        case measure=>simp [intOf];omega
      · have HC:=Z (show covTov p (l.map endNo) (front - len) front (k+1)=covTov p (l.map endNo) (front - len) front k ++ [⟨mr,y - (b - s),y - (a - s)⟩] by rw [HC0.out];rfl)
        go_wp2_with (at_builtin;go_must (refine wpList_app _ rfl (.tmp 59) (.tmp 68) _ rfl W1.heap.size 205 i0 _ 3 24 Tryz.underlying202 hi hz0 hz1 hz2 rfl (by omega) fCv_len fCv_one u9 _ rfl (HO2.out.alloc _) _ _ [(⟨mr,y - (b - s),y - (a - s)⟩:Cv3)] 1 rfl (Sl.new _ _ (⟨mr,y - (b - s),y - (a - s)⟩:Cv3) _ rfl) (by unfold maxLen;simp only [List.length_cons,List.length_nil];omega) (by simp only [List.length_cons,List.length_nil];omega) (by simp;omega) (fun _=> .inr ⟨_,rfl⟩) ?_);intro v2 w2 o2 gr2 at2 ne2)
        go_roundw
        case rel=>exact⟨k+1,by omega,by go_num,by rw [HS1.out],by rw [HC.out];exact o2,(HB2.out.alloc (by omega) _).grown gr2 (by simp;omega) (fun k hk=>(HO2.out.lt k hk).1)⟩
        case measure=>simp [intOf];omega
    · obtain rfl:k=l.length:=by omega
      have ho2:=HO.out
      rw [show covTov p (l.map endNo) (front - len) front l.length=covLv p (l.map endNo) (front - len) front by unfold covLv;rw [List.length_map]] at ho2
      obtain⟨B9,d9,rfl,_,_,_⟩:=ho2.form
      have HS9:=Z ((ho2.sl fCv_len rfl).keep (w':=wr) (fun _ _ h=>h) fun _ _=>rfl)
      have HBZ:=Z (HB0.out.trans (HBR.out.mono (by omega)))
      clear ho2 HO
      go_wp2
      go_ret
      exact⟨⟨_,_,rfl,HS9.out⟩,HBZ.out⟩
end Go.Proofs.YtfhkbbjddjddmaaGreat
