/- Contract: the reference's Limit. -/
import Derived.Test.YtfhkbbjddjddmaaGreatM55
set_option linter.unusedVariables false
set_option linter.unusedSimpArgs false
open Go.Value renaming int→O
open Go.IntKind renaming i64→U
open Go.Lib renaming hid→Z
namespace Go.Proofs.YtfhkbbjddjddmaaGreat
open Go.RowKit Go.Shelf Go.Lib Go.BigFrame
theorem lenAt_pos {p:Pl} (hV:Vld p) {k:Nat} (hk:k<p.rails.length):1≤lenAt p (k:Int):=by
 rw [←lenAt_rail hk]
 have h:=(okL_iff _).1 (rail_facts hV hk).2.2.2.1
 have hl:(lineOf p p.rails[k]).length=p.rails[k].shape.length+2:=by simp [lineOf]
 generalize lineOf p p.rails[k]=L at *
 have h0:okD (sAt L 0) (sAt L 1)=true:=h 0 (by omega)
 have hf:1≤far (sAt L 0) (sAt L 1):=by
  unfold okD at h0
  have h0:=of_decide_eq_true h0
  obtain⟨h1,h2⟩:=isq_spec (sqd (sAt L 0) (sAt L 1)) (by omega)
  unfold far
  rcases Nat.eq_zero_or_pos (isq (sqd (sAt L 0) (sAt L 1))) with e|e
  ·rw [e] at h2;simp at h2;omega
  ·exact e
 have hm:∀j,1≤lenTo L (j+1):=fun j=>by
  induction j with
  | zero=>unfold lenTo;simpa [lenTo] using hf
  | succ j ih=>rw [lenTo];omega
 unfold lenOf
 rw [show L.length - 1=(L.length - 2)+1 by omega]
 have:=hm (L.length - 2)
 omega
def limCov (p:Pl) (cs:List Cv3) (sp:Int) (k:Nat):Int:=(cs.take k).foldl (fun s c=>min s (((p.rails[c.rail.toNat]?).map (·.limit)).getD 0)) sp
theorem limCov_succ {p:Pl} {cs:List Cv3} {sp:Int} {k:Nat} (h:k<cs.length):limCov p cs sp (k+1)=min (limCov p cs sp k) (((p.rails[cs[k].rail.toNat]?).map (·.limit)).getD 0):=by
 unfold limCov
 rw [List.take_succ_eq_append_getElem h,List.foldl_append];rfl
theorem limCov_all {p:Pl} (hV:Vld p) {l:List E} {t:Tr} {x:Int} (hr:∀e∈l,0≤e.rail∧e.rail<(p.rails.length:Int)) (hlen:1≤t.len):∀k,k≤l.length→
  (covTov p (l.map endNo) (x - t.len) x k).foldl (fun s c=>min s (((p.rails[c.rail.toNat]?).map (·.limit)).getD 0)) t.speed=limAll (covB (begTo p l l.length) t.len x) (limAt p l) t.speed k:=by
 intro k
 induction k with
 | zero=>intro _;rfl
 | succ k ih=>
  intro hk
  rw [covTov_succ p (l.map endNo) _ _ (by rw [List.length_map];omega),List.foldl_append,ih (by omega),limAll]
  have hb1:(begTo p l l.length).getD k 0=begAt p l k:=begTo_getD (by omega)
  have hb2:(begTo p l l.length).getD (k+1) 0=begAt p l k+lenAt p l[k].rail:=by rw [begTo_getD (by omega),begAt_succ (by omega)]
  have hbe:wlen p ((l.map endNo).take k)=begAt p l k:=by unfold begAt;rw [List.map_take]
  have hlb:1≤lenAt p l[k].rail:=by
   have h:=hr l[k] (List.getElem_mem _)
   obtain⟨q,hq⟩:=Int.eq_ofNat_of_zero_le h.1
   rw [hq]
   exact lenAt_pos hV (by omega)
  rw [hbe,List.getElem_map]
  have hlm:limAt p l k=((p.rails[l[k].rail.toNat]?).map (·.limit)).getD 0:=by unfold limAt;rw [List.getElem?_eq_getElem (l:=l) (i:=k) (by omega)];rfl
  unfold covOnv covB
  rw [endNo_half,hb1,hb2,hlm]
  split
  ·rename_i h
   have:(decide (x - t.len<begAt p l k+lenAt p l[k].rail) && decide (begAt p l k<x))=false:=by
    rw [Bool.and_eq_false_iff,decide_eq_false_iff_not,decide_eq_false_iff_not];omega
   rw [this];rfl
  ·rename_i h
   have:(decide (x - t.len<begAt p l k+lenAt p l[k].rail) && decide (begAt p l k<x))=true:=by
    rw [Bool.and_eq_true,decide_eq_true_iff,decide_eq_true_iff];omega
   rw [this]
   split <;> rfl
theorem limR_cov {p:Pl} (hV:Vld p) {l:List E} {t:Tr} {x:Int} (hr:∀e∈l,0≤e.rail∧e.rail<(p.rails.length:Int)) (hlen:1≤t.len):limCov p (covLv p (l.map endNo) (x - t.len) x) t.speed (covLv p (l.map endNo) (x - t.len) x).length=limR p l t x:=by
 unfold limCov limR covLv
 rw [List.take_length,List.length_map]
 exact limCov_all hV hr hlen _ (Nat.le_refl _)
theorem cov_rail {p:Pl} {l:List E} {a b:Int} (hr:∀e∈l,0≤e.rail∧e.rail<(p.rails.length:Int)):∀c∈covLv p (l.map endNo) a b,0≤c.rail∧c.rail<(p.rails.length:Int):=by
 intro c hc
 unfold covLv covTov at hc
 obtain⟨j,hj,hc⟩:=List.mem_flatMap.1 hc
 have hjl:j<l.length:=by simpa using List.mem_range.1 hj
 have he:((l.map endNo)[j]?).getD 0 / 2=l[j].rail:=by rw [List.getElem?_map,List.getElem?_eq_getElem hjl];exact endNo_half
 have h:=hr l[j] (List.getElem_mem _)
 unfold covOnv at hc
 split at hc
 ·cases hc
 ·split at hc <;>
  ·obtain rfl:=List.mem_singleton.1 hc
   show 0≤_ / 2∧_ / 2<_
   rw [he];exact h
theorem covv_at {w:World} {B:Nat} {l:List Cv3} {A:Option Addr} (h:Sl w B 3 CCv A l) {i:Nat} (hi:i<l.length) :
  ∃b off,A=some ⟨b,off,none⟩∧b<B∧w.cell? ⟨b,off+i * 3,none⟩=some (O U l[i].rail):=by
 obtain⟨b,off,cs,e,hb,rfl,hc⟩:=h.at_ hi
 exact⟨b,off,e,hb,by have:=hc 0 _ rfl;simpa using this⟩
set_option maxRecDepth 100000 in
set_option maxHeartbeats 4000000 in
theorem rLimit_any (A A2:Option Addr) (c c2:Nat) (p:Pl) (Aw:Option Addr) (cw n:Nat) (l:List E) (t:Tr) (At:Option Addr) (nt ct:Nat) (x:Int) (w:World) (hP:PlAt w w.heap.size A c A2 c2 p) (hV:Vld p) (hA:Sl w w.heap.size 2 CE Aw l) (hn:l.length=n) (hl1:1≤n) (hl:n≤2000) (hr:∀e∈l,0≤e.rail∧e.rail<(p.rails.length:Int)) (ht:TrOk t) (hx1:t.len≤x) (hx2:x≤10000000000000) :
  Calls Tryz.prog 115 #[.agg #[.slice A p.nodes.length c,.slice A2 p.rails.length c2],.slice Aw n cw,.agg #[O U t.mass,O U t.len,O U t.speed,O U t.effort,O U t.brake,O U t.power,O U t.resist,O U t.rise,O U t.back,.slice At nt ct],O U x] w fun e' w'=>e'= .returned (O U (limR p l t x))∧Below w.heap.size w w':=by
 have hb1:=((Below.refl w.heap.size w).alloc (Nat.le_refl _) (.cells #[.slice A p.nodes.length c,.slice A2 p.rails.length c2] 60)).alloc (by simp) (.cells #[O U t.mass,O U t.len,O U t.speed,O U t.effort,O U t.brake,O U t.power,O U t.resist,O U t.rise,O U t.back,.slice At nt ct] 24)
 obtain⟨q1,q2⟩:=rows2 w #[.slice A p.nodes.length c,.slice A2 p.rails.length c2] #[O U t.mass,O U t.len,O U t.speed,O U t.effort,O U t.brake,O U t.power,O U t.resist,O U t.rise,O U t.back,.slice At nt ct] 60 24
 have hrc:=hP.rc;have hrm:=hP.rm
 obtain⟨W1,hW1⟩:∃z,(w.alloc (.cells #[.slice A p.nodes.length c,.slice A2 p.rails.length c2] 60)).alloc (.cells #[O U t.mass,O U t.len,O U t.speed,O U t.effort,O U t.brake,O U t.power,O U t.resist,O U t.rise,O U t.back,.slice At nt ct] 24)=z:=⟨_,rfl⟩
 rw [hW1] at hb1 q1 q2
 obtain⟨B0,hB0⟩:∃B,w.heap.size=B:=⟨_,rfl⟩
 rw [hB0] at q1 q2
 have HB1:=Z hb1;have HBE:=Z hB0
 have HK:=Z (show ∀wx,Below W1.heap.size W1 wx→PlAt wx wx.heap.size A c A2 c2 p∧Sl wx wx.heap.size 2 CE Aw l∧Rw wx B0 60 #[.slice A p.nodes.length c,.slice A2 p.rails.length c2]∧Rw wx (B0+1) 24 #[O U t.mass,O U t.len,O U t.speed,O U t.effort,O U t.brake,O U t.power,O U t.resist,O U t.rise,O U t.back,.slice At nt ct] from fun wx h=>by
  have hb:=hb1.trans (h.mono hb1.size)
  have hz:=Nat.le_trans hb1.size h.size
  exact⟨(hP.below hb).more hz,(hA.below hb).more (fun _ _ h=>h) hz,q1.below h q1.lt,q2.below h q2.lt⟩)
 have HR:=Z hr;have HV:=Z hV;have HN:=Z hn;have HT:=Z ht
 have e0:=q1.cell 0;have e1:=q1.cell 1;have f1:=q2.cell 1;have f2:=q2.cell 2
 obtain⟨cs,hcs⟩:∃cs,covLv p (l.map endNo) (x - t.len) x=cs:=⟨_,rfl⟩
 obtain⟨R,hR⟩:∃R,limR p l t x=R:=⟨_,rfl⟩
 rw [hR]
 have HRR:=Z (show limCov p cs t.speed cs.length=R from by rw [←hcs,←hR];exact limR_cov hV hr ht.l1)
 have HCR:=Z (show ∀c∈cs,0≤c.rail∧c.rail<(p.rails.length:Int) from by rw [←hcs];exact cov_rail hr)
 have hlen0:cs.length≤2000:=by rw [←hcs];have:=covTov_len p (l.map endNo) (x - t.len) x (l.map endNo).length;unfold covLv;rw [List.length_map] at this ⊢;omega
 have HCO:=Z (show ∀wx,Below W1.heap.size W1 wx→Calls Tryz.prog 137 #[.agg #[.slice A p.nodes.length c,.slice A2 p.rails.length c2],.slice Aw n cw,O U x,O U t.len] wx fun e w'=>∃B d,e= .returned (.slice B cs.length d)∧Sl w' w'.heap.size 3 CCv B cs∧Below wx.heap.size wx w' from fun wx h=>by
  obtain⟨k1,k2,_⟩:=HK.out wx h
  have:=rCovers_any A A2 Aw c c2 cw p l x t.len wx k1 k2 hV (by omega) (fun j hj=>by have:=hr l[j] (List.getElem_mem _);unfold railIn;exact decide_eq_true ⟨by omega,by omega⟩) ht.l1 hx1 hx2
  rw [hn] at this
  refine this.mono ?_
  rintro e w' ⟨⟨B,d,rfl,hs⟩,hb⟩
  rw [hcs] at hs ⊢
  exact⟨B,d,rfl,hs,hb⟩)
 have HX1:=Z (Below.refl W1.heap.size W1)
 clear hb1 q1 q2 hP hA hr hV hn hR hrc ht hcs
 go_enter Tryz.func115,Tryz.ntmps115
 go_upto_region 1 with (fail)
 have hbq:Below W1.heap.size W1 W1:=HX1.out
 go_wp2_with fail
 (with_reducible refine (HCO.out _ HX1.out).mono ?_)
 rintro e w2 ⟨Bc,dc,rfl,hsc,hb2⟩
 have HX2:=Z hb2
 have HSC:=Z hsc
 have f2:=(HK.out _ hb2).2.2.2.cell 2
 clear hb2 hsc e0 e1 f1 hW1 hbq hB0
 go_wp2
 clear f2
 go_loopw [10,11] (fun s10 s11 wr=>∃k:Nat,k≤cs.length∧s11=O U (k:Int)∧s10=O U (limCov p cs t.speed k)∧Below w2.heap.size w2 wr) (fun _ s11 _=>cs.length - (intOf s11).toNat)
 case atStart=>exact⟨0,Nat.zero_le _,rfl,rfl,Below.refl _ _⟩
 case round=>
  obtain⟨k,hk,rfl,rfl,hbr⟩:=hrel
  have hbb:=HX2.out.trans (hbr.mono HX2.out.size)
  have HBR:=Z hbr;have HBB:=Z hbb
  obtain⟨hPr,_,p0,_⟩:=HK.out _ hbb
  have e1:=p0.cell 1
  by_cases hkn:k<cs.length
  ·have hki:(k:Int)<(cs.length:Int):=by omega
   have hk0:(0:Int)≤(k:Int):=by omega
   obtain⟨b1,o1,ea,g1,q0⟩:=covv_at (HSC.out.below hbr) hkn
   subst ea
   have hsu:=limCov_succ (p:=p) (sp:=t.speed) hkn
   have hrr:=HCR.out cs[k] (List.getElem_mem _)
   obtain⟨rl,hrl⟩:=Int.eq_ofNat_of_zero_le hrr.1
   have hrn:rl<p.rails.length:=by have:=hrr.2;omega
   rw [hrl] at q0 hsu
   obtain⟨b,off,A',c',eb,hb,hE,hc1,hc2,r0,r1,r2,r3,r4⟩:=hPr.rail hrn
   subst eb
   obtain⟨lm,hlm⟩:∃s,p.rails[rl].limit=s:=⟨_,rfl⟩
   rw [hlm] at r3
   rw [show ((rl:Int)).toNat=rl by simp,List.getElem?_eq_getElem hrn] at hsu
   replace hsu:limCov p cs t.speed (k+1)=min (limCov p cs t.speed k) lm:=by rw [hsu,←hlm];rfl
   obtain⟨s0,hs0⟩:∃s,limCov p cs t.speed k=s:=⟨_,rfl⟩
   rw [hs0] at hsu ⊢
   have HSU:=Z hsu
   have hri:(rl:Int)<(p.rails.length:Int):=by omega
   have hri0:(0:Int)≤(rl:Int):=by omega
   have HKN:=Z hkn
   have hlen1:cs.length≤2000:=hlen0
   clear hbr hbb hPr p0 hsu hrr hrl hE r0 r1 r2 r4 hlm hs0 hkn
   go_upto_region 6 with (fail)
   go_quiet (fail)
   go_wp2
   go_roundw
   case rel=>exact⟨k+1,by have:=HKN.out;omega,by go_num,by rw [HSU.out],bDrewN HBR.out _⟩
   case measure=>have:=HKN.out;simp [intOf];omega
  ·have hki:¬(k:Int)<(cs.length:Int):=by omega
   obtain rfl:k=cs.length:=by omega
   have HRS:=Z HRR.out
   clear hbr hbb hPr p0
   go_wp2
   go_ret
   exact⟨by rw [HRS.out];rfl,HB1.out.trans (HBB.out.mono HB1.out.size)⟩
end Go.Proofs.YtfhkbbjddjddmaaGreat
