/- Texts M36 M37. -/
import Derived.Test.YtfhkbbjddjddmaaGreatJS
import Derived.Test.YtfhkbbjddjddmaaGreatJG
import Derived.Test.YtfhkbbjddjddmaaGreatMd
import Derived.Deep.DeepMust
set_option linter.unusedVariables false
set_option linter.unusedSimpArgs false
open Go.Value renaming int→O
open Go.IntKind renaming i64→U
open Go.Lib renaming hid→Z
namespace Go.Proofs.YtfhkbbjddjddmaaGreat
open Go.RowKit
theorem rail_facts {p:Pl} (hV:Vld p) {k:Nat} (hk:k<p.rails.length):nodeIx p p.rails[k].frm∧nodeIx p p.rails[k].to∧p.rails[k].shape.length≤30∧okL (lineOf p p.rails[k])=true∧allR (lineOf p p.rails[k])∧1≤p.rails[k].limit∧p.rails[k].limit≤50000∧ -120≤p.rails[k].slope∧p.rails[k].slope≤120:=by
 have h:=hV.rail hk
 obtain⟨x1,x2,x3⟩:=railB_ix h.1
 have hr:=h.1
 simp only [railB,railN,Bool.and_eq_true,decide_eq_true_eq] at hr
 refine⟨x1,x2,x3,h.2,allR_line (fun j hj=> ?_) h.1,hr.1.2.2.2.2.2.1,hr.1.2.2.2.2.2.2.1,hr.1.2.2.2.2.2.2.2.1,hr.1.2.2.2.2.2.2.2.2⟩
 have:=List.all_eq_true.1 hV.nodes _ (List.getElem_mem hj)
 simp only [nodeB,Bool.and_eq_true] at this
 exact this.1
def slpE (p:Pl) (e:E):Int:=if e.last=true then -(((p.rails[e.rail.toNat]?).map (·.slope)).getD 0) else ((p.rails[e.rail.toNat]?).map (·.slope)).getD 0
def limAt (p:Pl) (l:List E) (i:Nat):Int:=((p.rails[(((l[i]?).getD E0).rail).toNat]?).map (·.limit)).getD 0
def limGo (p:Pl) (l:List E) (bs:List Int) (x:Int):Nat→Nat→Int→Int
 | 0,_,s=>s
 | f+1,i,s=>if i<l.length∧bs.getD i 0<x then limGo p l bs x f (i+1) (min s (limAt p l i)) else s
theorem limGo_end {p:Pl} {l:List E} {bs:List Int} {x:Int} {f i:Nat} {s:Int} (h:¬(i<l.length∧bs.getD i 0<x)):limGo p l bs x f i s=s:=by
 cases f with
 | zero=>rfl
 | succ f=>rw [limGo,if_neg h]
set_option maxRecDepth 100000 in
set_option maxHeartbeats 4000000 in
theorem slopeOf_any (A A2:Option Addr) (c c2:Nat) (p:Pl) (k:Nat) (d:Bool) (w:World) (hP:PlAt w w.heap.size A c A2 c2 p) (hV:Vld p) (hk:k<p.rails.length) :
  Calls Tryz.prog 85 #[.agg #[.slice A p.nodes.length c,.slice A2 p.rails.length c2],.agg #[O U (k:Int),.bool d]] w fun e' w'=>e'= .returned (O U (slpE p ⟨(k:Int),d⟩))∧Below w.heap.size w w':=by
 obtain⟨_,_,_,_,_,_,_,f1,f2⟩:=rail_facts hV hk
 have hb1:=((Below.refl w.heap.size w).alloc (Nat.le_refl _) (.cells #[.slice A p.nodes.length c,.slice A2 p.rails.length c2] 60)).alloc (by simp) (.cells #[O U (k:Int),.bool d] 77)
 obtain⟨q1,q2⟩:=rows2 w #[.slice A p.nodes.length c,.slice A2 p.rails.length c2] #[O U (k:Int),.bool d] 60 77
 have hP1:=hP.below hb1
 have hrc:=hP.rc;have hrm:=hP.rm
 obtain⟨W1,hW1⟩:∃z,(w.alloc (.cells #[.slice A p.nodes.length c,.slice A2 p.rails.length c2] 60)).alloc (.cells #[O U (k:Int),.bool d] 77)=z:=⟨_,rfl⟩
 rw [hW1] at hb1 q1 q2 hP1
 obtain⟨b,off,A',c',rfl,hb,hE,hc1,hc2,k0,k1,k2,k3,k4⟩:=hP1.rail hk
 obtain⟨s,hs⟩:∃s,p.rails[k].slope=s:=⟨_,rfl⟩
 rw [hs] at k4 f1 f2
 have hg:((p.rails[((k:Int)).toNat]?).map (·.slope)).getD 0=s:=by rw [show ((k:Int)).toNat=k by simp,List.getElem?_eq_getElem hk,←hs];rfl
 have hsl:slpE p ⟨(k:Int),d⟩=if d=true then -s else s:=by unfold slpE;simp only [hg]
 rw [hsl]
 have hwn:IntKind.i64.wrap (-s)= -s:=by rw [IntKind.wrap_i64];omega
 have e0:=q2.cell 0;have e1:=q2.cell 1;have p0:=q1.cell 0;have p1:=q1.cell 1
 have HB1:=Z hb1
 have hki:(k:Int)<(p.rails.length:Int):=by omega
 clear hb1 q1 q2 hP hP1 hE hs hg hsl k0 k1 k2 k3
 go_enter Tryz.func85,Tryz.ntmps85
 cases d with
 | true=>
  go_wp2
  go_ret
  exact⟨rfl,HB1.out⟩
 | false=>
  go_wp2
  go_ret
  exact⟨rfl,HB1.out⟩
set_option maxRecDepth 100000 in
set_option maxHeartbeats 4000000 in
theorem limitOf_any (A A2:Option Addr) (c c2:Nat) (p:Pl) (Aw:Option Addr) (cw:Nat) (l:List E) (Ab:Option Addr) (cb nb:Nat) (bs:List Int) (rear:Nat) (x sp:Int) (w:World) (hP:PlAt w w.heap.size A c A2 c2 p) (hV:Vld p) (hA:Sl w w.heap.size 2 CE Aw l) (hl:l.length≤100000) (hr:∀e∈l,0≤e.rail∧e.rail<(p.rails.length:Int)) (hB:Sl w w.heap.size 1 CI Ab bs) (hnb:bs.length=nb) (hbl:l.length≤nb) (hn1:nb≤1000000) (hre:rear≤l.length) :
  Calls Tryz.prog 86 #[.agg #[.slice A p.nodes.length c,.slice A2 p.rails.length c2],.slice Aw l.length cw,.slice Ab nb cb,O U (rear:Int),O U x,O U sp] w fun e' w'=>e'= .returned (O U (limGo p l bs x l.length rear sp))∧Below w.heap.size w w':=by
 have hb1:=(Below.refl w.heap.size w).alloc (Nat.le_refl _) (.cells #[.slice A p.nodes.length c,.slice A2 p.rails.length c2] 60)
 have q1:=Rw.new w #[.slice A p.nodes.length c,.slice A2 p.rails.length c2] 60
 have hP1:=hP.below hb1
 have hrc:=hP.rc;have hrm:=hP.rm
 have hA1:=hA.below hb1;have hB1:=hB.below hb1
 obtain⟨W1,hW1⟩:∃z,w.alloc (.cells #[.slice A p.nodes.length c,.slice A2 p.rails.length c2] 60)=z:=⟨_,rfl⟩
 rw [hW1] at hb1 q1 hP1 hA1 hB1
 have HB1:=Z hb1;have HP1:=Z (hP1.more hb1.size);have HA1:=Z (hA1.more (fun _ _ h=>h) hb1.size);have HBS:=Z (hB1.more (fun _ _ h=>h) hb1.size);have HQ1:=Z q1
 have HR:=Z hr;have HNB:=Z hnb;have HL:=Z hl;have HBL:=Z hbl;have HN1:=Z hn1
 obtain⟨n,hn⟩:∃n,l.length=n:=⟨_,rfl⟩
 have HN:=Z hn
 rw [hn] at hl hre hbl ⊢
 obtain⟨R,hRr⟩:∃R,limGo p l bs x n rear sp=R:=⟨_,rfl⟩
 rw [hRr]
 have HRR:=Z hRr
 clear hb1 q1 hP hP1 hA hA1 hB hB1 hr hnb hRr hbl hn1 hn
 go_enter Tryz.func86,Tryz.ntmps86
 go_wp2
 clear hW1
 go_loopw [5,13] (fun s5 s13 wr=>∃(f i:Nat) (s:Int),rear≤i∧i≤n∧n - i≤f∧s13=O U (i:Int)∧s5=O U s∧limGo p l bs x f i s=R∧Below W1.heap.size W1 wr) (fun _ s13 _=>n - (intOf s13).toNat)
 case atStart=>exact⟨n,rear,sp,Nat.le_refl _,hre,by omega,rfl,rfl,HRR.out,Below.refl _ _⟩
 case round=>
  obtain⟨f,i,s,hri,hin,hfi,rfl,rfl,hgo,hbr⟩:=hrel
  have HF:=Z (And.intro hri (And.intro hin (And.intro hfi hgo)))
  have HBR:=Z hbr
  have q2:=HQ1.out.below hbr HQ1.out.lt
  have p0:=q2.cell 0;have p1:=q2.cell 1
  have hn105:n≤100000:=hl
  by_cases hi:i<n
  ·obtain⟨b,o,hAb,hb,c0⟩:=int_at (HBS.out.below hbr) (i:=i) (by have:=HNB.out;have:=HBL.out;have:=HN.out;omega)
   subst hAb
   obtain⟨z,hz⟩:∃z,bs[i]'(by have:=HNB.out;have:=HBL.out;have:=HN.out;omega)=z:=⟨_,rfl⟩
   rw [hz] at c0
   have hgz:bs.getD i 0=z:=by rw [List.getD_eq_getElem?_getD,List.getElem?_eq_getElem (by have:=HNB.out;have:=HBL.out;have:=HN.out;omega),hz];rfl
   have hii:(i:Int)<(n:Int):=by omega
   have hib:(i:Int)<(nb:Int):=by have:=HBL.out;have:=HN.out;omega
   have HI:=Z hi
   by_cases hzx:z<x
   ·obtain⟨b2,o2,e1,g1,d0,d1⟩:=end_at (HA1.out.below hbr) (i:=i) (by have:=HN.out;omega)
    subst e1
    obtain⟨el,hel⟩:∃el,l[i]'(by have:=HN.out;omega)=el:=⟨_,rfl⟩
    rw [hel] at d0 d1
    have hrr:=HR.out el (by rw [←hel];exact List.getElem_mem _)
    obtain⟨k,hk⟩:=Int.eq_ofNat_of_zero_le hrr.1
    rw [hk] at d0
    have hkl:k<p.rails.length:=by have:=hrr.2;omega
    have hki:(k:Int)<(p.rails.length:Int):=by omega
    obtain⟨b3,off,A',c',e3,hb3,hE,hc1,hc2,k0,k1,k2,k3,k4⟩:=(HP1.out.below hbr).rail hkl
    subst e3
    obtain⟨lm,hlm⟩:∃lm,p.rails[k].limit=lm:=⟨_,rfl⟩
    rw [hlm] at k3
    have hla:limAt p l i=lm:=by
     unfold limAt
     rw [List.getElem?_eq_getElem (show i<l.length by have:=HN.out;have:=HI.out;omega),hel]
     show ((p.rails[el.rail.toNat]?).map (·.limit)).getD 0=lm
     rw [hk,show ((k:Int)).toNat=k by simp,List.getElem?_eq_getElem hkl,←hlm];rfl
    have HGO:=Z (show ∃f',n - (i+1)≤f'∧limGo p l bs x f' (i+1) (min s lm)=R from by
     cases f with
     | zero=>omega
     | succ f=>exact⟨f,by omega,by rw [←hgo,limGo,if_pos ⟨by have:=HN.out;omega,by rw [hgz];exact hzx⟩,hla]⟩)
    clear hgo hbr hri hin hfi hel hrr hk hE k0 k1 k2 k4 hla hlm q2 hz hgz d1
    go_upto_region 4 with (fail)
    go_quiet (fail)
    go_wp2
    obtain⟨f',hf',hg'⟩:=HGO.out
    have hin:=HI.out;have hrr:=HF.out.1
    refine⟨⟨f',i+1,min s lm,by omega,by omega,hf',by simp,rfl,hg',bDrewN HBR.out _⟩, ?_⟩
    simp [intOf] <;> omega
   ·have hR:R=s:=by rw [←hgo];exact limGo_end (by rw [hgz];omega)
    have HRs:=Z hR
    clear hgo hbr hri hin hfi q2 hz hgz hR
    go_wp2
    go_ret
    exact⟨by rw [HRs.out];first|done|rfl,HB1.out.trans (HBR.out.mono HB1.out.size)⟩
  ·have hR:R=s:=by rw [←hgo];exact limGo_end (by have:=HN.out;omega)
   have HRs:=Z hR
   have hii:¬(i:Int)<(n:Int):=by omega
   clear hgo hbr hri hin hfi q2 hR
   go_wp2
   go_ret
   exact⟨by rw [HRs.out];first|done|rfl,HB1.out.trans (HBR.out.mono HB1.out.size)⟩
open Go.RowKit Go.Shelf Go.Lib Go.BigFrame
def begAt (p:Pl) (l:List E) (k:Nat):Int:=wlen p ((l.take k).map endNo)
def begTo (p:Pl) (l:List E) (k:Nat):List Int:=(List.range (k+1)).map (begAt p l)
theorem endNo_half {e:E}:endNo e / 2=e.rail:=by unfold endNo;split <;> omega
theorem begAt_succ {p:Pl} {l:List E} {k:Nat} (hk:k<l.length):begAt p l (k+1)=begAt p l k+lenAt p l[k].rail:=by
 unfold begAt
 rw [List.map_take,List.map_take,wlen_succ p (l.map endNo) (by simpa using hk),List.getElem_map,endNo_half]
theorem begAt_zero (p:Pl) (l:List E):begAt p l 0=0:=by simp [begAt,wlen]
theorem begAt_bd {p:Pl} (hV:Vld p) {l:List E} (hl:l.length≤2000) (k:Nat):0≤begAt p l k∧begAt p l k≤2214592512000:=by
 have h:=wlen_bd hV ((l.take k).map endNo)
 have h2:((l.take k).map endNo).length≤2000:=by rw [List.length_map,List.length_take];omega
 have h3:(((l.take k).map endNo).length:Int) * 1107296256≤2000 * 1107296256:=by omega
 unfold begAt
 omega
theorem begTo_len (p:Pl) (l:List E) (k:Nat):(begTo p l k).length=k+1:=by simp [begTo]
theorem begTo_get {p:Pl} {l:List E} {k i:Nat} (h:i<(begTo p l k).length):(begTo p l k)[i]=begAt p l i:=by simp [begTo]
theorem begTo_succ {p:Pl} {l:List E} {k:Nat}:begTo p l (k+1)=begTo p l k ++ [begAt p l (k+1)]:=by
 unfold begTo
 rw [List.range_succ (n:=k+1),List.map_append];rfl
theorem begTo_getD {p:Pl} {l:List E} {k i:Nat} (h:i≤k):(begTo p l k).getD i 0=begAt p l i:=by
 rw [List.getD_eq_getElem?_getD,List.getElem?_eq_getElem (by rw [begTo_len];omega),begTo_get];rfl
def bord (len:Int) (bs:List Int):List Int:=bs.flatMap fun b=> [b,b+1,b+len]
theorem bord_len (len:Int) (bs:List Int):(bord len bs).length=3 * bs.length:=by
 unfold bord
 induction bs with
 | nil=>rfl
 | cons b bs ih=>rw [List.flatMap_cons,List.length_append,ih];simp;omega
theorem bord_succ (len:Int) {bs:List Int} {k:Nat} (h:k<bs.length):bord len (bs.take (k+1))=bord len (bs.take k) ++ [bs[k],bs[k]+1,bs[k]+len]:=by
 unfold bord
 rw [List.take_succ_eq_append_getElem h,List.flatMap_append];rfl
def bordS (len:Int) (bs:List Int):List Int:=Lib.compact ((bord len bs).mergeSort fun x y=>decide (x≤y))
def advR (bs:List Int) (y:Int):Nat→Nat→Nat
 | 0,r=>r
 | f+1,r=>if bs.getD (r+1) 0≤y then advR bs y f (r+1) else r
def advF (bs:List Int) (n:Nat) (x:Int):Nat→Nat→Nat
 | 0,r=>r
 | f+1,r=>if r+1<n∧bs.getD (r+1) 0≤x then advF bs n x f (r+1) else r
theorem advR_end {bs:List Int} {y:Int} {f r:Nat} (h:¬bs.getD (r+1) 0≤y):advR bs y f r=r:=by
 cases f with
 | zero=>rfl
 | succ f=>rw [advR,if_neg h]
theorem advF_end {bs:List Int} {n:Nat} {x:Int} {f r:Nat} (h:¬(r+1<n∧bs.getD (r+1) 0≤x)):advF bs n x f r=r:=by
 cases f with
 | zero=>rfl
 | succ f=>rw [advF,if_neg h]
theorem Sl.new3 (w:World) (t:TypeId) (a b c:Int):Sl (w.alloc (.cells #[O U a,O U b,O U c] t)) (w.alloc (.cells #[O U a,O U b,O U c] t)).heap.size 1 (fun x cs=>cs=fI x) (some ⟨w.heap.size,0,none⟩) [a,b,c]:=by
 have h:=Rw.new w #[O U a,O U b,O U c] t
 intro _
 refine⟨w.heap.size,0,rfl,h.lt,fun j x hj=> ?_⟩
 match j,hj with
 | 0,hj=>cases hj;exact⟨_,rfl,fun e u hu=>by match e,hu with|0,hu=>cases hu;exact h.cell 0⟩
 | 1,hj=>cases hj;exact⟨_,rfl,fun e u hu=>by match e,hu with|0,hu=>cases hu;exact h.cell 1⟩
 | 2,hj=>cases hj;exact⟨_,rfl,fun e u hu=>by match e,hu with|0,hu=>cases hu;exact h.cell 2⟩
theorem compact_mem {l:List Int} {x:Int} (h:x∈Lib.compact l):x∈l:=by
 unfold Lib.compact Lib.compactUpTo at h
 obtain⟨j,hj,rfl⟩:=List.mem_map.1 h
 have hjl:=List.mem_range.1 (List.mem_filter.1 hj).1
 simp [hjl]
theorem bord_mem {len:Int} {bs:List Int} {x:Int} (h:x∈bord len bs):∃b∈bs,x=b∨x=b+1∨x=b+len:=by
 unfold bord at h
 obtain⟨b,hb,hx⟩:=List.mem_flatMap.1 h
 exact⟨b,hb,by simpa using hx⟩
theorem bordS_mem {len:Int} {bs:List Int} {x:Int} (h:x∈bordS len bs):∃b∈bs,x=b∨x=b+1∨x=b+len:=bord_mem (List.mem_mergeSort.1 (compact_mem h))
theorem bordS_len (len:Int) (bs:List Int):(bordS len bs).length≤3 * bs.length:=by
 have:=compact_le ((bord len bs).mergeSort fun x y=>decide (x≤y))
 rw [List.length_mergeSort,bord_len] at this
 exact this
def znAt (p:Pl) (l:List E) (bs:List Int) (sp x:Int) (r f:Nat):Zn:=⟨x,slpE p ((l[f]?).getD E0),limGo p l bs x l.length r sp⟩
def znsGo (p:Pl) (l:List E) (bs:List Int) (len last sp:Int):List Int→Nat→Nat→List Zn→List Zn
 | [],_,_,acc=>acc
 | x :: xs,r,f,acc=>if last<x then acc else
  znsGo p l bs len last sp xs (advR bs (x - len) l.length r) (advF bs l.length x l.length f) (acc ++ [znAt p l bs sp x (advR bs (x - len) l.length r) (advF bs l.length x l.length f)])
def zonesZ (p:Pl) (l:List E) (t:Tr) (last:Int):List Zn:=znsGo p l (begTo p l l.length) t.len last t.speed (bordS t.len (begTo p l l.length)) 0 0 []
def fZl (z:Zn):List Value:= [O U z.fr,O U z.sl,O U z.lim]
theorem fZl_len (z:Zn):(fZl z).length=3:=rfl
theorem fZl_one (z:Zn):∀u∈fZl z,u.oneCell'=true:=by simp [fZl,Value.oneCell']
theorem info141:(Tryz.prog.info? 141).map (fun i=>(i.zero,i.size,i.bytes))=some (some (.agg #[O U 0,O U 0,O U 0]),3,24):=by kernel_rfl
theorem lenAt_rail {p:Pl} {k:Nat} (hk:k<p.rails.length):((lenOf (lineOf p p.rails[k]):Nat):Int)=lenAt p (k:Int):=by
 unfold lenAt
 rw [show ((k:Int)).toNat=k by simp,List.getElem?_eq_getElem (by rw [lens_len];exact hk)]
 simp [lensOf,lenZ]
theorem Sl.of_own {α : Type} {f: α→List Value} {w:World} {B size:Nat} {e:TypeId} {v:Value} {l:List α} (hf:∀x,(f x).length=size) (h:Own w B e size f v l):∃A c,v= .slice A l.length c∧l.length≤c∧Sl w w.heap.size size (fun x cs=>cs=f x) A l:=by
 obtain⟨A,c,rfl,h1,_,_⟩:=h.form
 exact⟨A,c,rfl,h1,h.sl hf rfl⟩
set_option maxRecDepth 100000 in
set_option maxHeartbeats 4000000 in
theorem zones_any (A A2:Option Addr) (c c2:Nat) (p:Pl) (Aw:Option Addr) (cw:Nat) (l:List E) (t:Tr) (At:Option Addr) (nt ct:Nat) (last:Int) (w:World) (hP:PlAt w w.heap.size A c A2 c2 p) (hV:Vld p) (hA:Sl w w.heap.size 2 CE Aw l) (hl1:1≤l.length) (hl:l.length≤2000) (hr:∀e∈l,0≤e.rail∧e.rail<(p.rails.length:Int)) (ht:TrOk t) (hla:last≤begAt p l l.length) :
  Calls Tryz.prog 58 #[.agg #[.slice A p.nodes.length c,.slice A2 p.rails.length c2],.slice Aw l.length cw,.agg #[O U t.mass,O U t.len,O U t.speed,O U t.effort,O U t.brake,O U t.power,O U t.resist,O U t.rise,O U t.back,.slice At nt ct],O U last] w fun e' w'=>∃v,e'= .returned v∧Own w' w.heap.size 141 3 fZl v (zonesZ p l t last)∧Below w.heap.size w w':=by
 obtain⟨i3,hi3,hz3,hs3,hy3⟩:=info_parts info3
 obtain⟨i1,hi1,hz1,hs1,hy1⟩:=info_parts info141
 have hb1:=((Below.refl w.heap.size w).alloc (Nat.le_refl _) (.cells #[.slice A p.nodes.length c,.slice A2 p.rails.length c2] 60)).alloc (by simp) (.cells #[O U t.mass,O U t.len,O U t.speed,O U t.effort,O U t.brake,O U t.power,O U t.resist,O U t.rise,O U t.back,.slice At nt ct] 24)
 obtain⟨q1,q2⟩:=rows2 w #[.slice A p.nodes.length c,.slice A2 p.rails.length c2] #[O U t.mass,O U t.len,O U t.speed,O U t.effort,O U t.brake,O U t.power,O U t.resist,O U t.rise,O U t.back,.slice At nt ct] 60 24
 have hP1:=hP.below hb1
 have hrc:=hP.rc;have hrm:=hP.rm
 have hA1:=hA.below hb1
 have hsz:((w.alloc (.cells #[.slice A p.nodes.length c,.slice A2 p.rails.length c2] 60)).alloc (.cells #[O U t.mass,O U t.len,O U t.speed,O U t.effort,O U t.brake,O U t.power,O U t.resist,O U t.rise,O U t.back,.slice At nt ct] 24)).heap.size=w.heap.size+2:=by simp
 obtain⟨W1,hW1⟩:∃z,(w.alloc (.cells #[.slice A p.nodes.length c,.slice A2 p.rails.length c2] 60)).alloc (.cells #[O U t.mass,O U t.len,O U t.speed,O U t.effort,O U t.brake,O U t.power,O U t.resist,O U t.rise,O U t.back,.slice At nt ct] 24)=z:=⟨_,rfl⟩
 rw [hW1] at hb1 q1 q2 hP1 hA1 hsz
 obtain⟨B0,hB0⟩:∃B,w.heap.size=B:=⟨_,rfl⟩
 rw [hB0] at hsz hb1 q1 q2
 have HSZ:=Z hsz
 have HB1:=Z hb1
 have HKK:=Z (show ∀wx,Below W1.heap.size W1 wx→PlAt wx wx.heap.size A c A2 c2 p∧Sl wx wx.heap.size 2 CE Aw l∧Rw wx B0 60 #[.slice A p.nodes.length c,.slice A2 p.rails.length c2]∧Rw wx (B0+1) 24 #[O U t.mass,O U t.len,O U t.speed,O U t.effort,O U t.brake,O U t.power,O U t.resist,O U t.rise,O U t.back,.slice At nt ct] from fun wx h=>⟨((hP1.more hb1.size).below h).more h.size,((hA1.more (fun _ _ h=>h) hb1.size).below h).more (fun _ _ h=>h) h.size,q1.below h q1.lt,q2.below h q2.lt⟩)
 have HR:=Z hr;have HV:=Z hV;have HT:=Z ht
 obtain⟨n,hn⟩:∃n,l.length=n:=⟨_,rfl⟩
 have HN:=Z hn
 rw [hn] at hl hl1 hla ⊢
 have HLA:=Z hla
 have hbw:=Own.built (f:=fI) (size:=1) W1 W1.heap.size 3 (0:Int) #[O U 0] rfl fI_len (Nat.le_refl _)
 have HBW:=Z hbw
 obtain⟨R,hR⟩:∃R,zonesZ p l t last=R:=⟨_,rfl⟩
 rw [hR]
 have HRZ:=Z hR
 clear hR
 have hb2:=(Below.refl W1.heap.size W1).alloc (Nat.le_refl _) (.cells #[O U 0] 3)
 have HB2:=Z hb2
 clear hb1 q1 q2 hP hP1 hA hA1 hr ht hla hbw hb2 hsz hn
 go_enter Tryz.func58,Tryz.ntmps58
 go_wp2
 have HX1:=Z hW1
 clear hW1
 go_loopw [9,25] (fun s9 s25 wr=>∃k:Nat,k≤n∧s25=O U (k:Int)∧Own wr W1.heap.size 3 1 fI s9 (begTo p l k)∧Below W1.heap.size W1 wr) (fun _ s25 _=>n - (intOf s25).toNat)
 case atStart=>
  refine⟨0,Nat.zero_le _,rfl, ?_,HB2.out⟩
  rw [show begTo p l 0= [0] by simp [begTo,begAt_zero]]
  exact HBW.out
 case round=>
  obtain⟨k,hk,rfl,hown,hbr⟩:=hrel
  have HO:=Z hown;have HBR:=Z hbr
  obtain⟨hPr,hAr,p0r,p1r⟩:=HKK.out _ hbr
  by_cases hkn:k<n
  ·obtain⟨b2,o2,e2,g2,d0,d1⟩:=end_at hAr (i:=k) (by have:=HN.out;omega)
   subst e2
   obtain⟨el,hel⟩:∃el,l[k]'(by have:=HN.out;omega)=el:=⟨_,rfl⟩
   rw [hel] at d0 d1
   have hrr:=HR.out el (by rw [←hel];exact List.getElem_mem _)
   obtain⟨rl,hrl⟩:=Int.eq_ofNat_of_zero_le hrr.1
   have hrn:rl<p.rails.length:=by have:=hrr.2;omega
   rw [hrl] at d0
   obtain⟨x1,x2,x3,x4,x5,x6,x7,x8,x9⟩:=rail_facts HV.out hrn
   have hbs:=begAt_succ (p:=p) (l:=l) (k:=k) (by have:=HN.out;omega)
   rw [hel,hrl] at hbs
   have hbd:=begAt_bd HV.out (l:=l) (by have:=HN.out;omega) k
   have hlb:=lenAt_bd HV.out (rl:Int)
   have HBS:=Z hbs
   have hll:(lineOf p p.rails[rl]).length=p.rails[rl].shape.length+2:=by simp [lineOf]
   have HX:=Z (And.intro x1 (And.intro x2 (And.intro x3 (And.intro x4 (And.intro x5 hll)))))
   have e0:=p0r.cell 0;have e1:=p0r.cell 1
   have hb4:=(Below.refl wr.heap.size wr).alloc (Nat.le_refl _) (.cells #[O U (rl:Int),.bool el.last] 77)
   have n0:=Rw.new wr #[O U (rl:Int),.bool el.last] 77
   have HKN:=Z hkn
   have hki:(k:Int)<(n:Int):=by omega
   have HKI:=Z hki
   have HRN:=Z hrn
   have HBD:=Z (And.intro hbd hlb)
   have HB4:=Z hb4;have HN0:=Z n0
   clear hown hbr hPr hAr p0r p1r hel hrr hrl hbs hbd hlb hll x1 x2 x3 x4 x5 x6 x7 x8 x9 hb4 n0 hkn
   go_upto_region 5 with (fail)
   have hb4:=HB4.out;have n0:=HN0.out
   obtain⟨w4,hw4⟩:∃z,wr.alloc (.cells #[O U (rl:Int),.bool el.last] 77)=z:=⟨_,rfl⟩
   rw [hw4] at hb4 n0 ⊢
   have hbw4:=HBR.out.trans (hb4.mono HBR.out.size)
   obtain⟨hPr,hAr,p0r,p1r⟩:=HKK.out _ hbw4
   have f0:=p0r.cell 0;have f1:=p0r.cell 1;have f2:=n0.cell 0;have f3:=n0.cell 1
   have HP4:=Z hPr
   have hlt4:w4.heap.size=wr.heap.size+1:=by rw [←hw4];simp
   have HB44:=Z hb4
   have HBW4:=Z hbw4
   clear hw4 e0 e1 d0 d1 hPr hAr p0r p1r hb4 hbw4 n0 hki hlt4
   go_wp2_with fail
   (with_reducible refine (sLine_any A A2 c c2 p rl w4 HP4.out hrn HX.out.1 HX.out.2.1 (by have:=HX.out.2.2.1;omega)).mono ?_)
   rintro e w5 ⟨v,rfl,ho,hb5⟩
   obtain⟨A3,c3,rfl,hc31,hc32,_⟩:=ho.form
   have hS3:=ho.sl fS_len rfl
   have HB5:=Z hb5
   clear ho hb5 f0 f1 f2 f3
   go_wp2_with fail
   (with_reducible refine (sLength_any A3 (lineOf p p.rails[rl]) c3 _ hS3 (by have:=HX.out.2.2.1;have:=HX.out.2.2.2.2.2;omega) (by have:=HX.out.2.2.2.2.2;omega) HX.out.2.2.2.2.1).mono ?_)
   rintro e w6 ⟨rfl,hb6⟩
   rw [show lenRes (lineOf p (p.rails[rl]'hrn))= .tuple #[O U (lenAt p (rl:Int)),.bool true] by unfold lenRes;rw [if_pos HX.out.2.2.2.1,lenAt_rail hrn]]
   have hb46:=HB44.out.trans ((HB5.out.trans (hb6.mono HB5.out.size)).mono HB44.out.size)
   have hown6:=HO.out.below hb46 (Nat.le_refl _)
   have hbw6:=HBR.out.trans (hb46.mono HBR.out.size)
   obtain⟨A9,c9,h9,h9c,hs9⟩:=Sl.of_own fI_len hown6
   rw [begTo_len] at h9
   obtain⟨b9,o9,e9,g9,c0⟩:=int_at (hs9.more (fun x cs h=>h) (Nat.le_refl _)) (i:=k) (by rw [begTo_len];omega)
   subst e9
   rw [begTo_get] at c0
   obtain⟨bk,hbk⟩:∃b,begAt p l k=b:=⟨_,rfl⟩
   obtain⟨ln,hln⟩:∃b,lenAt p (rl:Int)=b:=⟨_,rfl⟩
   rw [hbk] at c0
   have hbd:=HBD.out
   rw [hbk,hln] at hbd
   rw [hln]
   have hwa:IntKind.i64.wrap (bk+ln)=bk+ln:=by rw [IntKind.wrap_i64];omega
   have HSU:=Z (show begTo p l (k+1)=begTo p l k ++ [bk+ln] from by rw [begTo_succ,HBS.out,hbk,hln])
   have HO6:=Z hown6;have HB6:=Z hbw6;have HH9:=Z h9
   have hk2000:k≤2000:=by omega
   rw [h9]
   have hkc:((k+1:Nat):Int) - 1=(k:Int):=by omega
   have hwk:IntKind.i64.wrap ((k:Int)+1 - 1)=(k:Int):=by rw [IntKind.wrap_i64];omega
   have hk1:(k:Int)<(k:Int)+1:=by omega
   clear hb46 hown6 hbw6 hs9 hb6 hS3 hbk hln hbd h9 h9c
   go_wp2_with (at_builtin;go_must (refine wpList_app _ rfl (.tmp 37) (.tmp 46) _ rfl W1.heap.size 3 i3 _ 1 8 Tryz.underlying22 hi3 hz3 hs3 hy3 rfl (by omega) fI_len fI_one _ (begTo p l k) HH9.out.symm (HO6.out.alloc _) _ _ [bk+ln] 1 rfl (Sl.new _ _ _ _ rfl) (by simp only [maxLen,List.length_cons,List.length_nil,begTo_len];omega) (by simp only [List.length_cons,List.length_nil,begTo_len];omega) (by have:=HB6.out.size;simp;omega) (fun _=> .inr ⟨_,rfl⟩) ?_);intro v2 w8 o2 gr2 at2 ne2)
   have hb8:=(HB6.out.alloc HB6.out.size (.cells #[O U (bk+ln)] 3)).grown gr2 (by have:=HB6.out.size;simp;omega) (fun q hq=>(HO6.out.lt q hq).1)
   have hkn:=HKN.out
   refine⟨⟨k+1,by omega,by simp,by rw [HSU.out];exact o2,hb8⟩, ?_⟩
   simp [intOf] <;> omega
  ·have hke:n=k:=by omega
   subst hke
   have hki:¬(n:Int)<(n:Int):=by omega
   obtain⟨W2,hW2⟩:∃z,z=wr:=⟨_,rfl⟩
   subst hW2
   obtain⟨A9,c9,h9,h9c,hs9⟩:=Sl.of_own fI_len hown
   rw [begTo_len] at h9 h9c
   have HS9:=Z (hs9.more (C':=CI) (fun x cs h=>h) (Nat.le_refl _))
   have HLT9:=Z (hown.lt)
   have HKR:=Z (show ∀wx,Below W2.heap.size W2 wx→PlAt wx wx.heap.size A c A2 c2 p∧Sl wx wx.heap.size 2 CE Aw l∧Rw wx B0 60 #[.slice A p.nodes.length c,.slice A2 p.rails.length c2]∧Rw wx (B0+1) 24 #[O U t.mass,O U t.len,O U t.speed,O U t.effort,O U t.brake,O U t.power,O U t.resist,O U t.rise,O U t.back,.slice At nt ct]∧Sl wx wx.heap.size 1 CI A9 (begTo p l n)∧Below W1.heap.size W1 wx from fun wx h=>by
    have hh:=HKK.out wx (HBR.out.trans (h.mono HBR.out.size))
    exact⟨hh.1,hh.2.1,hh.2.2.1,hh.2.2.2,(HS9.out.below h).more (fun _ _ h=>h) h.size,HBR.out.trans (h.mono HBR.out.size)⟩)
   rw [h9]
   clear hPr hAr p0r p1r hown hbr hs9 h9
   go_wp2
   go_loopw [14,51] (fun s14 s51 w2=>∃k:Nat,k≤n+1∧s51=O U (k:Int)∧Own w2 W2.heap.size 3 1 fI s14 (bord t.len ((begTo p l n).take k))∧Below W2.heap.size W2 w2) (fun _ s51 _=>n+1 - (intOf s51).toNat)
   case atStart=>exact⟨0,Nat.zero_le _,rfl,by rw [List.take_zero];exact Own.nil _ _ _ _ _,Below.refl _ _⟩
   case round=>
    obtain⟨k,hk,rfl,hown,hb2⟩:=hrel
    obtain⟨hPr,hAr,p0r,p1r,hSr,hbr⟩:=HKR.out _ hb2
    have HO2:=Z hown;have HB22:=Z hb2
    by_cases hkn:k<n+1
    ·obtain⟨b9,o9,e9,g9,c0⟩:=int_at hSr (i:=k) (by rw [begTo_len];omega)
     subst e9
     rw [begTo_get] at c0
     have hbd:=begAt_bd HV.out (l:=l) (by have:=HN.out;omega) k
     obtain⟨bk,hbk⟩:∃b,begAt p l k=b:=⟨_,rfl⟩
     have hgk:(begTo p l n)[k]'(by rw [begTo_len];omega)=bk:=by rw [begTo_get];exact hbk
     have HSU:=Z (show bord t.len ((begTo p l n).take (k+1))=bord t.len ((begTo p l n).take k) ++ [bk,bk+1,bk+t.len] from by rw [bord_succ t.len (by rw [begTo_len];omega),hgk])
     rw [hbk] at c0 hbd
     have ht1:=HT.out.l1;have ht2:=HT.out.l2
     have hw1:IntKind.i64.wrap (bk+1)=bk+1:=by rw [IntKind.wrap_i64];omega
     have hw2:IntKind.i64.wrap (bk+t.len)=bk+t.len:=by rw [IntKind.wrap_i64];omega
     have e1:=p1r.cell 1
     have hki:(k:Int)<(n:Int)+1:=by omega
     have hlk:(bord t.len ((begTo p l n).take k)).length≤6003:=by rw [bord_len,List.length_take];omega
     have HKN2:=Z hkn
     clear hPr hAr p0r p1r hSr hbr hown hb2 hbk hgk
     go_wp2_with (at_builtin;go_must (refine wpList_app _ rfl (.tmp 55) (.tmp 63) _ rfl W2.heap.size 3 i3 _ 1 8 Tryz.underlying22 hi3 hz3 hs3 hy3 rfl (by omega) fI_len fI_one u14 (bord t.len ((begTo p l n).take k)) rfl (HO2.out.alloc _) _ _ [bk,bk+1,bk+t.len] 3 rfl (Sl.new3 _ _ _ _ _) (by simp only [maxLen,List.length_cons,List.length_nil];omega) (by simp only [List.length_cons,List.length_nil];omega) (by have:=HB22.out.size;simp <;> omega) (fun _=> .inr ⟨_,rfl⟩) ?_);intro v2 w8 o2 gr2 at2 ne2)
     have hb8:=(HB22.out.alloc HB22.out.size (.cells #[O U bk,O U (bk+1),O U (bk+t.len)] 3)).grown gr2 (by have:=HB22.out.size;simp <;> omega) (fun q hq=>(HO2.out.lt q hq).1)
     have hkn:=HKN2.out
     refine⟨⟨k+1,by omega,by simp,by rw [HSU.out];exact o2,hb8⟩, ?_⟩
     simp [intOf] <;> omega
    ·have hke:k=n+1:=by omega
     subst hke
     have hki:¬(n:Int)+1<(n:Int)+1:=by omega
     obtain⟨W3,hW3⟩:∃z,z=wr:=⟨_,rfl⟩
     subst hW3
     have hta:(begTo p l n).take (n+1)=begTo p l n:=List.take_of_length_le (by rw [begTo_len];omega)
     rw [hta] at hown
     have hlo:(bord t.len (begTo p l n)).length≤100000:=by rw [bord_len,begTo_len];omega
     have HOA:=Z (And.intro hown hlo)
     clear hPr hAr p0r p1r hSr hbr hb2 HO2 hown hta hlo
     go_wp2_with fail
     (with_reducible refine (sort_more W3 HOA.out.1 HOA.out.2).mono ?_)
     rintro e w4 ⟨rfl,gr4,o4⟩
     have hb4:=HB22.out.grown gr4 HB22.out.size (fun q hq=>(HOA.out.1.lt q hq).1)
     have HO4:=Z (And.intro o4 (show ((bord t.len (begTo p l n)).mergeSort fun x y=>decide (x≤y)).length≤100000 by rw [List.length_mergeSort];exact HOA.out.2))
     have HB4:=Z hb4
     clear gr4 o4 hb4
     go_wp2_with fail
     (with_reducible refine (compact_any w4 HO4.out.1 HO4.out.2).mono ?_)
     rintro e w5 ⟨A5,c5,rfl,gr5,s5,l5⟩
     have hb5:=HB4.out.grown gr5 HB4.out.size (fun q hq=>(HO4.out.1.lt q hq).1)
     obtain⟨m,hm⟩:∃m,(bordS t.len (begTo p l n)).length=m:=⟨_,rfl⟩
     have hm6:m≤6003:=by have:=bordS_len t.len (begTo p l n);rw [begTo_len,hm] at this;omega
     rw [show (Lib.compact ((bord t.len (begTo p l n)).mergeSort fun x y=>decide (x≤y))).length=m from hm]
     have HM:=Z hm
     have HK5:=Z (show ∀wx,Below w5.heap.size w5 wx→PlAt wx wx.heap.size A c A2 c2 p∧Sl wx wx.heap.size 2 CE Aw l∧Rw wx B0 60 #[.slice A p.nodes.length c,.slice A2 p.rails.length c2]∧Rw wx (B0+1) 24 #[O U t.mass,O U t.len,O U t.speed,O U t.effort,O U t.brake,O U t.power,O U t.resist,O U t.rise,O U t.back,.slice At nt ct]∧Sl wx wx.heap.size 1 CI A9 (begTo p l n)∧Sl wx wx.heap.size 1 CI A5 (bordS t.len (begTo p l n))∧Below W1.heap.size W1 wx from fun wx h=>by
      obtain⟨k1,k2,k3,k4,k5,k6⟩:=HKR.out wx (hb5.trans (h.mono hb5.size))
      exact⟨k1,k2,k3,k4,k5,(s5.below h).more (fun _ _ h=>h) h.size,k6⟩)
     have HRR:=Z (show znsGo p l (begTo p l n) t.len last t.speed (bordS t.len (begTo p l n)) 0 0 []=R from by rw [←HRZ.out];unfold zonesZ;rw [HN.out])
     have HEND:=Z (show w.heap.size≤w5.heap.size∧∀wx,Below w5.heap.size w5 wx→Below w.heap.size w wx from by
      have h6:=(HK5.out w5 (Below.refl _ _)).2.2.2.2.2.2
      have hs1:=HSZ.out
      rw [hB0]
      refine⟨by have:=h6.size;omega,fun wx h=>HB1.out.trans (((HK5.out wx h).2.2.2.2.2.2).mono (by omega))⟩)
     clear gr5 s5 l5 hb5 hm
     go_wp2
     go_loopw [17,18,19,71] (fun s17 s18 s19 s71 wr=>∃(k r f:Nat) (acc:List Zn),k≤m∧s71=O U (k:Int)∧s18=O U (r:Int)∧s19=O U (f:Int)∧r<n∧f<n∧acc.length=k∧Own wr w5.heap.size 141 3 fZl s17 acc∧znsGo p l (begTo p l n) t.len last t.speed ((bordS t.len (begTo p l n)).drop k) r f acc=R∧Below w5.heap.size w5 wr) (fun _ _ _ s71 _=>m - (intOf s71).toNat)
     case atStart=>exact⟨0,0,0, [],Nat.zero_le _,rfl,rfl,rfl,by omega,by omega,rfl,Own.nil _ _ _ _ _,by rw [List.drop_zero];exact HRR.out,Below.refl _ _⟩
     case round=>
      obtain⟨k,r,f,acc,hk,rfl,rfl,rfl,hrn,hfn,hac,hown,hgo,hb6⟩:=hrel
      obtain⟨W6,hW6⟩:∃z,z=wr:=⟨_,rfl⟩
      subst hW6
      have HO6:=Z hown;have HB6:=Z hb6
      have HF:=Z (And.intro hk (And.intro hrn (And.intro hfn (And.intro hac hgo))))
      by_cases hkm:k<m
      ·obtain⟨_,_,_,_,_,hS6,_⟩:=HK5.out _ hb6
       obtain⟨b5,o5,e5,g5,c5⟩:=int_at hS6 (i:=k) (by have:=HM.out;omega)
       subst e5
       obtain⟨x,hx⟩:∃x,(bordS t.len (begTo p l n))[k]'(by have:=HM.out;omega)=x:=⟨_,rfl⟩
       rw [hx] at c5
       have hxm:=bordS_mem (show x∈bordS t.len (begTo p l n) by rw [←hx];exact List.getElem_mem _)
       have ht1:=HT.out.l1;have ht2:=HT.out.l2
       have hxb:0≤x∧x≤2214592572000:=by
        obtain⟨b,hb,hh⟩:=hxm
        obtain⟨i,hi,rfl⟩:=List.getElem_of_mem hb
        rw [begTo_get] at hh
        have:=begAt_bd HV.out (l:=l) (by have:=HN.out;omega) i
        omega
       have hdr:(bordS t.len (begTo p l n)).drop k=x :: (bordS t.len (begTo p l n)).drop (k+1):=by rw [←hx];exact List.drop_eq_getElem_cons _
       have HDR:=Z hdr
       have hki:(k:Int)<(m:Int):=by omega
       have HKM:=Z hkm
       have HXB:=Z hxb
       by_cases hlx:last<x
       ·have HRA:=Z (show R=acc from by rw [←hgo,hdr,znsGo,if_pos hlx])
        clear hgo hdr hx hxm hb6 hown hac hrn hfn hxb hS6
        go_wp2
        go_ret
        rw [HRA.out]
        rw [←hB0]
        exact⟨_,rfl,HO6.out.lower HEND.out.1,HEND.out.2 _ HB6.out⟩
       ·obtain⟨r',hr'⟩:∃r',advR (begTo p l n) (x - t.len) n r=r':=⟨_,rfl⟩
        obtain⟨f',hf'⟩:∃f',advF (begTo p l n) n x n f=f':=⟨_,rfl⟩
        have HGO:=Z (show znsGo p l (begTo p l n) t.len last t.speed ((bordS t.len (begTo p l n)).drop (k+1)) r' f' (acc ++ [znAt p l (begTo p l n) t.speed x r' f'])=R from by
         rw [←hgo,hdr,znsGo,if_neg hlx,HN.out,hr',hf'])
        have hwl:IntKind.i64.wrap (x - t.len)=x - t.len:=by rw [IntKind.wrap_i64];omega
        obtain⟨y,hy⟩:∃y,x - t.len=y:=⟨_,rfl⟩
        rw [hy] at hr'
        replace hwl:=hwl.trans hy
        have hyx:y<last:=by omega
        have HY:=Z (And.intro hyx (And.intro hr' hf'))
        have hr2:(r:Int)<(n:Int):=by omega
        clear hgo hdr hx hxm hb6 hown hac hxb hS6 hyx hr' hf' hy
        go_wp2
        go_loopw [18] (fun s18 wy=>∃(g r1:Nat),s18=O U (r1:Int)∧r1<n∧n - r1≤g+1∧advR (begTo p l n) y g r1=r'∧Below W6.heap.size W6 wy) (fun s18 _=>n - (intOf s18).toNat)
        case atStart=>exact⟨n,r,rfl,hrn,by omega,HY.out.2.1,Below.refl _ _⟩
        case round=>
         obtain⟨g,r1,rfl,hr1,hg,had,hb7⟩:=hrel
         have hb57:=HB6.out.trans (hb7.mono HB6.out.size)
         have HB7:=Z hb7;have HB57:=Z hb57
         obtain⟨_,_,_,p1r,hS9,_,_⟩:=HK5.out _ hb57
         obtain⟨b9,o9,e9,g9,c0⟩:=int_at hS9 (i:=r1+1) (by rw [begTo_len];omega)
         subst e9
         rw [begTo_get] at c0
         have e1:=p1r.cell 1
         obtain⟨bk,hbk⟩:∃b,begAt p l (r1+1)=b:=⟨_,rfl⟩
         rw [hbk] at c0
         have HBK:=Z hbk
         have hri:(r1:Int)+1<(n:Int)+1:=by omega
         have hwr:IntKind.i64.wrap ((r1:Int)+1)=(r1:Int)+1:=by rw [IntKind.wrap_i64];omega
         have HA:=Z (And.intro hr1 (And.intro hg had))
         have hn2:n≤2000:=hl
         by_cases hle:bk≤y
         ·have HNX:=Z (show r1+1<n∧∃g',n - (r1+1)≤g'+1∧advR (begTo p l n) y g' (r1+1)=r' from by
           have hne:r1+1≠n:=by
            intro e
            have h1:=HLA.out
            rw [←e,hbk] at h1
            have:=HY.out.1
            omega
           refine⟨by omega, ?_⟩
           cases g with
           | zero=>omega
           | succ g=>exact⟨g,by omega,by rw [←had,advR,if_pos (by rw [begTo_getD (by omega),hbk];exact hle)]⟩)
          clear had hb7 hb57 p1r hS9 hbk hg
          go_upto_region 21 with (fail)
          go_quiet (fail)
          go_wp2
          obtain⟨h1,g',h2,h3⟩:=HNX.out
          refine⟨⟨g',r1+1,by simp,h1,h2,h3,bDrewN HB7.out _⟩, ?_⟩
          simp [intOf] <;> omega
         ·have hre:r1=r':=by rw [←had];exact (advR_end (by rw [begTo_getD (by omega),hbk];exact hle)).symm
          subst hre
          clear had hb7 hb57 p1r hS9 hbk hg
          go_upto_region 21 with (fail)
          go_quiet (fail)
          go_wp2
          have hbq:=bDrewN HB7.out nq
          obtain⟨W7,hW7⟩:∃z,wr.drewN nq=z:=⟨_,rfl⟩
          rw [hW7] at hbq ⊢
          have HB8:=Z hbq
          clear hW7 hbq
          go_loopw [19] (fun s19 wz=>∃(g f1:Nat),s19=O U (f1:Int)∧f1<n∧n - f1≤g+1∧advF (begTo p l n) n x g f1=f'∧Below W6.heap.size W6 wz) (fun s19 _=>n - (intOf s19).toNat)
          case atStart=>exact⟨n,f,rfl,hfn,by omega,HY.out.2.2,HB8.out⟩
          case round=>
           obtain⟨g,f1,rfl,hf1,hg,had,hb7⟩:=hrel
           have hb57:=HB6.out.trans (hb7.mono HB6.out.size)
           have HB9:=Z hb7;have HB59:=Z hb57
           obtain⟨_,_,_,p1r,hS9,_,_⟩:=HK5.out _ hb57
           obtain⟨b9',o9',e9,g9',c1⟩:=int_at hS9 (i:=f1+1) (by rw [begTo_len];omega)
           cases e9
           rw [begTo_get] at c1
           obtain⟨bf,hbf⟩:∃b,begAt p l (f1+1)=b:=⟨_,rfl⟩
           rw [hbf] at c1
           have hgf:(begTo p l n).getD (f1+1) 0=bf:=by rw [begTo_getD (by omega),hbf]
           have hwf:IntKind.i64.wrap ((f1:Int)+1)=(f1:Int)+1:=by rw [IntKind.wrap_i64];omega
           have hfi:(f1:Int)+1<(n:Int)+1:=by omega
           have HA2:=Z (And.intro hf1 (And.intro hg (And.intro had hgf)))
           clear hg had hb7 hb57 p1r hS9 hbf hgf
           go_upto_region 23 with (fail)
           go_cut [103] (fun s103 wx=>s103= .bool (decide (f1+1<n∧bf≤x))∧wx=wr)
           case first=>
            by_cases hq1:f1+1<n
            ·have hq1':(f1:Int)+1<(n:Int):=by omega
             by_cases hq2:bf≤x
             ·have HD:=Z (show decide (f1+1<n∧bf≤x)=true from decide_eq_true ⟨hq1,hq2⟩)
              go_wp2
              go_meet
              exact⟨by rw [HD.out],rfl⟩
             ·have HD:=Z (show decide (f1+1<n∧bf≤x)=false from decide_eq_false (fun h=>hq2 h.2))
              go_wp2
              go_meet
              exact⟨by rw [HD.out],rfl⟩
            ·have hq1':¬(f1:Int)+1<(n:Int):=by omega
             have HD:=Z (show decide (f1+1<n∧bf≤x)=false from decide_eq_false (fun h=>hq1 h.1))
             go_wp2
             go_meet
             exact⟨by rw [HD.out],rfl⟩
           case rest=>
            obtain⟨rfl,hwc⟩:=hcut
            rw [hwc]
            clear hwc
            by_cases hd:f1+1<n∧bf≤x
            ·have HNX:=Z (show ∃g',n - (f1+1)≤g'+1∧advF (begTo p l n) n x g' (f1+1)=f' from by
              obtain⟨h1,h2,h3,h4⟩:=HA2.out
              cases g with
              | zero=>omega
              | succ g=>exact⟨g,by omega,by rw [←h3,advF,if_pos ⟨hd.1,by rw [h4];exact hd.2⟩]⟩)
             have HDD:=Z hd
             rw [decide_eq_true hd]
             clear hd
             go_wp2
             obtain⟨g',h2,h3⟩:=HNX.out
             have hd1:=HDD.out.1
             refine⟨⟨g',f1+1,by simp,hd1,h2,h3,HB9.out⟩, ?_⟩
             simp [intOf] <;> omega
            ·have hfe:f1=f':=by
              obtain⟨h1,h2,h3,h4⟩:=HA2.out
              rw [←h3]
              exact (advF_end (by rw [h4];exact hd)).symm
             subst hfe
             rw [decide_eq_false hd]
             clear hd
             go_upto_region 25 with (fail)
             obtain⟨hPz,hAz,p0z,p1z,hSz,_,_⟩:=HK5.out _ HB59.out
             obtain⟨bw,ow,ew,gw,d0,d1⟩:=end_at hAz (i:=f1) (by have:=HN.out;omega)
             subst ew
             obtain⟨el,hel⟩:∃el,l[f1]'(by have:=HN.out;omega)=el:=⟨_,rfl⟩
             rw [hel] at d0 d1
             have hrr:=HR.out el (by rw [←hel];exact List.getElem_mem _)
             obtain⟨rl,hrl⟩:=Int.eq_ofNat_of_zero_le hrr.1
             have hrn2:rl<p.rails.length:=by have:=hrr.2;omega
             rw [hrl] at d0
             obtain⟨ld,hld⟩:∃d,el.last=d:=⟨_,rfl⟩
             rw [hld] at d1
             have hee:el=⟨(rl:Int),ld⟩:=by cases el;simp_all
             obtain⟨sl,hsl⟩:∃sl,slpE p ⟨(rl:Int),ld⟩=sl:=⟨_,rfl⟩
             obtain⟨lm,hlm⟩:∃lm,limGo p l (begTo p l n) x n r1 t.speed=lm:=⟨_,rfl⟩
             have HZN:=Z (show znAt p l (begTo p l n) t.speed x r1 f1=⟨x,sl,lm⟩ from by
              unfold znAt
              rw [List.getElem?_eq_getElem (show f1<l.length by have:=HN.out;omega),hel,hee,HN.out,hlm]
              show (⟨x,slpE p ⟨(rl:Int),ld⟩,lm⟩:Zn)=⟨x,sl,lm⟩
              rw [hsl])
             have HSL:=Z (show ∀wx,Below wr.heap.size wr wx→Calls Tryz.prog 85 #[.agg #[.slice A p.nodes.length c,.slice A2 p.rails.length c2],.agg #[O U (rl:Int),.bool ld]] wx fun e w'=>e= .returned (O U sl)∧Below wx.heap.size wx w' from fun wx h=>by
              have:=slopeOf_any A A2 c c2 p rl ld wx (HK5.out wx (HB59.out.trans (h.mono HB59.out.size))).1 HV.out hrn2
              rwa [hsl] at this)
             have HLM:=Z (show ∀wx,Below wr.heap.size wr wx→Calls Tryz.prog 86 #[.agg #[.slice A p.nodes.length c,.slice A2 p.rails.length c2],.slice (some ⟨bw,ow,none⟩) n cw,.slice (some ⟨b9,o9,none⟩) (n+1) c9,O U (r1:Int),O U x,O U t.speed] wx fun e w'=>e= .returned (O U lm)∧Below wx.heap.size wx w' from fun wx h=>by
              obtain⟨k1,k2,k3,k4,k5,_,_⟩:=HK5.out wx (HB59.out.trans (h.mono HB59.out.size))
              have:=limitOf_any A A2 c c2 p (some ⟨bw,ow,none⟩) cw l (some ⟨b9,o9,none⟩) c9 (n+1) (begTo p l n) r1 x t.speed wx k1 HV.out k2 (by have:=HN.out;omega) HR.out k5 (begTo_len p l n) (by have:=HN.out;omega) (by omega) (by have:=HN.out;omega)
              rw [HN.out,hlm] at this
              exact this)
             have HSK:=Z (show ∀wx,Below wr.heap.size wr wx→Rw wx B0 60 #[.slice A p.nodes.length c,.slice A2 p.rails.length c2]∧Rw wx (B0+1) 24 #[O U t.mass,O U t.len,O U t.speed,O U t.effort,O U t.brake,O U t.power,O U t.resist,O U t.rise,O U t.back,.slice At nt ct]∧wx.cell? ⟨bw,ow+f1 * 2,none⟩=some (O U (rl:Int))∧wx.cell? ⟨bw,ow+f1 * 2+1,none⟩=some (.bool ld) from fun wx h=>by
              obtain⟨k1,k2,k3,k4,k5,_,_⟩:=HK5.out wx (HB59.out.trans (h.mono HB59.out.size))
              exact⟨k3,k4,(h.cell (p:=⟨bw,ow+f1 * 2,none⟩) gw).trans d0,(h.cell (p:=⟨bw,ow+f1 * 2+1,none⟩) gw).trans d1⟩)
             have HSX:=Z (show ∀wx,Below w5.heap.size w5 wx→Rw wx B0 60 #[.slice A p.nodes.length c,.slice A2 p.rails.length c2]∧Rw wx (B0+1) 24 #[O U t.mass,O U t.len,O U t.speed,O U t.effort,O U t.brake,O U t.power,O U t.resist,O U t.rise,O U t.back,.slice At nt ct]∧wx.cell? ⟨bw,ow+f1 * 2,none⟩=some (O U (rl:Int))∧wx.cell? ⟨bw,ow+f1 * 2+1,none⟩=some (.bool ld) from fun wx h=>by
              obtain⟨k1,k2,k3,k4,k5,_,_⟩:=HK5.out wx h
              obtain⟨bw',ow',ew',gw',d0',d1'⟩:=end_at k2 (i:=f1) (by have:=HN.out;omega)
              cases ew'
              rw [hel,hrl] at d0'
              rw [hel,hld] at d1'
              exact⟨k3,k4,d0',d1'⟩)
             have HOZ:=Z (HO6.out.below HB9.out (Nat.le_refl _))
             have hacl:acc.length=k:=HF.out.2.2.2.1
             have hfi2:(f1:Int)<(n:Int):=by omega
             clear hPz hAz p0z p1z hSz d0 d1 hel hrr hrl hld hee hsl hlm c1 hwf hfi
             have hbq:Below wr.heap.size wr wr.drew:=(Below.refl _ _).drew
             have HS:=Z (HSK.out _ hbq)
             refine wp_region_held_drew (S:=fun wx=>Rw wx B0 60 #[.slice A p.nodes.length c,.slice A2 p.rails.length c2]∧Rw wx (B0+1) 24 #[O U t.mass,O U t.len,O U t.speed,O U t.effort,O U t.brake,O U t.power,O U t.resist,O U t.rise,O U t.back,.slice At nt ct]∧wx.cell? ⟨bw,ow+f1 * 2,none⟩=some (O U (rl:Int))∧wx.cell? ⟨bw,ow+f1 * 2+1,none⟩=some (.bool ld)) (by kernel_rfl) HS.out (fun _=> ?_)
             refine hTk (i:=0) (d:=106) (v:=u17) rfl rfl (Or.inl ⟨rfl,by rintro W' ⟨s0,s1,s2,s3⟩;have y0:=s0.cell 0;have y1:=s0.cell 1;have z2:=s1.cell 2;go_simp⟩) HS.out ?_
             simp only [Act.put,sB,sZ,sS]
             refine hTk (i:=1) (d:=107) (v:=O U x) rfl rfl (Or.inl ⟨rfl,by rintro W' ⟨s0,s1,s2,s3⟩;have y0:=s0.cell 0;have y1:=s0.cell 1;have z2:=s1.cell 2;go_simp⟩) HS.out ?_
             simp only [Act.put,sB,sZ,sS]
             refine hTk (i:=2) (d:=108) (v:= .agg #[.slice A p.nodes.length c,.slice A2 p.rails.length c2]) rfl rfl (Or.inl ⟨rfl,by rintro W' ⟨s0,s1,s2,s3⟩;have y0:=s0.cell 0;have y1:=s0.cell 1;have z2:=s1.cell 2;go_simp⟩) HS.out ?_
             simp only [Act.put,sB,sZ,sS]
             refine hTk (i:=3) (d:=109) (v:= .slice (some ⟨bw,ow,none⟩) n cw) rfl rfl (Or.inl ⟨rfl,by rintro W' ⟨s0,s1,s2,s3⟩;have y0:=s0.cell 0;have y1:=s0.cell 1;have z2:=s1.cell 2;go_simp⟩) HS.out ?_
             simp only [Act.put,sB,sZ,sS]
             refine hTk (i:=4) (d:=110) (v:=O U (f1:Int)) rfl rfl (Or.inl ⟨rfl,by rintro W' ⟨s0,s1,s2,s3⟩;have y0:=s0.cell 0;have y1:=s0.cell 1;have z2:=s1.cell 2;go_simp⟩) HS.out ?_
             simp only [Act.put,sB,sZ,sS]
             refine hTk (i:=5) (d:=111) (v:= .pointer (some ⟨bw,ow+f1 * 2,none⟩)) rfl rfl (Or.inl ⟨rfl,by rintro W' ⟨s0,s1,s2,s3⟩;have y0:=s0.cell 0;have y1:=s0.cell 1;have z2:=s1.cell 2;go_simp⟩) HS.out ?_
             simp only [Act.put,sB,sZ,sS]
             refine hTk (i:=6) (d:=112) (v:= .agg #[O U (rl:Int),.bool ld]) rfl rfl (Or.inl ⟨rfl,by rintro W' ⟨s0,s1,s2,s3⟩;have y0:=s0.cell 0;have y1:=s0.cell 1;have z2:=s1.cell 2;go_simp⟩) HS.out ?_
             simp only [Act.put,sB,sZ,sS]
             refine hTk (i:=8) (d:=114) (v:= .agg #[.slice A p.nodes.length c,.slice A2 p.rails.length c2]) rfl rfl (Or.inl ⟨rfl,by rintro W' ⟨s0,s1,s2,s3⟩;have y0:=s0.cell 0;have y1:=s0.cell 1;have z2:=s1.cell 2;go_simp⟩) HS.out ?_
             simp only [Act.put,sB,sZ,sS]
             refine hTk (i:=9) (d:=115) (v:= .slice (some ⟨bw,ow,none⟩) n cw) rfl rfl (Or.inl ⟨rfl,by rintro W' ⟨s0,s1,s2,s3⟩;have y0:=s0.cell 0;have y1:=s0.cell 1;have z2:=s1.cell 2;go_simp⟩) HS.out ?_
             simp only [Act.put,sB,sZ,sS]
             refine hTk (i:=10) (d:=116) (v:= .slice (some ⟨b9,o9,none⟩) (n+1) c9) rfl rfl (Or.inl ⟨rfl,by rintro W' ⟨s0,s1,s2,s3⟩;have y0:=s0.cell 0;have y1:=s0.cell 1;have z2:=s1.cell 2;go_simp⟩) HS.out ?_
             simp only [Act.put,sB,sZ,sS]
             refine hTk (i:=11) (d:=117) (v:=O U (r1:Int)) rfl rfl (Or.inl ⟨rfl,by rintro W' ⟨s0,s1,s2,s3⟩;have y0:=s0.cell 0;have y1:=s0.cell 1;have z2:=s1.cell 2;go_simp⟩) HS.out ?_
             simp only [Act.put,sB,sZ,sS]
             refine hTk (i:=12) (d:=118) (v:=O U x) rfl rfl (Or.inl ⟨rfl,by rintro W' ⟨s0,s1,s2,s3⟩;have y0:=s0.cell 0;have y1:=s0.cell 1;have z2:=s1.cell 2;go_simp⟩) HS.out ?_
             simp only [Act.put,sB,sZ,sS]
             refine hTk (i:=13) (d:=119) (v:= .pointer (some ⟨B0+1,2,none⟩)) rfl rfl (Or.inl ⟨rfl,by rintro W' ⟨s0,s1,s2,s3⟩;have y0:=s0.cell 0;have y1:=s0.cell 1;have z2:=s1.cell 2;go_simp⟩) HS.out ?_
             simp only [Act.put,sB,sZ,sS]
             refine hTk (i:=14) (d:=120) (v:=O U t.speed) rfl rfl (Or.inl ⟨rfl,by rintro W' ⟨s0,s1,s2,s3⟩;have y0:=s0.cell 0;have y1:=s0.cell 1;have z2:=s1.cell 2;go_simp⟩) HS.out ?_
             simp only [Act.put,sB,sZ,sS]
             refine wpAnyH_ready (rs:= [7]) (by kernel_rfl) (by simp) ?_
             refine AllReadyH.cons rfl (fun K hK=> ?_) AllReadyH.nil
             rw [if_pos (by rfl)]
             go_simp
             go_at_call 85
             (with_reducible refine (HSL.out _ hbq).mono ?_)
             rintro e w11 ⟨rfl,hbn⟩
             replace hbq:=hbq.trans (hbn.mono hbq.size)
             clear hbn
             have HS:=Z (HSK.out _ hbq)
             refine hK.out _ _ HS.out (fun _=> ?_)
             clear hK K
             try simp only [Act.put,sB,sZ,sS]
             refine wpAnyH_ready (rs:= [15]) (by kernel_rfl) (by simp) ?_
             refine AllReadyH.cons rfl (fun K hK=> ?_) AllReadyH.nil
             rw [if_pos (by rfl)]
             go_simp
             go_at_call 86
             (with_reducible refine (HLM.out _ hbq).mono ?_)
             rintro e w12 ⟨rfl,hbn⟩
             replace hbq:=hbq.trans (hbn.mono hbq.size)
             clear hbn
             have HS:=Z (HSK.out _ hbq)
             refine hK.out _ _ HS.out (fun _=> ?_)
             clear hK K
             try simp only [Act.put,sB,sZ,sS]
             refine hTk (i:=16) (d:=122) (v:= .agg #[O U x,O U sl,O U lm]) rfl rfl (Or.inl ⟨rfl,by rintro W' ⟨s0,s1,s2,s3⟩;have y0:=s0.cell 0;have y1:=s0.cell 1;have z2:=s1.cell 2;go_simp⟩) HS.out ?_
             simp only [Act.put,sB,sZ,sS]
             refine wpAnyH_ready (rs:= [17]) (by kernel_rfl) (by simp) ?_
             refine AllReadyH.cons rfl (fun K hK=> ?_) AllReadyH.nil
             rw [if_pos (by rfl)]
             go_simp
             have hsn:=Sl.new (f:=fZl) (size:=3) w12 141 (⟨x,sl,lm⟩:Zn) #[O U x,O U sl,O U lm] rfl
             replace hbq:=hbq.alloc hbq.size (.cells #[O U x,O U sl,O U lm] 141)
             obtain⟨w13,hw13⟩:∃z,w12.alloc (.cells #[O U x,O U sl,O U lm] 141)=z:=⟨_,rfl⟩
             rw [hw13] at hsn hbq ⊢
             clear hw13
             have HS:=Z (HSK.out _ hbq)
             refine hK.out _ _ HS.out (fun _=> ?_)
             clear hK K
             try simp only [Act.put,sB,sZ,sS]
             refine wpAnyH_ready (rs:= [18]) (by kernel_rfl) (by simp) ?_
             refine AllReadyH.cons rfl (fun K hK=> ?_) AllReadyH.nil
             rw [if_pos (by rfl)]
             refine wp_app _ (.tmp 106) (.tmp 123) _ rfl w5.heap.size 141 i1 _ 3 24 Tryz.underlying107 hi1 hz1 hs1 hy1 rfl (by omega) fZl_len fZl_one u17 acc rfl (HOZ.out.below hbq (Nat.le_refl _)) _ _ [(⟨x,sl,lm⟩:Zn)] 1 rfl hsn (by unfold maxLen;simp only [List.length_cons,List.length_nil];omega) (by simp only [List.length_cons,List.length_nil];omega) (by have:=HB59.out.size;have:=hbq.size;omega) (fun _=> .inr ⟨_,rfl⟩) ?_
             intro v2 w14 o14 gr14 at14 ne14
             have hb14:=(HB59.out.trans (hbq.mono HB59.out.size)).grown gr14 (by have:=HB59.out.size;have:=hbq.size;omega) (fun b hb=>(HOZ.out.lt b hb).1)
             have HS:=Z (show Rw w14 B0 60 #[.slice A p.nodes.length c,.slice A2 p.rails.length c2]∧Rw w14 (B0+1) 24 #[O U t.mass,O U t.len,O U t.speed,O U t.effort,O U t.brake,O U t.power,O U t.resist,O U t.rise,O U t.back,.slice At nt ct]∧w14.cell? ⟨bw,ow+f1 * 2,none⟩=some (O U (rl:Int))∧w14.cell? ⟨bw,ow+f1 * 2+1,none⟩=some (.bool ld) from HSX.out w14 hb14)
             refine hK.out _ _ HS.out (fun _=> ?_)
             clear hK K
             try simp only [Act.put,sB,sZ,sS]
             refine hTk (i:=19) (d:=17) (v:=v2) rfl rfl (Or.inl ⟨rfl,by rintro W' ⟨s0,s1,s2,s3⟩;have y0:=s0.cell 0;have y1:=s0.cell 1;have z2:=s1.cell 2;go_simp⟩) HS.out ?_
             simp only [Act.put,sB,sZ,sS]
             refine wpAnyH_done (by kernel_rfl) ?_ _
             go_wp2
             refine⟨⟨k+1,r1,f1,acc ++ [(⟨x,sl,lm⟩:Zn)],by have:=HKM.out;omega,by simp,rfl,rfl,by omega,by omega,by simp [hacl],o14,by have:=HGO.out;rw [HZN.out] at this;exact this,hb14⟩, ?_⟩
             have:=HKM.out
             simp [intOf] <;> omega
      ·have HRA:=Z (show R=acc from by rw [←hgo,List.drop_eq_nil_of_le (by have:=HM.out;omega)];rfl)
       have hki:¬(k:Int)<(m:Int):=by omega
       clear hgo hb6 hown hac hrn hfn
       go_wp2
       go_ret
       rw [HRA.out]
       rw [←hB0]
       exact⟨_,rfl,HO6.out.lower HEND.out.1,HEND.out.2 _ HB6.out⟩
end Go.Proofs.YtfhkbbjddjddmaaGreat
