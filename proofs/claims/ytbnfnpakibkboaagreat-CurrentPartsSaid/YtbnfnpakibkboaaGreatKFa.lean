/- Contract: partsOf. -/
import Derived.Test.YtbnfnpakibkboaaGreatKF
import Derived.Deep.DeepMust
import Derived.Shelf.Abstract
set_option linter.unusedVariables false
set_option linter.unusedSimpArgs false
open Go.Value renaming int→O
open Go.IntKind renaming i64→U
open Go.Lib renaming hid→Z
namespace Go.Proofs.YtbnfnpakibkboaaGreat
open Go.RowKit Go.Shelf Go.Lib Go.BigFrame
attribute [local go_sem] Oper.semAt_some
theorem bGrown {B:Nat} {a b c:World} {row:Option Nat} (h:Below B a b) (hg:b.grownBy c row) (hr:∀j,row=some j→B≤j) (hB:B≤b.heap.size):Below B a c:=
  h.trans ⟨hg.os,hg.tape,hg.output,hg.size,fun k hk=>hg.block k (by omega) (fun e=>by have:=hr k e.symm;omega)⟩
theorem keepsGrown {b c:World} {row:Option Nat} (hg:b.grownBy c row) (hr:∀j,row=some j→∃cs e,b.heap[j]? = some (Obj.cells cs e (0,0))):KeepsOthers b c:=
  ⟨hg.size,fun k o ho hc=>(hg.block k (Array.getElem?_eq_some_iff.1 ho).1 (fun e=>by obtain⟨cs,e2,h⟩:=hr k e.symm;rw [h] at ho;cases ho;simp [Obj.isCells] at hc)).trans ho⟩
theorem PmIn.step {a b:World} {B:Nat} {x:Pm} (h:PmIn a B x) (hk:∀k cs e,B≤k→e≠132→a.heap[k]? = some (Obj.cells cs e (0,0))→b.heap[k]? = a.heap[k]?):PmIn b B x:=by
  refine h.of_blocks (fun k hh=> ?_)
  rcases hh with e|e|e
  · obtain⟨cs,hc⟩:=own_type h.o1 e;exact hk k cs _ (h.o1.lt k e).1 (by decide) hc
  · obtain⟨cs,hc⟩:=own_type h.o2 e;exact hk k cs _ (h.o2.lt k e).1 (by decide) hc
  · obtain⟨cs,hc⟩:=own_type h.o3 e;exact hk k cs _ (h.o3.lt k e).1 (by decide) hc
theorem run_loadVar_one {P:Program} (w:World) (g:Nat) (t ty:TypeId) (v:Value) (d:TypeDesc) (hg:Rw w g t #[v]) (hu:P.underlying ty=some d) (hd:(match d with| .struct _| .array _ _=>true|_=>false)=false):(loadVar ty ⟨g,0,none⟩).run P w= .ok v w:=by
  unfold loadVar
  rw [Sem.run_bind,run_isAgg_plain hu hd w]
  have hc:=hg.cell 0
  simp [hc,Result.andThen]
theorem res_11 {P:Program} {fn:Func} {p q:Tmp} {ty ty2:TypeId} (h:fn.results=#[.cell p ty,.cell q ty2]) (tmps:Array Value) (w:World) (g g2:Nat) (t t2:TypeId) (v v2:Value) (d d2:TypeDesc)
    (hp:tmps.getD p undef= .pointer (some ⟨g,0,none⟩)) (hp2:tmps.getD q undef= .pointer (some ⟨g2,0,none⟩)) (hg:Rw w g t #[v]) (hg2:Rw w g2 t2 #[v2])
    (hu:P.underlying ty=some d) (hd:(match d with| .struct _| .array _ _=>true|_=>false)=false)
    (hu2:P.underlying ty2=some d2) (hd2:(match d2 with| .struct _| .array _ _=>true|_=>false)=false) :
    (results fn tmps).run P w= .ok (.tuple #[v,v2]) w:=by
  have hp':tmps[p]?.getD undef= .pointer (some ⟨g,0,none⟩):=by simpa using hp
  have hq':tmps[q]?.getD undef= .pointer (some ⟨g2,0,none⟩):=by simpa using hp2
  simp [results,h,hp',hq',asAddr,run_loadVar_one w g t ty v d hg hu hd,run_loadVar_one w g2 t2 ty2 v2 d2 hg2 hu2 hd2]
theorem PI.own {H L:Nat} {g:Gv} {on:List Bool} {w3:World} {B:Nat} (hL:L<B) (hB:L≤w3.heap.size) (hz:L<w3.heap.size):OwnFrom B (PI H L g on w3):=fun s X Y row hs hg hr=>by
  obtain⟨sc,xs,h1,h2,h3,h4⟩:=hs.row
  have hne:∀k,(∃cs e,X.heap[k]? = some (Obj.cells cs e (0,0)))→Y.heap[k]? = X.heap[k]?:=fun k ⟨cs,e,hk⟩=>hg.block k (Array.getElem?_eq_some_iff.1 hk).1 (fun e2=>by
    obtain⟨_,o,ho,hc⟩:=hr k e2.symm
    rw [hk] at ho;cases ho;simp [Obj.isCells] at hc)
  refine⟨⟨hg.os.trans hs.bl.os,hg.tape.trans hs.bl.tape,hg.output.trans hs.bl.output,Nat.le_trans hs.bl.size hg.size,fun k hk=>(hg.block k (by have:=hs.bl.size;omega) (fun e=>by have:=(hr k e.symm).1;omega)).trans (hs.bl.block k hk)⟩,hs.ok,sc,xs,(hne L ⟨_,_,h1⟩).trans h1,h2.of_blocks (fun k hk=>hne k (by obtain⟨cs,h⟩:=own_type h2 hk;exact⟨cs,_,h⟩)),fun x hx=> ?_,h4⟩
  refine (h3 x hx).of_blocks (fun k hk=>hne k ?_)
  rcases hk with e|e|e
  · obtain⟨cs,h⟩:=own_type (h3 x hx).o1 e;exact⟨cs,_,h⟩
  · obtain⟨cs,h⟩:=own_type (h3 x hx).o2 e;exact⟨cs,_,h⟩
  · obtain⟨cs,h⟩:=own_type (h3 x hx).o3 e;exact⟨cs,_,h⟩
theorem PI.gi {H L:Nat} {g:Gv} {on:List Bool} {w3 A C:World} {pre:List (Value × List Nat)} (h:PI H L g on w3 pre A) (hg:Gi H H A C) (hL:L<H) (hz:L<w3.heap.size):PI H L g on w3 pre C:=by
  obtain⟨sc,xs,h1,h2,h3,h4⟩:=h.row
  have hne:∀k,k<A.heap.size→k≠H→C.heap[k]? = A.heap[k]?:=fun k hk hn=>hg.block k hk hn hn
  refine⟨⟨hg.os.trans h.bl.os,hg.tape.trans h.bl.tape,hg.output.trans h.bl.output,Nat.le_trans h.bl.size hg.size,fun k hk=>(hne k (by have:=h.bl.size;omega) (by omega)).trans (h.bl.block k hk)⟩,h.ok,sc,xs,(hne L h1.lt (by omega)).trans h1,h2.of_blocks (fun k hk=>hne k (h2.lt k hk).2 (by have:=(h2.lt k hk).1;omega)),fun x hx=> ?_,h4⟩
  refine (h3 x hx).of_blocks (fun k hk=> ?_)
  rcases hk with e|e|e
  · have:=(h3 x hx).o1.lt k e;exact hne k this.2 (by omega)
  · have:=(h3 x hx).o2.lt k e;exact hne k this.2 (by omega)
  · have:=(h3 x hx).o3.lt k e;exact hne k this.2 (by omega)
def smallP (l:List (List Nat)):Bool:=l.all fun x=>decide (x.length≤10)
def FPo (s:Nat) (nv:Value) (u:Nat→Value):Array Value:=#[u 0,u 1,.pointer (some ⟨s,0,none⟩),.pointer (some ⟨s+1,0,none⟩),.pointer (some ⟨s+1+1,0,none⟩),.pointer (some ⟨s+1+1+1,0,none⟩),.pointer (some ⟨s+1+1+1+1,0,none⟩),nv,u 8,u 9,u 10,u 11,u 12,u 13,u 14,u 15,u 16,u 17,u 18,u 19,u 20,u 21,u 22,u 23,u 24,u 25,u 26,u 27,u 28,u 29,u 30,u 31,u 32,u 33,u 34,u 35,u 36,u 37,u 38,u 39,u 40,u 41,u 42,u 43,u 44,u 45,u 46,u 47,u 48,u 49,u 50,u 51,u 52,u 53,u 54,u 55,u 56,u 57,u 58,u 59,u 60,u 61,u 62,u 63,u 64,u 65,u 66,u 67,u 68,u 69,u 70]
structure PX (s:Nat) (w:World) (pre:List (Value × List Nat)) (W:World):Prop where
  bl:Below s w W
  r1:Rw W (s+2) 106 #[.slice none 0 0]
  r2:Rw W (s+3) 4 #[.bool false]
  big:∃x∈pre,10<x.2.length
theorem PX.own {s:Nat} {w:World} {B:Nat} (hs:s+3<B) (hw:s≤w.heap.size) (c0:Code):OwnFrom B (fun pre W=>c0= .ret∧PX s w pre W):=fun x X Y row hh hg hr=>
  ⟨hh.1,⟨hg.os.trans hh.2.bl.os,hg.tape.trans hh.2.bl.tape,hg.output.trans hh.2.bl.output,Nat.le_trans hh.2.bl.size hg.size,fun k hk=>(hg.block k (by have:=hh.2.bl.size;omega) (fun e=>by have:=(hr k e.symm).1;omega)).trans (hh.2.bl.block k hk)⟩,
    (hg.block _ hh.2.r1.lt (fun e=>by have:=(hr _ e.symm).1;omega)).trans hh.2.r1,(hg.block _ hh.2.r2.lt (fun e=>by have:=(hr _ e.symm).1;omega)).trans hh.2.r2,hh.2.big⟩
theorem PX.gi {s H:Nat} {w A C:World} {pre:List (Value × List Nat)} (h:PX s w pre A) (hg:Gi H H A C) (hs:s+3<H) (hw:s≤w.heap.size):PX s w pre C:=
  ⟨⟨hg.os.trans h.bl.os,hg.tape.trans h.bl.tape,hg.output.trans h.bl.output,Nat.le_trans h.bl.size hg.size,fun k hk=>(hg.block k (by have:=h.bl.size;omega) (by omega) (by omega)).trans (h.bl.block k hk)⟩,
    (hg.block _ h.r1.lt (by omega) (by omega)).trans h.r1,(hg.block _ h.r2.lt (by omega) (by omega)).trans h.r2,h.big⟩
set_option maxRecDepth 100000 in
set_option maxHeartbeats 4000000 in
theorem partsOf_any (Aw Af At:Option Addr) (nw nf cw cf ct N:Nat) (g:Gv) (on:List Bool) (w:World) (hN1:1≤N) (hN2:N≤40) (hWB:wiresB N g.wires=true)
    (hG:GAt w w.heap.size Aw nw Af nf g) (hol:on.length=nw) (hO:Sl w w.heap.size 1 CB At on) :
    Calls Tryz.prog 91 #[.agg #[O U (N:Int),.slice Aw nw cw,.slice Af nf cf,O U g.least],.slice At nw ct] w fun e w'=>(∃(s:Sc) (xs:List Pm),e= .returned (.tuple #[.slice s.A s.n s.c,.bool (smallP (partsL (onP g.wires on) N))])∧Own w' w.heap.size 132 3 fPm s.v xs∧(∀x∈xs,PmIn w' w.heap.size x)∧
      xs.map (·.p)=if smallP (partsL (onP g.wires on) N) then (partsL (onP g.wires on) N).map (partV g on) else [])∧Below w.heap.size w w':=by
  obtain⟨sb,hsb⟩:∃b,smallP (partsL (onP g.wires on) N)=b:=⟨_,rfl⟩
  obtain⟨pl,hpl⟩:∃l,(if sb=true then (partsL (onP g.wires on) N).map (partV g on) else [])=l:=⟨_,rfl⟩
  rw [hsb,hpl]
  have HSB:=Z hsb;have HPL:=Z hpl
  clear hsb hpl
  have hb1:=(((((Below.refl w.heap.size w).alloc (Nat.le_refl _) (.cells #[O U (N:Int),.slice Aw nw cw,.slice Af nf cf,O U g.least] 25)).alloc (by simp) (.cells #[.slice At nw ct] 26)).alloc (by simp;omega) (.cells #[.slice none 0 0] 106)).alloc (by simp;omega) (.cells #[.bool false] 4)).alloc (by simp;omega) (.cells #[.slice none 0 0] 106)
  obtain⟨q1,q2,q3,q4,q5⟩:=rows5 w #[O U (N:Int),.slice Aw nw cw,.slice Af nf cf,O U g.least] #[.slice At nw ct] #[.slice none 0 0] #[.bool false] #[.slice none 0 0] 25 26 106 4 106
  have hz1:(((((w.alloc (.cells #[O U (N:Int),.slice Aw nw cw,.slice Af nf cf,O U g.least] 25)).alloc (.cells #[.slice At nw ct] 26)).alloc (.cells #[.slice none 0 0] 106)).alloc (.cells #[.bool false] 4)).alloc (.cells #[.slice none 0 0] 106)).heap.size=w.heap.size+5:=by simp
  have e0:=q1.cell 0;have e1:=q1.cell 1;have e2:=q1.cell 2;have e3:=q1.cell 3;have f0:=q2.cell 0
  obtain⟨W1,hW1⟩:∃z,((((w.alloc (.cells #[O U (N:Int),.slice Aw nw cw,.slice Af nf cf,O U g.least] 25)).alloc (.cells #[.slice At nw ct] 26)).alloc (.cells #[.slice none 0 0] 106)).alloc (.cells #[.bool false] 4)).alloc (.cells #[.slice none 0 0] 106)=z:=⟨_,rfl⟩
  rw [hW1] at hb1 q1 q2 q3 q4 q5 hz1 e0 e1 e2 e3 f0
  have HB1:=Z hb1;have HQ:=Z (And.intro q1 (And.intro q2 (And.intro q3 (And.intro q4 q5))));have HZ1:=Z hz1
  have HP:=Z (parts_any Aw Af At nw cw nf cf nw ct {g with nodes:=(N:Int)} W1)
  have HG1:=Z (hG.below hb1);have HO1:=Z (hO.below hb1);have HOL:=Z hol;have HWB:=Z hWB;have HN:=Z (And.intro hN1 hN2)
  clear hb1 q1 q2 q3 q4 q5 hz1 hG hO hol hWB
  refine (callsIn_wide (n:=8)).1 ?_
  refine callsIn_of_wp_marks Tryz.func91 rfl trivial ?_ rfl
  simp only [Tryz.ntmps91,List.size_toArray,List.length_cons,List.length_nil,Nat.reduceAdd,Nat.reduceSub,Array.replicate_succ,Array.replicate_zero,List.push_toArray,List.append_toArray,List.nil_append,List.cons_append]
  gi_wp2
  refine⟨trivial,CallsIn.mono (callsIn_wide.2 HP.out) ?_⟩
  rintro e w3 ⟨rfl,hw3⟩
  have hb3:=((Below.refl W1.heap.size W1).alloc (Nat.le_refl _) (.cells #[O U (N:Int),.slice Aw nw cw,.slice Af nf cf,O U g.least] 25)).alloc (by simp) (.cells #[.slice At nw ct] 26)
  obtain⟨q1,q2⟩:=rows2 W1 #[O U (N:Int),.slice Aw nw cw,.slice Af nf cf,O U g.least] #[.slice At nw ct] 25 26
  have hz3:((W1.alloc (.cells #[O U (N:Int),.slice Aw nw cw,.slice Af nf cf,O U g.least] 25)).alloc (.cells #[.slice At nw ct] 26)).heap.size=w.heap.size+7:=by simp [HZ1.out]
  rw [hw3] at hb3 q1 q2 hz3
  have hz1:=HZ1.out
  rw [hz1] at q1 q2
  clear hw3 e0 e1 e2 e3 f0
  obtain⟨s,hs⟩:∃s,w.heap.size=s:=⟨_,rfl⟩
  have HW3:=Z (Below.trans (HB1.out) (hb3.mono HB1.out.size))
  have HP3:=Z (show PAt w3 s (s+4) w3.heap.size (s+5) (s+6) Aw nw cw Af nf cf At ct N g on from⟨by rw [←hs];exact q1,by rw [←hs];exact q2,by rw [←hs];exact HG1.out.below (hb3.mono (by omega)),by rw [←hs];exact HO1.out.below (hb3.mono (by omega)),by omega,by omega,by omega⟩)
  have HR3:=Z (show Rw w3 s 25 #[O U (N:Int),.slice Aw nw cw,.slice Af nf cf,O U g.least]∧Rw w3 (s+1) 26 #[.slice At nw ct]∧Rw w3 (s+2) 106 #[.slice none 0 0]∧Rw w3 (s+3) 4 #[.bool false]∧Rw w3 (s+4) 106 #[.slice none 0 0] from by
    obtain⟨p1,p2,p3,p4,p5⟩:=HQ.out
    rw [←hs]
    exact⟨p1.below hb3 (by omega),p2.below hb3 (by omega),p3.below hb3 (by omega),p4.below hb3 (by omega),p5.below hb3 (by omega)⟩)
  have hseq:=parts_seq 7 (by omega) s (s+4) (s+5) (s+5+1) Aw nw cw Af nf cf At ct N g on (w3.heap.size+2) w3 HN.out.1 HN.out.2 HWB.out HOL.out HP3.out
  have HSQ:=Z hseq
  rw [hs] at hz3 hz1 HW3 ⊢
  have HZ3:=Z hz3;have HS:=Z hs
  rw [hz1]
  clear hseq hb3 q1 q2 hW1 hz1 hz3
  gi_wp2
  have hz3:=HZ3.out
  refine wpIn_rangeY (α:=Value × List Nat) (w0:=w3) (D:=fun x W=>w3.heap.size+2<W.heap.size∧∃base,w3.heap.size+2<base∧Own W base 3 1 fI x.1 (x.2.map fun z:Nat=>(z:Int))) (Kp:=KU (w3.heap.size+2) (s+4)) (b2:=w3.heap.size+2) (S:=fun xs=>xs.map (·.2)=partsL (onP g.wires on) N) (Sp:=fun pre=>pre≠ []∧∃s',pre.map (·.2) ++ s'=partsL (onP g.wires on) N) (N:=41) (gf:=73) (lb:=#[.pointer (some ⟨s+5,0,none⟩),.pointer (some ⟨s+5+1,0,none⟩)]) rfl (by omega) rfl trivial (enters_of Tryz.func73 (by kernel_rfl) rfl) HSQ.out (fun h k=>KU.trans h k) KU.put (Below.refl _ _) (.inr rfl) (fun _=>rfl)
    (fun pre W=>PI (w3.heap.size+2) (s+4) g on w3 pre W) (fun c pre W=>c=Code.ret∧PX s w3 pre W) (PI.own (by omega) (by omega) (by omega)) (fun c=>PX.own (by omega) (by omega) c) (fun _ _ _ h hg=>PI.gi h hg (by omega) (by omega)) (fun c _ _ _ h hg=>⟨h.1,PX.gi h.2 hg (by omega) (by omega)⟩) ⟨Below.refl _ _,(fun x hx=>by cases hx),⟨none,0,0⟩, [],HR3.out.2.2.2.2,Own.nil _ _ _ _ _,(fun x hx=>by cases hx),rfl⟩
    (fun p W=>PI (w3.heap.size+2) (s+4) g on w3 p.1 W∧(w3.heap.size+2<W.heap.size∧∃base,w3.heap.size+2<base∧Own W base 3 1 fI p.2.1.1 (p.2.1.2.map fun z:Nat=>(z:Int)))∧p.2.2={tmps:=FPo s p.2.1.1 (fun i=>p.2.2.tmps.getD i undef),defers:= []}) ?hB ?assign ?body ?done ?stop
  case hB=>
    rintro⟨pre,X,a1⟩ A C row ⟨h1,⟨h2,base,h3,h4⟩,h5⟩ hg hr
    refine⟨PI.own (by omega) (by omega) (by omega) pre A C row h1 hg hr,⟨Nat.lt_of_lt_of_le h2 hg.size,base,h3,h4.of_blocks (fun k hk=>hg.block k (h4.lt k hk).2 (fun e=> ?_))⟩,h5⟩
    obtain⟨_,o,ho,hc⟩:=hr k e.symm
    exact own_cells h4 hk ho hc
  case assign=>
    intro l pre X W K hI hD hlen hK
    have HK:=Z hK
    clear hK
    gi_wp2
    exact HK.out _ _ (KeepsOthers.refl _) (KU.refl _) ⟨hI,hD,rfl⟩
  case stop=>
    intro d c pre W hd hSp hIx hdef
    obtain⟨rfl,hX⟩:=hIx
    have HDF:=Z (And.intro hd hdef);have HX:=Z hX
    obtain⟨_,s',hs'⟩:=hSp
    have HBAD:=Z (show smallP (partsL (onP g.wires on) N)=false from by
      obtain⟨x,hx,hb⟩:=hX.big
      unfold smallP
      rw [List.all_eq_false]
      exact⟨x.2,by rw [←hs'];exact List.mem_append_left _ (List.mem_map.2 ⟨x,hx,rfl⟩),by simp;omega⟩)
    clear hX hd hdef hs'
    gi_wp2
    (try simp only [Exit.inBlock,Exit.then])
    (try rw [Exit.noGoto_ret])
    have hdf:=HDF.out
    refine leaves_mks [d] _ (by simp) (fun D hD=>by rw [List.mem_singleton.1 hD];exact hdf.2) ?_
    intro W' hb hs2 h1 h2 h3
    have hbW:Below (s+7) W W':=⟨h1,h2,h3,by omega,fun k hk=>hb k fun D hD e=>by rw [List.mem_singleton.1 hD,hdf.1] at e;omega⟩
    refine⟨_,res_11 rfl _ _ (s+2) (s+3) 106 4 (.slice none 0 0) (.bool false) _ _ rfl rfl (HX.out.r1.below hbW (by omega)) (HX.out.r2.below hbW (by omega)) Tryz.underlying106 rfl Tryz.underlying4 rfl,⟨⟨none,0,0⟩, [],by rw [←HSB.out,HBAD.out],Own.nil _ _ _ _ _,(fun x hx=>by cases hx),by rw [←HPL.out,←HSB.out,HBAD.out];rfl⟩, ?_⟩
    rw [HS.out];exact HW3.out.trans ((HX.out.bl).trans (hbW.mono (by omega)))
  case done=>
    intro d xs W hd hS hI hdef
    obtain⟨sl,ys,hl,hxo,hxe,hxm⟩:=hI.row
    have HGOOD:=Z (show smallP (partsL (onP g.wires on) N)=true from by
      unfold smallP
      rw [List.all_eq_true,←hS]
      intro x hx
      obtain⟨y,hy,rfl⟩:=List.mem_map.1 hx
      exact decide_eq_true (hI.ok y hy))
    have hxm':ys.map (·.p)=(partsL (onP g.wires on) N).map (partV g on):=by
      rw [hxm,←hS,List.map_map];rfl
    have p3:=HR3.out.2.2.1.below hI.bl (by omega);have p4:=HR3.out.2.2.2.1.below hI.bl (by omega)
    have l0:=hl.cell 0;have g3:=p3.cell 0;have g4:=p4.cell 0;have k3:=p3.frozen 0;have k4:=p4.frozen 0
    have HDF:=Z (And.intro hd hdef);have HI:=Z hI;have HXO:=Z hxo;have HXE:=Z hxe;have HXM:=Z hxm';have HP34:=Z (And.intro p3 p4)
    clear hd hdef hI hl hxo hxe hxm hxm' p3 p4 hS
    gi_wp2
    (try simp only [Exit.inBlock,Exit.then])
    (try rw [Exit.noGoto_ret])
    have hdf:=HDF.out
    have r3:=(HP34.out.1.set 0 (.slice sl.A sl.n sl.c)).far (k:=s+3) 0 (.bool true) (show s+2≠s+3 by omega)
    have r4:=(HP34.out.2.far (k:=s+2) 0 (.slice sl.A sl.n sl.c) (show s+3≠s+2 by omega)).set 0 (.bool true)
    have hbS:Below s w3 ((W.setCell ⟨s+2,0,none⟩ (.slice sl.A sl.n sl.c)).setCell ⟨s+3,0,none⟩ (.bool true)):=((HI.out.bl.mono (by omega)).setCell (p:=⟨s+2,0,none⟩) (by show s≤s+2;omega) _).setCell (p:=⟨s+3,0,none⟩) (by show s≤s+3;omega) _
    have hkp:∀k,w3.heap.size+2+1≤k→((W.setCell ⟨s+2,0,none⟩ (.slice sl.A sl.n sl.c)).setCell ⟨s+3,0,none⟩ (.bool true)).heap[k]? = W.heap[k]?:=fun k hk=>(Below.heap_setCell _ _ _ k (by show k≠s+3;omega)).trans (Below.heap_setCell _ _ _ k (by show k≠s+2;omega))
    have hdd:((W.setCell ⟨s+2,0,none⟩ (.slice sl.A sl.n sl.c)).setCell ⟨s+3,0,none⟩ (.bool true)).heap[d]? = some (.deferred (some [])):=(Below.heap_setCell _ _ _ d (by rw [hdf.1];show _≠s+3;omega)).trans ((Below.heap_setCell _ _ _ d (by rw [hdf.1];show _≠s+2;omega)).trans hdf.2)
    obtain⟨W2,hW2⟩:∃z,(W.setCell ⟨s+2,0,none⟩ (.slice sl.A sl.n sl.c)).setCell ⟨s+3,0,none⟩ (.bool true)=z:=⟨_,rfl⟩
    have hgoal:∀(a b:Nat),a=s+2→b=s+3→(W.setCell ⟨a,0,none⟩ (.slice sl.A sl.n sl.c)).setCell ⟨b,0,none⟩ (.bool true)=W2:=fun a b h1 h2=>by rw [h1,h2];exact hW2
    rw [hgoal (s+1+1) (s+1+1+1) (by omega) (by omega)]
    rw [hW2] at r3 r4 hbS hkp hdd
    refine leaves_mks [d] _ (by simp) (fun D hD=>by rw [List.mem_singleton.1 hD];exact hdd) ?_
    intro W' hb hs2 h1 h2 h3
    have hbW:Below (s+7) W2 W':=⟨h1,h2,h3,by omega,fun k hk=>hb k fun D hD e=>by rw [List.mem_singleton.1 hD,hdf.1] at e;omega⟩
    have hkW:∀k,w3.heap.size+2+1≤k→W'.heap[k]? = W.heap[k]?:=fun k hk=>(hb k fun D hD e=>by rw [List.mem_singleton.1 hD,hdf.1] at e;omega).trans (hkp k hk)
    refine⟨_,res_11 rfl _ _ (s+2) (s+3) 106 4 (.slice sl.A sl.n sl.c) (.bool true) _ _ rfl rfl (r3.below hbW (by omega)) (r4.below hbW (by omega)) Tryz.underlying106 rfl Tryz.underlying4 rfl,⟨sl,ys,by rw [←HSB.out,HGOOD.out],(HXO.out.of_blocks (fun k hk=>hkW k (HXO.out.lt k hk).1)).lower (by have:=HS.out;have:=HZ3.out;omega),fun x hx=>((HXE.out x hx).step (fun k cs e hk _ _=>hkW k hk)).lower (by have:=HS.out;have:=HZ3.out;omega),by rw [←HPL.out,←HSB.out,HGOOD.out,if_pos rfl];exact HXM.out⟩, ?_⟩
    rw [HS.out];exact HW3.out.trans (hbS.trans (hbW.mono (by omega)))
  case body=>
    rintro l pre X a1 W ⟨hI,hD,ha⟩ hlen
    replace ha:a1={tmps:=FPo s X.1 (fun i=>a1.tmps.getD i undef),defers:= []}:=ha
    replace hI:PI (w3.heap.size+2) (s+4) g on w3 pre W:=hI
    replace hD:w3.heap.size+2<W.heap.size∧∃base,w3.heap.size+2<base∧Own W base 3 1 fI X.1 (X.2.map fun z:Nat=>(z:Int)):=hD
    obtain⟨u,rfl⟩:∃u,a1={tmps:=FPo s X.1 u,defers:= []}:=⟨_,ha⟩
    clear ha
    obtain⟨nv,nl⟩:=X
    obtain⟨hHW,base,hbase,ho⟩:=hD
    replace ho:Own W base 3 1 fI nv (nI nl):=ho
    have hnl:(nI nl).length=nl.length:=by unfold nI;rw [List.length_map]
    obtain⟨An,cn,rfl,hlc,hcm, -⟩:=ho.form
    rw [hnl] at hlc ho ⊢
    have HI:=Z hI;have HO:=Z ho;have HNL:=Z hnl;have HHW:=Z hHW
    have HBS:=Z hbase
    have hr:=HR3.out
    have p1:=hr.1.below hI.bl (by omega);have p2:=hr.2.1.below hI.bl (by omega);have p3:=hr.2.2.1.below hI.bl (by omega);have p4:=hr.2.2.2.1.below hI.bl (by omega)
    have HPR:=Z (And.intro p1 (And.intro p2 (And.intro p3 p4)))
    clear hI ho hnl hr hbase
    simp only [FPo]
    by_cases hbig:10<nl.length
    · have hbi:(10:Int)<(nl.length:Int):=by omega
      have g3:=p3.cell 0;have g4:=p4.cell 0;have k3:=p3.frozen 0;have k4:=p4.frozen 0
      have HX:=Z (show PX s w3 (pre ++ [(.slice An nl.length cn,nl)]) ((W.setCell ⟨s+2,0,none⟩ (.slice none 0 0)).setCell ⟨s+3,0,none⟩ (.bool false)) from
        ⟨((HI.out.bl.mono (by omega)).setCell (p:=⟨s+2,0,none⟩) (by show s≤s+2;omega) _).setCell (p:=⟨s+3,0,none⟩) (by show s≤s+3;omega) _,(p3.set 0 _).far 0 _ (by omega),(p4.far (k:=s+2) 0 _ (by omega)).set 0 _,(.slice An nl.length cn,nl),by simp,hbig⟩)
      clear p1 p2 p3 p4 hbig hlc hcm
      gi_wp2
      exact⟨(KeepsOthers.setCell _ _ _).trans (KeepsOthers.setCell _ _ _),rfl,HX.out⟩
    · have hbi:¬(10:Int)<(nl.length:Int):=by omega
      clear p1 p2 p3 p4
      have HPK:=Z (show ∀wx,Below W.heap.size W wx→Rw wx s 25 #[O U (N:Int),.slice Aw nw cw,.slice Af nf cf,O U g.least]∧Rw wx (s+1) 26 #[.slice At nw ct]∧GAt wx s Aw nw Af nf g∧Sl wx s 1 CB At on from fun wx h=>by
        have hb:=HI.out.bl.size
        have hsW:s≤W.heap.size:=by have:=HZ3.out;omega
        have hbx:=(HI.out.bl.mono (show s≤s+4 by omega)).trans (h.mono hsW)
        exact⟨HPR.out.1.below h (by have:=HZ3.out;omega),HPR.out.2.1.below h (by have:=HZ3.out;omega),HP3.out.g.below hbx,HP3.out.o.below hbx⟩)
      have HOK:=Z (show ∀wx,Below W.heap.size W wx→Own wx base 3 1 fI (.slice An nl.length cn) (nI nl) from fun wx h=>HO.out.below h (Nat.le_refl _))
      have hbp:=(Below.refl W.heap.size W).alloc (Nat.le_refl _) (.cells #[.slice An nl.length cn,.slice none 0 0,.slice none 0 0] 132)
      have qp:=Rw.new W #[.slice An nl.length cn,.slice none 0 0,.slice none 0 0] 132
      obtain⟨g1,g2,g3,g4⟩:=HPK.out _ hbp
      have e0:=g1.cell 0;have e1:=g1.cell 1
      have HWN:=Z (show g.wires.length=nw from g3.wl);have HFN:=Z (show g.feeds.length=nf from g3.fl)
      have hwm:=g3.wm;have hfm:=g3.fm
      have HWM:=Z (And.intro hwm hfm)
      have HBP:=Z hbp;have HQP:=Z qp
      clear hbp qp g1 g2 g3 g4 hbig
      gi_wp2
      obtain⟨W2,hW2⟩:∃z,W.alloc (.cells #[.slice An nl.length cn,.slice none 0 0,.slice none 0 0] 132)=z:=⟨_,rfl⟩
      rw [hW2] at HBP HQP ⊢
      obtain⟨M,hM⟩:∃n,W.heap.size=n:=⟨_,rfl⟩
      rw [hM] at HQP ⊢
      have HM:=Z hM
      clear e0 e1 hW2
      gi_loopw [25] (fun s25 wr=>∃(k:Nat) (sw:Sc),k≤nw∧s25=O U (k:Int)∧Below W.heap.size W wr∧Rw wr M 132 #[.slice An nl.length cn,.slice sw.A sw.n sw.c,.slice none 0 0]∧Own wr (M+1) 60 4 fWv sw.v (wiresTo g.wires on nl k)) (fun s25 _=>nw - (intOf s25).toNat)
      case atStart=>exact⟨0,⟨none,0,0⟩,Nat.zero_le _,rfl,HBP.out,HQP.out,Own.nil _ _ _ _ _⟩
      case round=>
        obtain⟨k,sw,hk,rfl,hbr,hqr,how⟩:=hrel
        have HBR:=Z hbr;have HQR:=Z hqr;have HOW:=Z how
        obtain⟨g1,g2,g3,g4⟩:=HPK.out _ hbr
        by_cases hkn:k<nw
        · have hkI:(k:Int)<(nw:Int):=by omega
          have hk0:(0:Int)≤(k:Int):=by omega
          have hkw:k<g.wires.length:=by have:=HWN.out;omega
          have hko:k<on.length:=by have:=HOL.out;omega
          obtain⟨b,o,rfl,hbb,c0,c1,c2,c3⟩:=wire_at g3.ws hkw
          obtain⟨b',o',rfl,hbb',d0⟩:=bool_at g4 hko
          obtain⟨wv,hwv⟩:∃x,g.wires[k]=x:=⟨_,rfl⟩
          obtain⟨y,hy⟩:∃x,on[k]=x:=⟨_,rfl⟩
          rw [hwv] at c0 c1 c2 c3
          rw [hy] at d0
          have HSU:=Z (wiresTo_succ (ns:=nl) (show g.wires[k]? = some wv from by rw [List.getElem?_eq_getElem hkw,hwv]) (show on[k]? = some y from by rw [List.getElem?_eq_getElem hko,hy]))
          have hsz:=HHW.out
          have hsW:=hbr.size
          have hz3:=HZ3.out
          have f0:=g2.cell 0
          have hlb:b<wr.heap.size:=by omega
          have hlb':b'<wr.heap.size:=by omega
          have hb3:=(Below.refl wr.heap.size wr).alloc (Nat.le_refl _) (.cells #[O U wv.a,O U wv.b,O U wv.s,.bool wv.sw] 60)
          have q3:=Rw.new wr #[O U wv.a,O U wv.b,O U wv.s,.bool wv.sw] 60
          have d0':(wr.alloc (.cells #[O U wv.a,O U wv.b,O U wv.s,.bool wv.sw] 60)).cell? ⟨b',o'+k,none⟩=some (.bool y):=by rw [cell_alloc_lt _ _ hlb'];exact d0
          have f0':=(g2.alloc (.cells #[O U wv.a,O U wv.b,O U wv.s,.bool wv.sw] 60)).cell 0
          obtain⟨W3,hW3⟩:∃z,wr.alloc (.cells #[O U wv.a,O U wv.b,O U wv.s,.bool wv.sw] 60)=z:=⟨_,rfl⟩
          rw [hW3] at hb3 q3 d0' f0'
          obtain⟨M3,hM3⟩:∃n,wr.heap.size=n:=⟨_,rfl⟩
          rw [hM3] at q3
          have HB3:=Z hb3;have HQ3:=Z q3;have HM3:=Z hM3;have HK:=Z hkn
          have HCT:=Z (contains_any An nl.length cn (nI nl) wv.a W3 HNL.out (by omega) (by
            have:=(HOK.out _ (hbr.trans (hb3.mono hsW)))
            exact this.sl fI_len (by rw [HNL.out])))
          have w0:=q3.cell 0;have w1:=q3.cell 1;have w2:=q3.cell 2;have w3':=q3.cell 3
          clear hb3 q3 hwv hy hkw hko hbb hbb' g1 g2 g3 g4 hqr how hkn hlb hlb' hsz hz3
          cases y with
          | false=>
            have HNX:=Z (show wiresTo g.wires on nl (k+1)=wiresTo g.wires on nl k from by rw [HSU.out];simp)
            have HB5:=Z (HBR.out.trans (HB3.out.mono HBR.out.size))
            have HQ5:=Z (HQR.out.below HB3.out HQR.out.lt)
            have HO5:=Z (HOW.out.below HB3.out (Nat.le_refl _))
            gi_wp2
            refine⟨trivial, ?_⟩
            gi_wp2
            refine⟨⟨k+1,sw,by have:=HK.out;omega,rfl,HB5.out,HQ5.out,by rw [HNX.out];exact HO5.out⟩, ?_⟩
            have:=HK.out;simp [intOf];omega
          | true=>
            obtain⟨y,hy⟩:∃y,decide (wv.a∈nI nl)=y:=⟨_,rfl⟩
            rw [hy] at HCT
            rw [hy,Bool.true_and] at HSU
            have HB5:=Z (HBR.out.trans (HB3.out.mono HBR.out.size))
            have HQ5:=Z (HQR.out.below HB3.out HQR.out.lt)
            have HO5:=Z (HOW.out.below HB3.out (Nat.le_refl _))
            clear hy
            gi_wp2
            refine⟨trivial,CallsIn.mono (CallsIn.inRound l (callsIn_wide.2 HCT.out)) ?_⟩
            rintro e w5 ⟨rfl,rfl⟩
            cases y with
            | false=>
              have HNX:=Z (show wiresTo g.wires on nl (k+1)=wiresTo g.wires on nl k from by rw [HSU.out];simp)
              gi_wp2
              refine⟨⟨k+1,sw,by have:=HK.out;omega,rfl,HB5.out,HQ5.out,by rw [HNX.out];exact HO5.out⟩, ?_⟩
              have:=HK.out;simp [intOf];omega
            | true=>
              have HNX:=Z (show wiresTo g.wires on nl (k+1)=wiresTo g.wires on nl k ++ [wv] from by rw [HSU.out];simp)
              have HLN:=Z (show (wiresTo g.wires on nl k).length≤100000 from by have:=wiresTo_len g.wires on nl k;have:=HWN.out;have:=HWM.out;omega)
              have m0:=HQ5.out.cell 0;have m1:=HQ5.out.cell 1;have m2:=HQ5.out.cell 2
              have m1f:=HQ5.out.frozen 1
              obtain⟨i6,hi6,hz6,hs6,hy6⟩:=info_parts info60
              have HQ6:=Z (HQ5.out.alloc (.cells #[O U wv.a,O U wv.b,O U wv.s,.bool wv.sw] 60))
              gi_wp2_with (gi_at_builtin;go_must (refine wpListIn_app rfl (.tmp 41) (.tmp 43) _ rfl (M+1) 60 i6 _ 4 32 Tryz.underlying22 hi6 hz6 hs6 hy6 rfl (by omega) fWv_len fWv_one (.slice sw.A sw.n sw.c) _ rfl (HO5.out.alloc _) _ _ wv rfl (Sl.new _ _ wv _ rfl) (by have:=HLN.out;unfold maxLen;omega) (by have:=HLN.out;omega) (by have:=HQ6.out.lt;omega) ?_)
                           intro v2 w7 ow2 gr2 at2
                           obtain⟨A2,c2,rfl,hl2,hm2, -⟩:=ow2.form
                           generalize hn2:List.length (_ ++ [_])=n2 at ow2 ⊢
                           clear hn2
                           go_must (have hbl:∀j,(Value.slice sw.A sw.n sw.c).ownBlock=some j→M+1≤j:=fun j e=>(HO5.out.lt j e).1)
                           go_must (have hq7:=HQ6.out.grown gr2 (fun j e=>by have:=hbl j e;omega))
                           go_must (have hb7:=bGrown (HB5.out.trans (((Below.refl W3.heap.size W3).alloc (Nat.le_refl _) (.cells #[O U wv.a,O U wv.b,O U wv.s,.bool wv.sw] 60)).mono HB5.out.size)) gr2 (fun j e=>by have:=hbl j e;have:=HM.out;omega) (by have:=HB5.out.size;simp;omega))
                           have m17:=hq7.cell 1
                           have m17f:=hq7.frozen 1
                           have HQ7:=Z hq7;have HB7:=Z hb7;have HO7:=Z ow2
                           clear hq7 hb7 ow2 gr2 at2 hbl hl2 hm2)
              have HQ8:=Z (HQ7.out.set 1 (.slice A2 n2 c2))
              have HB8:=Z (HB7.out.setCell (p:=⟨M,1,none⟩) (by have:=HM.out;show W.heap.size≤M;omega) (.slice A2 n2 c2))
              have HO8:=Z (HO7.out.of_blocks (w':=w7.setCell ⟨M,1,none⟩ (.slice A2 n2 c2)) (fun j hj=>Below.heap_setCell _ _ _ j (by show j≠M;have:=(HO7.out.lt j hj).1;omega)))
              refine⟨⟨k+1,⟨A2,n2,c2⟩,by have:=HK.out;omega,rfl,HB8.out,HQ8.out,by rw [HNX.out];exact HO8.out⟩, ?_⟩
              have:=HK.out;simp [intOf];omega
        · have hkI:¬(k:Int)<(nw:Int):=by omega
          have hke:k=nw:=by omega
          subst hke
          have HPW:=Z (show Own wr (M+1) 60 4 fWv sw.v (partV g on nl).wires from by unfold partV;rw [HWN.out];exact how)
          have h1:=g1.cell 2
          obtain⟨W5,hW5⟩:∃z,wr=z:=⟨_,rfl⟩
          subst hW5
          clear hkI hkn g2 g3 g4 hbr hqr how HQP HBP hk HOW
          gi_wp2
          clear h1 g1
          gi_loopw [50] (fun s50 wr=>∃(k:Nat) (sf:Sc),k≤nf∧s50=O U (k:Int)∧Below W.heap.size W wr∧Rw wr M 132 #[.slice An nl.length cn,.slice sw.A sw.n sw.c,.slice sf.A sf.n sf.c]∧Own wr (M+1) 3 1 fI sf.v (nI (feedsTo g.feeds nl k))∧Own wr (M+1) 60 4 fWv sw.v (partV g on nl).wires) (fun s50 _=>nf - (intOf s50).toNat)
          case atStart=>exact⟨0,⟨none,0,0⟩,Nat.zero_le _,rfl,HBR.out,HQR.out,Own.nil _ _ _ _ _,HPW.out⟩
          case round=>
            obtain⟨k,sf,hk,rfl,hbr,hqr,how,hpw⟩:=hrel
            have HBR:=Z hbr;have HQR:=Z hqr;have HOW:=Z how;have HPW:=Z hpw
            obtain⟨g1,g2,g3,g4⟩:=HPK.out _ hbr
            by_cases hkn:k<nf
            · have hkI:(k:Int)<(nf:Int):=by omega
              have hk0:(0:Int)≤(k:Int):=by omega
              have hkw:k<g.feeds.length:=by have:=HFN.out;omega
              obtain⟨b,o,rfl,hbb,c0,c1,c2,c3⟩:=feed_at g3.fs hkw
              obtain⟨wv,hwv⟩:∃x,g.feeds[k]=x:=⟨_,rfl⟩
              rw [hwv] at c0 c1 c2 c3
              have HSU:=Z (feedsTo_succ (ns:=nl) (show g.feeds[k]? = some wv from by rw [List.getElem?_eq_getElem hkw,hwv]))
              have hsz:=HHW.out
              have hsW:=hbr.size
              have hz3:=HZ3.out
              have hb3:=(Below.refl wr.heap.size wr).alloc (Nat.le_refl _) (.cells #[O U wv.pl,O U wv.volts,O U wv.siem,O U wv.limit] 58)
              have q3:=Rw.new wr #[O U wv.pl,O U wv.volts,O U wv.siem,O U wv.limit] 58
              obtain⟨W3,hW3⟩:∃z,wr.alloc (.cells #[O U wv.pl,O U wv.volts,O U wv.siem,O U wv.limit] 58)=z:=⟨_,rfl⟩
              rw [hW3] at hb3 q3
              obtain⟨M3,hM3⟩:∃n,wr.heap.size=n:=⟨_,rfl⟩
              rw [hM3] at q3
              have HB3:=Z hb3;have HQ3:=Z q3;have HM3:=Z hM3;have HK:=Z hkn
              have HCT:=Z (contains_any An nl.length cn (nI nl) wv.pl W3 HNL.out (by omega) (by
                have:=(HOK.out _ (hbr.trans (hb3.mono hsW)))
                exact this.sl fI_len (by rw [HNL.out])))
              have w0:=q3.cell 0
              clear hb3 q3 hwv hkw hbb g1 g2 g3 g4 hqr how hpw hkn hsz hz3
              obtain⟨y,hy⟩:∃y,decide (wv.pl∈nI nl)=y:=⟨_,rfl⟩
              rw [hy] at HCT
              rw [hy] at HSU
              have HB5:=Z (HBR.out.trans (HB3.out.mono HBR.out.size))
              have HQ5:=Z (HQR.out.below HB3.out HQR.out.lt)
              have HO5:=Z (HOW.out.below HB3.out (Nat.le_refl _))
              have HP5:=Z (HPW.out.below HB3.out (Nat.le_refl _))
              clear hy
              gi_wp2
              refine⟨trivial,CallsIn.mono (CallsIn.inRound l (callsIn_wide.2 HCT.out)) ?_⟩
              rintro e w5 ⟨rfl,rfl⟩
              cases y with
              | false=>
                have HNX:=Z (show feedsTo g.feeds nl (k+1)=feedsTo g.feeds nl k from by rw [HSU.out];simp)
                gi_wp2
                refine⟨⟨k+1,sf,by have:=HK.out;omega,rfl,HB5.out,HQ5.out,by rw [HNX.out];exact HO5.out,HP5.out⟩, ?_⟩
                have:=HK.out;simp [intOf];omega
              | true=>
                have HNX:=Z (show nI (feedsTo g.feeds nl (k+1))=nI (feedsTo g.feeds nl k) ++ [(k:Int)] from by rw [HSU.out];simp [nI])
                have HLN:=Z (show (nI (feedsTo g.feeds nl k)).length≤100000 from by unfold nI;rw [List.length_map];have:=feedsTo_len g.feeds nl k;have:=HWM.out;have:=HK.out;omega)
                have m0:=HQ5.out.cell 0;have m1:=HQ5.out.cell 1;have m2:=HQ5.out.cell 2
                have m2f:=HQ5.out.frozen 2
                obtain⟨i6,hi6,hz6,hs6,hy6⟩:=info_parts info3
                have HQ6:=Z (HQ5.out.alloc (.cells #[O U (k:Int)] 3))
                gi_wp2_with (gi_at_builtin;go_must (refine wpListIn_app rfl (.tmp 60) (.tmp 62) _ rfl (M+1) 3 i6 _ 1 8 Tryz.underlying40 hi6 hz6 hs6 hy6 rfl (by omega) fI_len fI_one (.slice sf.A sf.n sf.c) _ rfl (HO5.out.alloc _) _ _ (k:Int) rfl (Sl.new _ _ (k:Int) _ rfl) (by have:=HLN.out;unfold maxLen;omega) (by have:=HLN.out;omega) (by have:=HQ6.out.lt;omega) ?_)
                             intro v2 w7 ow2 gr2 at2
                             obtain⟨A2,c2,rfl,hl2,hm2, -⟩:=ow2.form
                             generalize hn2:List.length (_ ++ [_])=n2 at ow2 ⊢
                             clear hn2
                             go_must (have hbl:∀j,(Value.slice sf.A sf.n sf.c).ownBlock=some j→M+1≤j:=fun j e=>(HO5.out.lt j e).1)
                             go_must (have hq7:=HQ6.out.grown gr2 (fun j e=>by have:=hbl j e;omega))
                             go_must (have hb7:=bGrown (HB5.out.trans (((Below.refl W3.heap.size W3).alloc (Nat.le_refl _) (.cells #[O U (k:Int)] 3)).mono HB5.out.size)) gr2 (fun j e=>by have:=hbl j e;have:=HM.out;omega) (by have:=HB5.out.size;simp;omega))
                             have m17:=hq7.cell 2
                             have m17f:=hq7.frozen 2
                             go_must (have HPG:=Z (show Own w7 (M+1) 60 4 fWv sw.v (partV g on nl).wires from (HP5.out.alloc (.cells #[O U (k:Int)] 3)).of_blocks (fun j hj=>gr2.block j ((HP5.out.alloc _).lt j hj).2 (fun e=>own_apart (HP5.out.alloc (.cells #[O U (k:Int)] 3)) (HO5.out.alloc (.cells #[O U (k:Int)] 3)) (by decide) hj e.symm rfl))))
                             have HQ7:=Z hq7;have HB7:=Z hb7;have HO7:=Z ow2
                             clear hq7 hb7 ow2 gr2 at2 hbl hl2 hm2)
                have HQ8:=Z (HQ7.out.set 2 (.slice A2 n2 c2))
                have HB8:=Z (HB7.out.setCell (p:=⟨M,2,none⟩) (by have:=HM.out;show W.heap.size≤M;omega) (.slice A2 n2 c2))
                have HO8:=Z (HO7.out.of_blocks (w':=w7.setCell ⟨M,2,none⟩ (.slice A2 n2 c2)) (fun j hj=>Below.heap_setCell _ _ _ j (by show j≠M;have:=(HO7.out.lt j hj).1;omega)))
                have HP8:=Z (show Own (w7.setCell ⟨M,2,none⟩ (.slice A2 n2 c2)) (M+1) 60 4 fWv sw.v (partV g on nl).wires from by
                  refine (HPG.out).of_blocks (fun j hj=>Below.heap_setCell _ _ _ j (by show j≠M;have:=(HPG.out.lt j hj).1;omega)))
                refine⟨⟨k+1,⟨A2,n2,c2⟩,by have:=HK.out;omega,rfl,HB8.out,HQ8.out,by rw [HNX.out];exact HO8.out,HP8.out⟩, ?_⟩
                have:=HK.out;simp [intOf];omega
            · have hkI:¬(k:Int)<(nf:Int):=by omega
              have hke:k=nf:=by omega
              subst hke
              have HPF:=Z (show Own wr (M+1) 3 1 fI sf.v (nI (partV g on nl).feeds) from by unfold partV;rw [HFN.out];exact how)
              clear hkI hkn g1 g2 g3 g4 hbr hqr how hpw hk HOW
              obtain⟨sl,xs,hl,hxo,hxe,hxm⟩:=HI.out.row
              have hlL:=hl.lt
              have hLr:=hl.below HBR.out hlL
              have l0:=hLr.cell 0;have lf:=hLr.frozen 0
              have m0:=HQR.out.cell 0;have m1:=HQR.out.cell 1;have m2:=HQR.out.cell 2
              have hxo':=hxo.below HBR.out (Nat.le_refl _)
              have hxl:xs.length=pre.length:=by have:=congrArg List.length hxm;simpa using this
              have hlen':pre.length<41:=hlen
              have HL:=Z hLr;have HXO:=Z hxo';have HXE:=Z hxe;have HXM:=Z hxm;have HXL:=Z (show xs.length≤41 by omega)
              have HHR:=Z (show w3.heap.size+2<wr.heap.size from by have:=HHW.out;have:=HBR.out.size;omega)
              obtain⟨i6,hi6,hz6,hs6,hy6⟩:=info_parts info132
              have hoa:=HXO.out.form
              clear hl hlL hLr hxo hxe hxm hxl hxo' hoa
              obtain⟨X,hX⟩:∃X:Pm,(⟨⟨An,nl.length,cn⟩,sw,sf,partV g on nl⟩:Pm)=X:=⟨_,rfl⟩
              have HX:=Z hX
              have HFX:=Z (show #[Value.slice An nl.length cn,Value.slice sw.A sw.n sw.c,Value.slice sf.A sf.n sf.c]=(fPm X).toArray from by rw [←hX];rfl)
              clear hX
              gi_wp2_with (gi_at_builtin;go_must (refine wpListIn_app rfl (.tmp 66) (.tmp 68) _ rfl (w3.heap.size+2+1) 132 i6 _ 3 72 Tryz.underlying106 hi6 hz6 hs6 hy6 rfl (by omega) fPm_len fPm_one (.slice sl.A sl.n sl.c) _ rfl (HXO.out.alloc _) _ _ X rfl (Sl.new _ _ X _ HFX.out) (by have:=HXL.out;unfold maxLen;omega) (by have:=HXL.out;omega) (by have:=HHR.out;simp;omega) ?_)
                           intro v2 w7 ow2 gr2 at2
                           obtain⟨A2,c2,rfl,hl2,hm2, -⟩:=ow2.form
                           generalize hn2:List.length (_ ++ [_])=n2 at ow2 ⊢
                           clear hn2
                           go_must (have hbl:∀j,(Value.slice sl.A sl.n sl.c).ownBlock=some j→w3.heap.size+2+1≤j∧∃cs,(wr.alloc (.cells #[.slice An nl.length cn,.slice sw.A sw.n sw.c,.slice sf.A sf.n sf.c] 132)).heap[j]? = some (Obj.cells cs 132 (0,0)):=fun j e=>⟨(HXO.out.lt j e).1,own_type (HXO.out.alloc _) e⟩)
                           go_must (have hq7:=(HL.out.alloc (.cells #[.slice An nl.length cn,.slice sw.A sw.n sw.c,.slice sf.A sf.n sf.c] 132)).grown gr2 (fun j e=>by have:=(hbl j e).1;have:=HZ3.out;omega))
                           have m17:=hq7.cell 0
                           have m17f:=hq7.frozen 0
                           have HQ7:=Z hq7;have HO7:=Z ow2;have HG7:=Z gr2;have HBL:=Z hbl
                           clear hq7 ow2 gr2 at2 hbl hl2 hm2)
              have hz3:=HZ3.out;have hsW:=HHW.out
              have hba:=(Below.refl wr.heap.size wr).alloc (Nat.le_refl _) (.cells #[.slice An nl.length cn,.slice sw.A sw.n sw.c,.slice sf.A sf.n sf.c] 132)
              have hbA:=HBR.out.trans (hba.mono HBR.out.size)
              obtain⟨WA,hWA⟩:∃z,wr.alloc (.cells #[.slice An nl.length cn,.slice sw.A sw.n sw.c,.slice sf.A sf.n sf.c] 132)=z:=⟨_,rfl⟩
              have hg7:=HG7.out;have hbl:=HBL.out
              rw [hWA] at hbA hba hg7 hbl
              have hszA:w3.heap.size+2<WA.heap.size:=by have:=hbA.size;omega
              have hb7:Below (s+4) w3 w7:=bGrown (HI.out.bl.trans (hbA.mono (by omega))) hg7 (fun j e=>by have:=(hbl j e).1;omega) (by omega)
              refine⟨((keeps_below hbA (Nat.le_refl _)).trans (keepsGrown hg7 (fun j e=>by obtain⟨cs,h⟩:=(hbl j e).2;exact⟨cs,_,h⟩))).trans (KeepsOthers.setCell _ _ _),((KU.of_below hbA).trans (KU.grown hg7 (fun j e=>by have:=(hbl j e).1;omega))).trans (KU.setCell _ _ _ (.inr rfl)),⟨hb7.setCell (p:=⟨s+1+1+1+1,0,none⟩) (by show s+4≤s+1+1+1+1;omega) _, ?_,⟨A2,n2,c2⟩,xs ++ [X],HQ7.out.set 0 _,HO7.out.of_blocks (fun j hj=>Below.heap_setCell _ _ _ j (by show j≠s+1+1+1+1;have:=(HO7.out.lt j hj).1;omega)), ?_, ?_⟩⟩
              · intro x hx
                rcases List.mem_append.1 hx with q|q
                · exact HI.out.ok x q
                · have:=List.mem_singleton.1 q;subst this;show nl.length≤10;omega
              · have hst:∀(x:Pm),PmIn WA (w3.heap.size+2+1) x→PmIn (w7.setCell ⟨s+1+1+1+1,0,none⟩ (.slice A2 n2 c2)) (w3.heap.size+2+1) x:=by
                  intro x h4
                  refine h4.step (fun k cs e hk he hc=> ?_)
                  refine (Below.heap_setCell _ _ _ k (by show k≠s+1+1+1+1;omega)).trans (hg7.block k (Array.getElem?_eq_some_iff.1 hc).1 (fun e2=> ?_))
                  obtain⟨cs2,h5⟩:=(hbl k e2.symm).2
                  rw [h5] at hc;cases hc;exact he rfl
                intro x hx
                rcases List.mem_append.1 hx with q|q
                · exact hst x (((HXE.out x q).below HBR.out (Nat.le_refl _)).below hba (Nat.le_refl _))
                · rw [List.mem_singleton.1 q,←HX.out]
                  refine hst _ ⟨?_, ?_, ?_⟩
                  · exact ((HOK.out _ hbA).lower (by have:=HBS.out;omega))
                  · exact ((HPW.out.below hba (Nat.le_refl _)).lower (by have:=HM.out;omega))
                  · exact ((HPF.out.below hba (Nat.le_refl _)).lower (by have:=HM.out;omega))
              · rw [List.map_append,List.map_append,HXM.out]
                congr 1
                rw [←HX.out];rfl
end Go.Proofs.YtbnfnpakibkboaaGreat
