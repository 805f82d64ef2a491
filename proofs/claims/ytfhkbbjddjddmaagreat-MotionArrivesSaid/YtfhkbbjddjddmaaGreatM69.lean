/- Law: MotionArrives. -/
import Derived.Test.YtfhkbbjddjddmaaGreatM68
set_option linter.unusedVariables false
set_option linter.unusedSimpArgs false
open Go.Value renaming int→O
open Go.IntKind renaming i64→U
open Go.Lib renaming hid→Z
namespace Go.Proofs.YtfhkbbjddjddmaaGreat
open Go.RowKit
def LgC (w:World) (b o:Nat) (x:LegP):Prop:=w.cell? ⟨b,o,none⟩=some (O U x.millis)∧w.cell? ⟨b,o+1,none⟩=some (O U x.at_)∧w.cell? ⟨b,o+2,none⟩=some (O U x.lg.pull)∧w.cell? ⟨b,o+3,none⟩=some (O U x.lg.brake)∧w.cell? ⟨b,o+4,none⟩=some (O U x.lg.drag)∧w.cell? ⟨b,o+5,none⟩=some (O U x.lg.hill)∧w.cell? ⟨b,o+6,none⟩=some (O U x.lg.round)∧w.cell? ⟨b,o+7,none⟩=some (O U x.lg.hold)∧w.cell? ⟨b,o+8,none⟩=some (O U x.took)∧w.cell? ⟨b,o+9,none⟩=some (O U x.gave)
theorem LgC.of {w:World} {b o:Nat} {x:LegP} (h:∀j u,(fLl x)[j]? = some u→w.cell? ⟨b,o+j,none⟩=some u):LgC w b o x:=⟨h 0 _ rfl,h 1 _ rfl,h 2 _ rfl,h 3 _ rfl,h 4 _ rfl,h 5 _ rfl,h 6 _ rfl,h 7 _ rfl,h 8 _ rfl,h 9 _ rfl⟩
theorem LgC.below {w w':World} {B b o:Nat} {x:LegP} (h:LgC w b o x) (hb:Below B w w') (hB:b<B):LgC w' b o x:=by
 obtain⟨y0,y1,y2,y3,y4,y5,y6,y7,y8,y9⟩:=h
 exact⟨(hb.cell (p:=⟨b,o,none⟩) hB).trans y0,(hb.cell (p:=⟨b,o+1,none⟩) hB).trans y1,(hb.cell (p:=⟨b,o+2,none⟩) hB).trans y2,(hb.cell (p:=⟨b,o+3,none⟩) hB).trans y3,(hb.cell (p:=⟨b,o+4,none⟩) hB).trans y4,(hb.cell (p:=⟨b,o+5,none⟩) hB).trans y5,(hb.cell (p:=⟨b,o+6,none⟩) hB).trans y6,(hb.cell (p:=⟨b,o+7,none⟩) hB).trans y7,(hb.cell (p:=⟨b,o+8,none⟩) hB).trans y8,(hb.cell (p:=⟨b,o+9,none⟩) hB).trans y9⟩
theorem prev_low {p:Pl} {l:List E} {t:Tr} {st:Int} {stops:List Int} (h:DrOk p l t st stops) {L:List LegP} {v:Int} (hf:∀i (hi:i<L.length),LegFit (stops.getD (i+1) 0) (prevAt L (stops.getD 0 0) i) v L[i]) {k:Nat} (hk:k≤L.length) (hL:L.length=stops.length - 1): -1000≤prevAt L (stops.getD 0 0) k∧prevAt L (stops.getD 0 0) k≤wlen p (l.map endNo):=by
 obtain⟨s1,s2,s3,s4⟩:=stopsB_in h.stops
 have hl1:=(TrOk.of h.tr).l1
 have hm:∀i,i<stops.length→stops.getD i 0∈stops:=fun i hi=>by
  rw [List.getD_eq_getElem?_getD,List.getElem?_eq_getElem hi];exact List.getElem_mem _
 cases k with
 | zero=>
  have:=s3 _ (hm 0 (by omega))
  unfold prevAt
  rw [if_pos rfl]
  omega
 | succ k=>
  have h1:=hf k (by omega)
  have h2:=s3 _ (hm (k+1) (by omega))
  have h3:=h1.le;have h4:=h1.near
  unfold prevAt
  rw [if_neg (by omega),show k+1 - 1=k by omega,List.getElem?_eq_getElem (by omega)]
  show -1000≤L[k].at_∧L[k].at_≤_
  omega
theorem Rw.set10 {w:World} {g:Nat} {t:TypeId} {c0 c1 c2 c3 c4 c5 c6 c7 c8 c9:Value} (h:Rw w g t #[c0,c1,c2,c3,c4,c5,c6,c7,c8,c9]) (v0 v1 v2 v3 v4 v5 v6 v7 v8 v9:Value):Rw ((((((((((w.setCell ⟨g,0,none⟩ v0).setCell ⟨g,1,none⟩ v1).setCell ⟨g,2,none⟩ v2).setCell ⟨g,3,none⟩ v3).setCell ⟨g,4,none⟩ v4).setCell ⟨g,5,none⟩ v5).setCell ⟨g,6,none⟩ v6).setCell ⟨g,7,none⟩ v7).setCell ⟨g,8,none⟩ v8).setCell ⟨g,9,none⟩ v9) g t #[v0,v1,v2,v3,v4,v5,v6,v7,v8,v9]:=by
 have h1:Rw (w.setCell ⟨g,0,none⟩ v0) g t #[v0,c1,c2,c3,c4,c5,c6,c7,c8,c9]:=h.set 0 v0
 have h2:Rw ((w.setCell ⟨g,0,none⟩ v0).setCell ⟨g,1,none⟩ v1) g t #[v0,v1,c2,c3,c4,c5,c6,c7,c8,c9]:=h1.set 1 v1
 have h3:Rw (((w.setCell ⟨g,0,none⟩ v0).setCell ⟨g,1,none⟩ v1).setCell ⟨g,2,none⟩ v2) g t #[v0,v1,v2,c3,c4,c5,c6,c7,c8,c9]:=h2.set 2 v2
 have h4:Rw ((((w.setCell ⟨g,0,none⟩ v0).setCell ⟨g,1,none⟩ v1).setCell ⟨g,2,none⟩ v2).setCell ⟨g,3,none⟩ v3) g t #[v0,v1,v2,v3,c4,c5,c6,c7,c8,c9]:=h3.set 3 v3
 have h5:Rw (((((w.setCell ⟨g,0,none⟩ v0).setCell ⟨g,1,none⟩ v1).setCell ⟨g,2,none⟩ v2).setCell ⟨g,3,none⟩ v3).setCell ⟨g,4,none⟩ v4) g t #[v0,v1,v2,v3,v4,c5,c6,c7,c8,c9]:=h4.set 4 v4
 have h6:Rw ((((((w.setCell ⟨g,0,none⟩ v0).setCell ⟨g,1,none⟩ v1).setCell ⟨g,2,none⟩ v2).setCell ⟨g,3,none⟩ v3).setCell ⟨g,4,none⟩ v4).setCell ⟨g,5,none⟩ v5) g t #[v0,v1,v2,v3,v4,v5,c6,c7,c8,c9]:=h5.set 5 v5
 have h7:Rw (((((((w.setCell ⟨g,0,none⟩ v0).setCell ⟨g,1,none⟩ v1).setCell ⟨g,2,none⟩ v2).setCell ⟨g,3,none⟩ v3).setCell ⟨g,4,none⟩ v4).setCell ⟨g,5,none⟩ v5).setCell ⟨g,6,none⟩ v6) g t #[v0,v1,v2,v3,v4,v5,v6,c7,c8,c9]:=h6.set 6 v6
 have h8:Rw ((((((((w.setCell ⟨g,0,none⟩ v0).setCell ⟨g,1,none⟩ v1).setCell ⟨g,2,none⟩ v2).setCell ⟨g,3,none⟩ v3).setCell ⟨g,4,none⟩ v4).setCell ⟨g,5,none⟩ v5).setCell ⟨g,6,none⟩ v6).setCell ⟨g,7,none⟩ v7) g t #[v0,v1,v2,v3,v4,v5,v6,v7,c8,c9]:=h7.set 7 v7
 have h9:Rw (((((((((w.setCell ⟨g,0,none⟩ v0).setCell ⟨g,1,none⟩ v1).setCell ⟨g,2,none⟩ v2).setCell ⟨g,3,none⟩ v3).setCell ⟨g,4,none⟩ v4).setCell ⟨g,5,none⟩ v5).setCell ⟨g,6,none⟩ v6).setCell ⟨g,7,none⟩ v7).setCell ⟨g,8,none⟩ v8) g t #[v0,v1,v2,v3,v4,v5,v6,v7,v8,c9]:=h8.set 8 v8
 have h10:Rw ((((((((((w.setCell ⟨g,0,none⟩ v0).setCell ⟨g,1,none⟩ v1).setCell ⟨g,2,none⟩ v2).setCell ⟨g,3,none⟩ v3).setCell ⟨g,4,none⟩ v4).setCell ⟨g,5,none⟩ v5).setCell ⟨g,6,none⟩ v6).setCell ⟨g,7,none⟩ v7).setCell ⟨g,8,none⟩ v8).setCell ⟨g,9,none⟩ v9) g t #[v0,v1,v2,v3,v4,v5,v6,v7,v8,v9]:=h9.set 9 v9
 exact h10
theorem below_set10 {B:Nat} {a w:World} (h:Below B a w) {g:Nat} (hg:B≤g) (v0 v1 v2 v3 v4 v5 v6 v7 v8 v9:Value):Below B a ((((((((((w.setCell ⟨g,0,none⟩ v0).setCell ⟨g,1,none⟩ v1).setCell ⟨g,2,none⟩ v2).setCell ⟨g,3,none⟩ v3).setCell ⟨g,4,none⟩ v4).setCell ⟨g,5,none⟩ v5).setCell ⟨g,6,none⟩ v6).setCell ⟨g,7,none⟩ v7).setCell ⟨g,8,none⟩ v8).setCell ⟨g,9,none⟩ v9):=
 ((((((((((h.setCell (p:=⟨g,0,none⟩) hg v0).setCell (p:=⟨g,1,none⟩) hg v1).setCell (p:=⟨g,2,none⟩) hg v2).setCell (p:=⟨g,3,none⟩) hg v3).setCell (p:=⟨g,4,none⟩) hg v4).setCell (p:=⟨g,5,none⟩) hg v5).setCell (p:=⟨g,6,none⟩) hg v6).setCell (p:=⟨g,7,none⟩) hg v7).setCell (p:=⟨g,8,none⟩) hg v8).setCell (p:=⟨g,9,none⟩) hg v9)
theorem Rw.far10 {w:World} {g k:Nat} {t:TypeId} {cs:Array Value} (h:Rw w g t cs) (hk:g≠k) (v0 v1 v2 v3 v4 v5 v6 v7 v8 v9:Value):Rw ((((((((((w.setCell ⟨k,0,none⟩ v0).setCell ⟨k,1,none⟩ v1).setCell ⟨k,2,none⟩ v2).setCell ⟨k,3,none⟩ v3).setCell ⟨k,4,none⟩ v4).setCell ⟨k,5,none⟩ v5).setCell ⟨k,6,none⟩ v6).setCell ⟨k,7,none⟩ v7).setCell ⟨k,8,none⟩ v8).setCell ⟨k,9,none⟩ v9) g t cs:=
 ((((((((((h.far (k:=k) 0 v0 (by omega)).far (k:=k) 1 v1 (by omega)).far (k:=k) 2 v2 (by omega)).far (k:=k) 3 v3 (by omega)).far (k:=k) 4 v4 (by omega)).far (k:=k) 5 v5 (by omega)).far (k:=k) 6 v6 (by omega)).far (k:=k) 7 v7 (by omega)).far (k:=k) 8 v8 (by omega)).far (k:=k) 9 v9 (by omega))
theorem Rw.set6 {w:World} {g:Nat} {t:TypeId} {c0 c1 c2 c3 c4 c5:Value} (h:Rw w g t #[c0,c1,c2,c3,c4,c5]) (v0 v1 v2 v3 v4 v5:Value):Rw ((((((w.setCell ⟨g,0,none⟩ v0).setCell ⟨g,1,none⟩ v1).setCell ⟨g,2,none⟩ v2).setCell ⟨g,3,none⟩ v3).setCell ⟨g,4,none⟩ v4).setCell ⟨g,5,none⟩ v5) g t #[v0,v1,v2,v3,v4,v5]:=by
 have h1:Rw (w.setCell ⟨g,0,none⟩ v0) g t #[v0,c1,c2,c3,c4,c5]:=h.set 0 v0
 have h2:Rw ((w.setCell ⟨g,0,none⟩ v0).setCell ⟨g,1,none⟩ v1) g t #[v0,v1,c2,c3,c4,c5]:=h1.set 1 v1
 have h3:Rw (((w.setCell ⟨g,0,none⟩ v0).setCell ⟨g,1,none⟩ v1).setCell ⟨g,2,none⟩ v2) g t #[v0,v1,v2,c3,c4,c5]:=h2.set 2 v2
 have h4:Rw ((((w.setCell ⟨g,0,none⟩ v0).setCell ⟨g,1,none⟩ v1).setCell ⟨g,2,none⟩ v2).setCell ⟨g,3,none⟩ v3) g t #[v0,v1,v2,v3,c4,c5]:=h3.set 3 v3
 have h5:Rw (((((w.setCell ⟨g,0,none⟩ v0).setCell ⟨g,1,none⟩ v1).setCell ⟨g,2,none⟩ v2).setCell ⟨g,3,none⟩ v3).setCell ⟨g,4,none⟩ v4) g t #[v0,v1,v2,v3,v4,c5]:=h4.set 4 v4
 have h6:Rw ((((((w.setCell ⟨g,0,none⟩ v0).setCell ⟨g,1,none⟩ v1).setCell ⟨g,2,none⟩ v2).setCell ⟨g,3,none⟩ v3).setCell ⟨g,4,none⟩ v4).setCell ⟨g,5,none⟩ v5) g t #[v0,v1,v2,v3,v4,v5]:=h5.set 5 v5
 exact h6
theorem below_set6 {B:Nat} {a w:World} (h:Below B a w) {g:Nat} (hg:B≤g) (v0 v1 v2 v3 v4 v5:Value):Below B a ((((((w.setCell ⟨g,0,none⟩ v0).setCell ⟨g,1,none⟩ v1).setCell ⟨g,2,none⟩ v2).setCell ⟨g,3,none⟩ v3).setCell ⟨g,4,none⟩ v4).setCell ⟨g,5,none⟩ v5):=
 ((((((h.setCell (p:=⟨g,0,none⟩) hg v0).setCell (p:=⟨g,1,none⟩) hg v1).setCell (p:=⟨g,2,none⟩) hg v2).setCell (p:=⟨g,3,none⟩) hg v3).setCell (p:=⟨g,4,none⟩) hg v4).setCell (p:=⟨g,5,none⟩) hg v5)
theorem Rw.far6 {w:World} {g k:Nat} {t:TypeId} {cs:Array Value} (h:Rw w g t cs) (hk:g≠k) (v0 v1 v2 v3 v4 v5:Value):Rw ((((((w.setCell ⟨k,0,none⟩ v0).setCell ⟨k,1,none⟩ v1).setCell ⟨k,2,none⟩ v2).setCell ⟨k,3,none⟩ v3).setCell ⟨k,4,none⟩ v4).setCell ⟨k,5,none⟩ v5) g t cs:=
 ((((((h.far (k:=k) 0 v0 (by omega)).far (k:=k) 1 v1 (by omega)).far (k:=k) 2 v2 (by omega)).far (k:=k) 3 v3 (by omega)).far (k:=k) 4 v4 (by omega)).far (k:=k) 5 v5 (by omega))
set_option maxRecDepth 100000 in
set_option maxHeartbeats 40000000 in
theorem MotionArrives_any (A A2:Option Addr) (c c2:Nat) (p:Pl) (Aw:Option Addr) (cw n:Nat) (l:List E) (t:Tr) (At:Option Addr) (nt ct:Nat) (st:Int) (As:Option Addr) (ns cs:Nat) (stops:List Int) (kp:Int) (w:World) (hP:PlAt w w.heap.size A c A2 c2 p) (hA:Sl w w.heap.size 2 CE Aw l) (hnl:l.length=n) (hn:t.grip.length=nt) (hn2:nt≤140737488351232) (hG:Sl w w.heap.size 1 CI At t.grip) (hns:stops.length=ns) (hnc:ns≤cs) (hS:Sl w w.heap.size 1 CI As stops) :
  Calls Tryz.prog 12 #[.agg #[.slice A p.nodes.length c,.slice A2 p.rails.length c2],.slice Aw n cw,.agg #[O U t.mass,O U t.len,O U t.speed,O U t.effort,O U t.brake,O U t.power,O U t.resist,O U t.rise,O U t.back,.slice At nt ct],O U st,.slice As ns cs,O U kp] w fun e w'=>e= .returned (.bool true)∧Below w.heap.size w w':=by
 have hb1:=((Below.refl w.heap.size w).alloc (Nat.le_refl _) (.cells #[.slice A p.nodes.length c,.slice A2 p.rails.length c2] 60)).alloc (by simp) (.cells #[O U t.mass,O U t.len,O U t.speed,O U t.effort,O U t.brake,O U t.power,O U t.resist,O U t.rise,O U t.back,.slice At nt ct] 24)
 obtain⟨q1,q2⟩:=rows2 w #[.slice A p.nodes.length c,.slice A2 p.rails.length c2] #[O U t.mass,O U t.len,O U t.speed,O U t.effort,O U t.brake,O U t.power,O U t.resist,O U t.rise,O U t.back,.slice At nt ct] 60 24
 obtain⟨W1,hW1⟩:∃z,(w.alloc (.cells #[.slice A p.nodes.length c,.slice A2 p.rails.length c2] 60)).alloc (.cells #[O U t.mass,O U t.len,O U t.speed,O U t.effort,O U t.brake,O U t.power,O U t.resist,O U t.rise,O U t.back,.slice At nt ct] 24)=z:=⟨_,rfl⟩
 rw [hW1] at hb1 q1 q2
 obtain⟨B,hB⟩:∃n,w.heap.size=n:=⟨_,rfl⟩
 rw [hB] at q1 q2
 have HB1:=Z hb1
 have HX0:=Z (Below.refl W1.heap.size W1)
 have HK:=Z (show ∀wx,Below W1.heap.size W1 wx→Rw wx B 60 #[.slice A p.nodes.length c,.slice A2 p.rails.length c2]∧Rw wx (B+1) 24 #[O U t.mass,O U t.len,O U t.speed,O U t.effort,O U t.brake,O U t.power,O U t.resist,O U t.rise,O U t.back,.slice At nt ct]∧PlAt wx wx.heap.size A c A2 c2 p∧Sl wx wx.heap.size 2 CE Aw l∧Sl wx wx.heap.size 1 CI At t.grip∧Sl wx wx.heap.size 1 CI As stops from fun wx h=>by
  have hb:=hb1.trans (h.mono hb1.size)
  have hz:=Nat.le_trans hb1.size h.size
  exact⟨q1.below h q1.lt,q2.below h q2.lt,(hP.below hb).more hz,(hA.below hb).more (fun _ _ h=>h) hz,(hG.below hb).more (fun _ _ h=>h) hz,(hS.below hb).more (fun _ _ h=>h) hz⟩)
 have HKN:=Z (show ∀wx,Below W1.heap.size W1 wx→Calls Tryz.prog 14 #[] wx fun e w'=>e= .returned (.bool true)∧Below wx.heap.size wx w' from fun wx _=>known_any wx)
 have HNN:=Z (And.intro hnl (And.intro hn hns))
 have HBR:=Z (show ∀wx,Below W1.heap.size W1 wx→Calls Tryz.prog 30 #[.agg #[.slice A p.nodes.length c,.slice A2 p.rails.length c2],.slice Aw n cw,.agg #[O U t.mass,O U t.len,O U t.speed,O U t.effort,O U t.brake,O U t.power,O U t.resist,O U t.rise,O U t.back,.slice At nt ct],.slice As ns cs] wx (BrPost p n ns nt wx) from fun wx h=>brief_any A A2 c c2 p Aw cw n t At nt ct As ns cs stops wx hn hn2 (HK.out wx h).2.2.2.2.1 hns (HK.out wx h).2.2.2.2.2)
 have e:=q1.cell;have f:=q2.cell
 clear hb1 q1 q2 hP hA hG hS hnl hn hns
 go_enter Tryz.func12,Tryz.ntmps12
 go_wp2_with fail
 (with_reducible refine (HBR.out _ HX0.out).mono ?_)
 rintro e w2 ⟨⟨br,rfl,hbi⟩,hb⟩
 have HX1:=Z (HX0.out.trans (hb.mono HX0.out.size))
 have HBI:=Z hbi
 clear hbi
 clear hb
 clear e f
 obtain⟨r1,r2,_⟩:=HK.out _ HX1.out
 have e:=r1.cell;have f:=r2.cell
 clear r1 r2
 clear hW1 hB
 cases br with
 | false=>
  go_wp2_with fail
  (with_reducible refine (HKN.out _ HX1.out).mono ?_)
  rintro e w3 ⟨rfl,hb⟩
  have HX2:=Z (HX1.out.trans (hb.mono HX1.out.size))
  clear hb
  go_wp2
  go_ret
  exact⟨by rfl,HB1.out.trans (HX2.out.mono HB1.out.size)⟩
 | true=>
  obtain⟨hn4,hn8,hn20⟩:=HBI.out rfl
  have HS0:=Z (show ∀wx,Below W1.heap.size W1 wx→Calls Tryz.prog 33 #[.agg #[.slice A p.nodes.length c,.slice A2 p.rails.length c2],.slice Aw n cw,.agg #[O U t.mass,O U t.len,O U t.speed,O U t.effort,O U t.brake,O U t.power,O U t.resist,O U t.rise,O U t.back,.slice At nt ct],O U st,.slice As ns cs] wx (RStPost p l t st stops wx) from fun wx h=>
   rStops_any A A2 c c2 p Aw cw n l t At nt ct st As ns cs stops wx (HK.out wx h).2.2.1 (HK.out wx h).2.2.2.1 HNN.out.1 (by omega) HNN.out.2.1 hn2 (HK.out wx h).2.2.2.2.1 HNN.out.2.2 (by omega) (HK.out wx h).2.2.2.2.2)
  by_cases hD:DrOk p l t st stops
  ·have HDK:=Z hD
   have HS1:=Z (show ∀wx,Below W1.heap.size W1 wx→Calls Tryz.prog 33 #[.agg #[.slice A p.nodes.length c,.slice A2 p.rails.length c2],.slice Aw n cw,.agg #[O U t.mass,O U t.len,O U t.speed,O U t.effort,O U t.brake,O U t.power,O U t.resist,O U t.rise,O U t.back,.slice At nt ct],O U st,.slice As ns cs] wx fun e w'=>e= .returned (.bool true)∧Below wx.heap.size wx w' from fun wx h=>(HS0.out wx h).mono (by
    rintro e w' ⟨⟨b,rfl,hb⟩,hbw⟩
    exact⟨by rw [hb.2 HDK.out],hbw⟩))
   have HSL:=Z (show ∀wx,Below W1.heap.size W1 wx→Calls Tryz.prog 34 #[.agg #[.slice A p.nodes.length c,.slice A2 p.rails.length c2],.slice Aw n cw,.agg #[O U t.mass,O U t.len,O U t.speed,O U t.effort,O U t.brake,O U t.power,O U t.resist,O U t.rise,O U t.back,.slice At nt ct],O U st,.slice As ns cs] wx (AnyPost wx) from fun wx h=>by
    have hs:=HDK.out
    have hi:=inB_iff.1 hs.s0
    exact slow_any A A2 c c2 p Aw cw n l t At nt ct st As ns cs wx (HK.out wx h).2.2.1 (HK.out wx h).2.2.2.1 HNN.out.1 (by omega) (wayOk_rails hs.way) (TrOk.of hs.tr) HNN.out.2.1 (HK.out wx h).2.2.2.2.1 hi.1 (by have:=HNN.out.2.1;omega))
   have HN8:=Z (show n≤8 from hn8)
   have HD0:=Z (show ∀ns' ss,ss.length=ns'→ns'≤cs→ns'≤4→(∀wx,Below W1.heap.size W1 wx→Sl wx wx.heap.size 1 CI As ss)→∀wx,Below W1.heap.size W1 wx→Calls Tryz.prog 31 #[.agg #[.slice A p.nodes.length c,.slice A2 p.rails.length c2],.slice Aw n cw,.agg #[O U t.mass,O U t.len,O U t.speed,O U t.effort,O U t.brake,O U t.power,O U t.resist,O U t.rise,O U t.back,.slice At nt ct],O U st,.slice As ns' cs] wx (DrPost p l t st ss wx) from fun ns' ss e1 e2 e4 e3 wx h=>by
    have:=Drive_any A A2 c c2 p Aw cw l t At nt ct st As ns' cs ss wx (HK.out wx h).2.2.1 (HK.out wx h).2.2.2.1 (by have:=HNN.out.1;omega) HNN.out.2.1 hn2 (HK.out wx h).2.2.2.2.1 e1 (by omega) e2 (e3 wx h)
    rwa [HNN.out.1] at this)
   have HN4:=Z hn4
   have HNC:=Z hnc
   clear hD hn4 hn8 hn20
   go_wp2_with fail
   (with_reducible refine (HS1.out _ HX1.out).mono ?_)
   rintro e w3 ⟨rfl,hb⟩
   have HX2:=Z (HX1.out.trans (hb.mono HX1.out.size))
   clear hb
   clear e f
   obtain⟨r1,r2,_⟩:=HK.out _ HX2.out
   have e:=r1.cell;have f:=r2.cell
   clear r1 r2
   go_wp2_with fail
   (with_reducible refine (HSL.out _ HX2.out).mono ?_)
   rintro e w4 ⟨⟨sb,rfl⟩,hb⟩
   have HX3:=Z (HX2.out.trans (hb.mono HX2.out.size))
   clear hb
   clear e f
   obtain⟨r1,r2,_⟩:=HK.out _ HX3.out
   have e:=r1.cell;have f:=r2.cell
   clear r1 r2
   cases sb with
   | true=>
    go_wp2_with fail
    (with_reducible refine (HKN.out _ HX3.out).mono ?_)
    rintro e w5 ⟨rfl,hb⟩
    have HX4:=Z (HX3.out.trans (hb.mono HX3.out.size))
    clear hb
    go_wp2
    go_ret
    exact⟨by rfl,HB1.out.trans (HX4.out.mono HB1.out.size)⟩
   | false=>
    cases hz:drvZ p l t st stops with
    | none=>
     have HZ:=Z hz
     have HD1:=Z (show ∀wx,Below W1.heap.size W1 wx→Calls Tryz.prog 31 #[.agg #[.slice A p.nodes.length c,.slice A2 p.rails.length c2],.slice Aw n cw,.agg #[O U t.mass,O U t.len,O U t.speed,O U t.effort,O U t.brake,O U t.power,O U t.resist,O U t.rise,O U t.back,.slice At nt ct],O U st,.slice As ns cs] wx fun e w'=>e= .returned (.tuple #[.slice none 0 0,O U 4])∧Below wx.heap.size wx w' from fun wx h=>(HD0.out ns stops HNN.out.2.2 HNC.out HN4.out (fun wx h=>(HK.out wx h).2.2.2.2.2) wx h).mono (by
      rintro e w' ⟨⟨hno,rfl⟩|⟨_,_,rfl⟩|⟨_,L,v,hz2,rfl,_⟩,hbw⟩
      ·exact absurd HDK.out hno
      ·exact⟨rfl,hbw⟩
      ·rw [HZ.out] at hz2;cases hz2))
     clear hz
     go_wp2_with fail
     (with_reducible refine (HD1.out _ HX3.out).mono ?_)
     rintro e w5 ⟨rfl,hb⟩
     have HX4:=Z (HX3.out.trans (hb.mono HX3.out.size))
     clear hb
     clear e f
     obtain⟨r1,r2,_⟩:=HK.out _ HX4.out
     have e:=r1.cell;have f:=r2.cell
     clear r1 r2
     go_wp2_with fail
     (with_reducible refine (HKN.out _ HX4.out).mono ?_)
     rintro e w6 ⟨rfl,hb⟩
     have HX5:=Z (HX4.out.trans (hb.mono HX4.out.size))
     clear hb
     go_wp2
     go_ret
     exact⟨by rfl,HB1.out.trans (HX5.out.mono HB1.out.size)⟩
    | some L=>
     have HZ:=Z hz
     have HD1:=Z (show ∀wx,Below W1.heap.size W1 wx→Calls Tryz.prog 31 #[.agg #[.slice A p.nodes.length c,.slice A2 p.rails.length c2],.slice Aw n cw,.agg #[O U t.mass,O U t.len,O U t.speed,O U t.effort,O U t.brake,O U t.power,O U t.resist,O U t.rise,O U t.back,.slice At nt ct],O U st,.slice As ns cs] wx fun e w'=>∃Al cl,e= .returned (.tuple #[.slice Al L.length cl,O U 0])∧Sl w' w'.heap.size 10 (fun x cs=>cs=fLl x) Al L∧Below wx.heap.size wx w' from fun wx h=>(HD0.out ns stops HNN.out.2.2 HNC.out HN4.out (fun wx h=>(HK.out wx h).2.2.2.2.2) wx h).mono (by
      rintro e w' ⟨⟨hno,rfl⟩|⟨_,hz2,rfl⟩|⟨_,L2,v,hz2,rfl,ho⟩,hbw⟩
      ·exact absurd HDK.out hno
      ·rw [HZ.out] at hz2;cases hz2
      ·rw [HZ.out] at hz2
       obtain rfl:=Option.some.inj hz2
       obtain⟨Al,cl,rfl,_,hsl⟩:=Sl.of_own fLl_len ho
       exact⟨Al,cl,rfl,hsl,hbw⟩))
     have HFIT:=Z (drvZ_fit HDK.out hz)
     clear hz
     go_wp2_with fail
     (with_reducible refine (HD1.out _ HX3.out).mono ?_)
     rintro e w5 ⟨Al,cl,rfl,hsl,hb⟩
     have HX4:=Z (HX3.out.trans (hb.mono HX3.out.size))
     have HLA:=Z hsl
     clear hsl
     obtain⟨wA,hwA⟩:∃z,w5=z:=⟨_,rfl⟩
     rw [hwA] at HLA
     have HYA:=Z (show Below wA.heap.size wA w5 from by rw [hwA];exact Below.refl _ _)
     clear hwA
     clear hb
     clear e f
     obtain⟨r1,r2,_⟩:=HK.out _ HX4.out
     have e:=r1.cell;have f:=r2.cell
     clear r1 r2
     have HN2:=Z HDK.out.stop.1
     have hw1:IntKind.i64.wrap ((ns:Int) - 1)=(ns:Int) - 1:=by have:=HN4.out;rw [IntKind.wrap_i64];omega
     have hll:(L.length:Int)=(ns:Int) - 1:=by have:=HFIT.out.1;have:=HN2.out;have:=HNN.out.2.2;omega
     go_upto_region 8 with (fail)
     clear hw1 hll
     go_wp2
     clear e f
     go_loopw [15,16] (fun s15 s16 wp=>∃k:Nat,k≤n∧s15=O U (mostZ p l k)∧s16=O U (k:Int)∧Below w5.heap.size w5 wp) (fun _ s16 _=>n - (intOf s16).toNat)
     case atStart=>exact⟨0,Nat.zero_le _,rfl,rfl,Below.refl _ _⟩
     case round=>
      obtain⟨k,hk,rfl,rfl,hbr⟩:=hrel
      have HBQ:=Z hbr
      have hn8:=HN8.out
      by_cases hkn:k<n
      ·have hki:(k:Int)<(n:Int):=by omega
       have hk0:(0:Int)≤(k:Int):=by omega
       have hkl:k<l.length:=by have:=HNN.out.1;omega
       obtain⟨r1,r2,hPr,hAr,hGr,hSr⟩:=HK.out _ (HX4.out.trans (hbr.mono HX4.out.size))
       obtain⟨bw,ow,ew,gw,d0, -⟩:=end_at hAr (i:=k) hkl
       subst ew
       obtain⟨el,hel⟩:∃el,l[k]=el:=⟨_,rfl⟩
       rw [hel] at d0
       have hrr:=wayOk_rails HDK.out.way el (by rw [←hel];exact List.getElem_mem _)
       obtain⟨rl,hrl⟩:=Int.eq_ofNat_of_zero_le hrr.1
       have hrn:rl<p.rails.length:=by have:=hrr.2;omega
       have hrz:(rl:Int)<(p.rails.length:Int):=by omega
       have hr0:(0:Int)≤(rl:Int):=by omega
       rw [hrl] at d0
       obtain⟨br,or_,A9,c9,eb,hb,hE,hc1,hc2,r0,rr1,rr2,r3,r4⟩:=hPr.rail hrn
       subst eb
       obtain⟨lm,hlm⟩:∃z,p.rails[rl].limit=z:=⟨_,rfl⟩
       rw [hlm] at r3
       have hla:limAt p l k=lm:=by
        unfold limAt
        rw [List.getElem?_eq_getElem hkl,hel]
        show ((p.rails[el.rail.toNat]?).map (·.limit)).getD 0=lm
        rw [hrl,show ((rl:Int)).toNat=rl by simp,List.getElem?_eq_getElem hrn,←hlm];rfl
       have HLM:=Z hla
       obtain⟨M,hM⟩:∃M,mostZ p l k=M:=⟨_,rfl⟩
       have HM:=Z hM
       rw [hM]
       have e:=r1.cell;have f:=r2.cell
       have HKK:=Z hkn
       clear hbr hkn hk hkl r1 r2 hPr hAr hGr hSr hel hrr hrl hE hc1 hc2 r0 rr1 rr2 r4 hlm hla hM gw hb
       go_upto_region 12 with (fail)
       go_quiet (fail)
       go_wp2
       go_roundw
       case rel=>
        refine⟨k+1,by have:=HKK.out;omega, ?_,by simp,bDrewN HBQ.out _⟩
        rw [mostZ,HM.out,HLM.out]
       case measure=>have:=HKK.out;simp [intOf];omega
      ·have hki:¬(k:Int)<(n:Int):=by omega
       obtain⟨wp,hwp⟩:∃z,z=wr:=⟨_,rfl⟩
       subst hwp
       obtain⟨M,hM⟩:∃M,mostZ p l k=M:=⟨_,rfl⟩
       have HM:=Z (show mostZ p l l.length=M from by rw [←hM];congr 1;have:=HNN.out.1;omega)
       rw [hM]
       have HXL:=Z (HX4.out.trans (hbr.mono HX4.out.size))
       have HYL:=Z (HYA.out.trans (hbr.mono HYA.out.size))
       obtain⟨r1,r2,hPr,hAr,hGr,hSr⟩:=HK.out _ HXL.out
       obtain⟨bs,os,es,gs,c0⟩:=int_at hSr (i:=0) (by have:=HNN.out.2.2;have:=HN2.out;omega)
       subst es
       obtain⟨S0,hS0⟩:∃z,stops[0]'(by have:=HNN.out.2.2;have:=HN2.out;omega)=z:=⟨_,rfl⟩
       rw [hS0] at c0
       simp only [Nat.add_zero] at c0
       have HS00:=Z (show stops.getD 0 0=S0 from by rw [List.getD_eq_getElem?_getD,List.getElem?_eq_getElem (by have:=HNN.out.2.2;have:=HN2.out;omega),hS0];rfl)
       have hn20:0<ns:=by have:=HNN.out.2.2;have:=HN2.out;omega
       have hn2i:(0:Int)<(ns:Int):=by omega
       clear hM hbr hkn hk r1 r2 hPr hAr hGr hSr hS0 gs
       have HLL:=Z (show L.length+1≤ns∧ns≤L.length+1∧2≤ns∧ns≤4 from by have:=HFIT.out.1;have:=HN2.out;have:=HNN.out.2.2;have:=HN4.out;omega)
       go_wp2
       clear c0 hki
       go_loopw [17,18] (fun s17 s18 wr=>∃k:Nat,k≤L.length∧s17=O U (prevAt L S0 k)∧s18=O U (k:Int)∧Below wp.heap.size wp wr) (fun _ s18 _=>L.length - (intOf s18).toNat)
       case atStart=>exact⟨0,Nat.zero_le _,rfl,rfl,Below.refl _ _⟩
       case round=>
        obtain⟨k,hk,rfl,rfl,hbr⟩:=hrel
        have HBQ:=Z hbr
        have hl4:=HLL.out
        by_cases hkn:k<L.length
        ·have hki:(k:Int)<(L.length:Int):=by omega
         have hk0:(0:Int)≤(k:Int):=by omega
         obtain⟨r1,r2,hPr,hAr,hGr,hSr⟩:=HK.out _ (HXL.out.trans (hbr.mono HXL.out.size))
         obtain⟨b1,o1,e1,g1,hc1⟩:=leg_cells (HLA.out.below (HYL.out.trans (hbr.mono HYL.out.size))) hkn
         subst e1
         have g1':=Nat.lt_of_lt_of_le g1 (HYL.out.trans (hbr.mono HYL.out.size)).size
         obtain⟨b2,o2,e2,g2,d0⟩:=int_at hSr (i:=k+1) (by have:=HNN.out.2.2;omega)
         cases e2
         obtain⟨sn,hsn⟩:∃z,stops[k+1]'(by have:=HNN.out.2.2;omega)=z:=⟨_,rfl⟩
         rw [hsn] at d0
         obtain⟨x,hx⟩:∃x,L[k]=x:=⟨_,rfl⟩
         rw [hx] at hc1
         obtain⟨pr,hpr⟩:∃z,prevAt L S0 k=z:=⟨_,rfl⟩
         rw [hpr]
         have HFX:=Z (show LegFit sn pr (min M t.speed) x from by
          have:=HFIT.out.2 k hkn
          rwa [HS00.out,HM.out,hx,hpr,show stops.getD (k+1) 0=sn from by rw [List.getD_eq_getElem?_getD,List.getElem?_eq_getElem (by have:=HNN.out.2.2;omega),hsn];rfl] at this)
         have HPB:=Z (show -1000≤pr∧sn≤3000000000000∧0≤min M t.speed∧min M t.speed≤25000∧0≤sn from by
          have h1:=prev_low HDK.out HFIT.out.2 (Nat.le_of_lt hkn) HFIT.out.1
          have h2:=HDK.out.stop.2.2 sn (by rw [←hsn];exact List.getElem_mem _)
          have h3:=mostZ_pos p l l.length
          have ht:=TrOk.of HDK.out.tr
          have h4:=ht.v1;have h5:=ht.v2;have h6:=ht.l1
          rw [HS00.out,hpr] at h1
          rw [HM.out] at h3
          omega)
         have HNX:=Z (show prevAt L S0 (k+1)=x.at_ from by
          unfold prevAt
          rw [if_neg (by omega),show k+1 - 1=k by omega,List.getElem?_eq_getElem hkn,hx];rfl)
         have HKX:=Z hkn
         have HSK:=Z (show ∀wx,Below wr.heap.size wr wx→LgC wx b1 (o1+k * 10) x∧wx.cell? ⟨bs,os+(k+1),none⟩=some (O U sn)∧Rw wx B 60 #[.slice A p.nodes.length c,.slice A2 p.rails.length c2]∧Rw wx (B+1) 24 #[O U t.mass,O U t.len,O U t.speed,O U t.effort,O U t.brake,O U t.power,O U t.resist,O U t.rise,O U t.back,.slice At nt ct] from fun wx h=>⟨(LgC.of hc1).below h g1',(h.cell (p:=⟨bs,os+(k+1),none⟩) (by first|exact g2|omega)).trans d0,r1.below h r1.lt,r2.below h r2.lt⟩)
         clear hbr hkn hk hc1 r1 r2 hPr hAr hGr hSr hsn hx hpr d0
         go_upto_region 17 with (fail)
         clear hki
         have hbq:Below wr.heap.size wr wr.drew:=(Below.refl _ _).drew
         have HS:=Z (HSK.out _ hbq).1
         refine wp_region_held_drew (S:=fun wx=>LgC wx b1 (o1+k * 10) x) (by kernel_rfl) HS.out (fun _=> ?_)
         obtain⟨wd,hwd⟩:∃z,wr.drew=z:=⟨_,rfl⟩
         rw [hwd] at hbq HS ⊢
         clear hwd
         refine hTk (i:=0) (d:=99) (v:= .slice (some ⟨b1,o1,none⟩) L.length cl) rfl rfl (Or.inl ⟨rfl,by rintro W' h;obtain⟨y0,y1,y2,y3,y4,y5,y6,y7,y8,y9⟩:=h;have kx:=HKX.out;go_simp⟩) HS.out ?_
         simp only [Act.put,sB,sZ,sS]
         refine hTk (i:=1) (d:=100) (v:=O U (k:Int)) rfl rfl (Or.inl ⟨rfl,by rintro W' h;obtain⟨y0,y1,y2,y3,y4,y5,y6,y7,y8,y9⟩:=h;have kx:=HKX.out;go_simp⟩) HS.out ?_
         simp only [Act.put,sB,sZ,sS]
         refine hTk (i:=2) (d:=101) (v:= .pointer (some ⟨b1,o1+k * 10,none⟩)) rfl rfl (Or.inl ⟨rfl,by rintro W' h;obtain⟨y0,y1,y2,y3,y4,y5,y6,y7,y8,y9⟩:=h;have kx:=HKX.out;go_simp⟩) HS.out ?_
         simp only [Act.put,sB,sZ,sS]
         refine hTk (i:=3) (d:=102) (v:= .agg #[O U x.millis,O U x.at_,O U x.lg.pull,O U x.lg.brake,O U x.lg.drag,O U x.lg.hill,O U x.lg.round,O U x.lg.hold,O U x.took,O U x.gave]) rfl rfl (Or.inl ⟨rfl,by rintro W' h;obtain⟨y0,y1,y2,y3,y4,y5,y6,y7,y8,y9⟩:=h;have kx:=HKX.out;go_simp⟩) HS.out ?_
         simp only [Act.put,sB,sZ,sS]
         refine hTk (i:=4) (d:=103) (v:= .slice (some ⟨b1,o1,none⟩) L.length cl) rfl rfl (Or.inl ⟨rfl,by rintro W' h;obtain⟨y0,y1,y2,y3,y4,y5,y6,y7,y8,y9⟩:=h;have kx:=HKX.out;go_simp⟩) HS.out ?_
         simp only [Act.put,sB,sZ,sS]
         refine hTk (i:=5) (d:=104) (v:=O U (k:Int)) rfl rfl (Or.inl ⟨rfl,by rintro W' h;obtain⟨y0,y1,y2,y3,y4,y5,y6,y7,y8,y9⟩:=h;have kx:=HKX.out;go_simp⟩) HS.out ?_
         simp only [Act.put,sB,sZ,sS]
         refine hTk (i:=6) (d:=105) (v:= .pointer (some ⟨b1,o1+k * 10,none⟩)) rfl rfl (Or.inl ⟨rfl,by rintro W' h;obtain⟨y0,y1,y2,y3,y4,y5,y6,y7,y8,y9⟩:=h;have kx:=HKX.out;go_simp⟩) HS.out ?_
         simp only [Act.put,sB,sZ,sS]
         refine hTk (i:=7) (d:=106) (v:= .pointer (some ⟨b1,o1+k * 10+2,none⟩)) rfl rfl (Or.inl ⟨rfl,by rintro W' h;obtain⟨y0,y1,y2,y3,y4,y5,y6,y7,y8,y9⟩:=h;have kx:=HKX.out;go_simp⟩) HS.out ?_
         simp only [Act.put,sB,sZ,sS]
         refine hTk (i:=8) (d:=107) (v:= .agg #[O U x.lg.pull,O U x.lg.brake,O U x.lg.drag,O U x.lg.hill,O U x.lg.round,O U x.lg.hold]) rfl rfl (Or.inl ⟨rfl,by rintro W' h;obtain⟨y0,y1,y2,y3,y4,y5,y6,y7,y8,y9⟩:=h;have kx:=HKX.out;go_simp⟩) HS.out ?_
         simp only [Act.put,sB,sZ,sS]
         refine wpAnyH_ready (rs:= [9,10]) (by kernel_rfl) (by simp) ?_
         refine AllReadyH.cons rfl (fun K hK=> ?_) (AllReadyH.cons rfl (fun K hK=> ?_) AllReadyH.nil)
         ·rw [if_pos (by rfl)]
          go_simp
          have qs:=Rw.new wd #[O U 0,O U 0,O U 0,O U 0,O U 0,O U 0,O U 0,O U 0,O U 0,O U 0] 72
          have hsb:=hbq.size
          replace hbq:=hbq.alloc hbq.size (.cells #[O U 0,O U 0,O U 0,O U 0,O U 0,O U 0,O U 0,O U 0,O U 0,O U 0] 72)
          obtain⟨sb,hn⟩:∃z,wd.heap.size=z:=⟨_,rfl⟩
          obtain⟨ws,hw⟩:∃z,wd.alloc (.cells #[O U 0,O U 0,O U 0,O U 0,O U 0,O U 0,O U 0,O U 0,O U 0,O U 0] 72)=z:=⟨_,rfl⟩
          rw [hw] at qs hbq ⊢
          rw [hn] at qs hsb ⊢
          clear hn hw
          have HS:=Z (HSK.out _ hbq).1
          refine hK.out _ _ HS.out (fun _=> ?_)
          clear hK K
          try simp only [Act.put,sB,sZ,sS]
          refine wpAnyH_ready (rs:= [10]) (by kernel_rfl) (by simp) ?_
          refine AllReadyH.cons rfl (fun K hK=> ?_) AllReadyH.nil
          rw [if_pos (by rfl)]
          go_simp
          have ql:=Rw.new ws #[O U 0,O U 0,O U 0,O U 0,O U 0,O U 0] 37
          have hne:=qs.lt
          replace qs:=qs.alloc (.cells #[O U 0,O U 0,O U 0,O U 0,O U 0,O U 0] 37)
          have hlb:=hbq.size
          replace hbq:=hbq.alloc hbq.size (.cells #[O U 0,O U 0,O U 0,O U 0,O U 0,O U 0] 37)
          obtain⟨lb,hn⟩:∃z,ws.heap.size=z:=⟨_,rfl⟩
          obtain⟨wl,hw⟩:∃z,ws.alloc (.cells #[O U 0,O U 0,O U 0,O U 0,O U 0,O U 0] 37)=z:=⟨_,rfl⟩
          rw [hw] at ql hbq qs ⊢
          rw [hn] at ql hlb hne ⊢
          clear hn hw
          have HS:=Z (HSK.out _ hbq).1
          refine hK.out _ _ HS.out (fun _=> ?_)
          clear hK K
          try simp only [Act.put,sB,sZ,sS]
          refine wpAnyH_ready (rs:= [11]) (by kernel_rfl) (by simp) ?_
          refine AllReadyH.cons rfl (fun K hK=> ?_) AllReadyH.nil
          rw [if_pos (by rfl)]
          have h0:=qs.cell;have z0:=qs.frozen
          go_simp
          clear h0 z0
          have qn:=Rw.set10 qs (O U x.millis) (O U x.at_) (O U x.lg.pull) (O U x.lg.brake) (O U x.lg.drag) (O U x.lg.hill) (O U x.lg.round) (O U x.lg.hold) (O U x.took) (O U x.gave)
          have qo:=Rw.far10 ql (k:=sb) (by omega) (O U x.millis) (O U x.at_) (O U x.lg.pull) (O U x.lg.brake) (O U x.lg.drag) (O U x.lg.hill) (O U x.lg.round) (O U x.lg.hold) (O U x.took) (O U x.gave)
          have hbn:=below_set10 hbq (g:=sb) (by omega) (O U x.millis) (O U x.at_) (O U x.lg.pull) (O U x.lg.brake) (O U x.lg.drag) (O U x.lg.hill) (O U x.lg.round) (O U x.lg.hold) (O U x.took) (O U x.gave)
          obtain⟨Ws,hw⟩:∃z,((((((((((wl.setCell ⟨sb,0,none⟩ (O U x.millis)).setCell ⟨sb,1,none⟩ (O U x.at_)).setCell ⟨sb,2,none⟩ (O U x.lg.pull)).setCell ⟨sb,3,none⟩ (O U x.lg.brake)).setCell ⟨sb,4,none⟩ (O U x.lg.drag)).setCell ⟨sb,5,none⟩ (O U x.lg.hill)).setCell ⟨sb,6,none⟩ (O U x.lg.round)).setCell ⟨sb,7,none⟩ (O U x.lg.hold)).setCell ⟨sb,8,none⟩ (O U x.took)).setCell ⟨sb,9,none⟩ (O U x.gave))=z:=⟨_,rfl⟩
          rw [hw] at qn qo hbn ⊢
          clear qs ql hbq hw
          have qs:=qn;have ql:=qo;have hbq:=hbn
          clear qn qo hbn
          have HS:=Z (HSK.out _ hbq).1
          refine hK.out _ _ HS.out (fun _=> ?_)
          clear hK K
          try simp only [Act.put,sB,sZ,sS]
          refine wpAnyH_ready (rs:= [12]) (by kernel_rfl) (by simp) ?_
          refine AllReadyH.cons rfl (fun K hK=> ?_) AllReadyH.nil
          rw [if_pos (by rfl)]
          have h0:=ql.cell;have z0:=ql.frozen
          go_simp
          clear h0 z0
          have qn:=Rw.set6 ql (O U x.lg.pull) (O U x.lg.brake) (O U x.lg.drag) (O U x.lg.hill) (O U x.lg.round) (O U x.lg.hold)
          have qo:=Rw.far6 qs (k:=lb) (by omega) (O U x.lg.pull) (O U x.lg.brake) (O U x.lg.drag) (O U x.lg.hill) (O U x.lg.round) (O U x.lg.hold)
          have hbn:=below_set6 hbq (g:=lb) (by omega) (O U x.lg.pull) (O U x.lg.brake) (O U x.lg.drag) (O U x.lg.hill) (O U x.lg.round) (O U x.lg.hold)
          obtain⟨Wl,hw⟩:∃z,((((((Ws.setCell ⟨lb,0,none⟩ (O U x.lg.pull)).setCell ⟨lb,1,none⟩ (O U x.lg.brake)).setCell ⟨lb,2,none⟩ (O U x.lg.drag)).setCell ⟨lb,3,none⟩ (O U x.lg.hill)).setCell ⟨lb,4,none⟩ (O U x.lg.round)).setCell ⟨lb,5,none⟩ (O U x.lg.hold))=z:=⟨_,rfl⟩
          rw [hw] at qn qo hbn ⊢
          clear ql qs hbq hw
          have ql:=qn;have qs:=qo;have hbq:=hbn
          clear qn qo hbn
          have HS:=Z (HSK.out _ hbq).1
          refine hK.out _ _ HS.out (fun _=> ?_)
          clear hK K
          try simp only [Act.put,sB,sZ,sS]
          refine wpAnyH_done (by kernel_rfl) ?_ _
          obtain⟨_,c1,r1,r2⟩:=HSK.out _ hbq
          have e:=qs.cell;have f:=ql.cell;have g:=r2.cell
          have HBL:=Z hbq
          clear hbq qs ql r1 r2 HS
          have hw1:IntKind.i64.wrap ((k:Int)+1)=(k:Int)+1:=by have:=HKX.out;rw [IntKind.wrap_i64];omega
          have hi1:(k:Int)+1<(ns:Int):=by have:=HKX.out;omega
          have hi2:(0:Int)≤(k:Int)+1:=by omega
          have hi3:((k:Int)+1).toNat=k+1:=by omega
          have f1:¬sn<x.at_:=by have:=HFX.out.le;omega
          have f2:¬x.at_<sn - 1000:=by have:=HFX.out.near;omega
          have f3:¬x.millis<0:=by have:=HFX.out.m0;omega
          have f4:x.millis.tmod 100=0:=by rw [Int.tmod_eq_emod_of_nonneg HFX.out.m0];exact HFX.out.hund
          have f5:¬x.at_<pr:=by have:=HFX.out.back;omega
          have hw2:IntKind.i64.wrap (sn - 1000)=sn - 1000:=by have:=HPB.out;rw [IntKind.wrap_i64];omega
          go_upto_region 18 with (fail)
          go_quiet (fail)
          clear hw1 hi1 hi2 hi3 hw2 f1 f2 f3 f4 f5
          obtain⟨v,hv⟩:∃v,min M t.speed=v:=⟨_,rfl⟩
          have hvb:0≤v∧v≤25000:=by have:=HPB.out;omega
          have hv2:(if M≤t.speed then M else t.speed)=v:=by rw [←Int.min_def];exact hv
          have hbal:=HFX.out.bal.symm
          have hw3:IntKind.i64.wrap (v+1)=v+1:=by rw [IntKind.wrap_i64];omega
          have hw4:IntKind.i64.wrap (x.millis * (v+1))=x.millis * (v+1):=by
           have m1:x.millis * (v+1)≤3600000 * 25001:=Int.mul_le_mul HFX.out.m1 (by omega) (by omega) (by omega)
           have m0:0≤x.millis * (v+1):=Int.mul_nonneg HFX.out.m0 (by omega)
           rw [IntKind.wrap_i64];omega
          have hw5:IntKind.i64.wrap (x.at_ - pr)=x.at_ - pr:=by have:=HPB.out;have:=HFX.out.back;have:=HFX.out.le;rw [IntKind.wrap_i64];omega
          have hw6:IntKind.i64.wrap (x.at_ - pr - 1)=x.at_ - pr - 1:=by have:=HPB.out;have:=HFX.out.back;have:=HFX.out.le;rw [IntKind.wrap_i64];omega
          have hw7:IntKind.i64.wrap (1000 * (x.at_ - pr - 1))=1000 * (x.at_ - pr - 1):=by have:=HPB.out;have:=HFX.out.back;have:=HFX.out.le;rw [IntKind.wrap_i64];omega
          have f6:¬x.millis * (v+1)<1000 * (x.at_ - pr - 1):=by have:=HFX.out.tm;rw [hv] at this;omega
          clear hvb
          go_upto_region 22 with (fail)
          clear hv hv2 hbal hw3 hw4 hw5 hw6 hw7 f6
          have hl4:=HLL.out
          have hkx:=HKX.out
          go_wp2
          go_roundw
          case rel=>exact⟨k+1,by have:=HKX.out;omega,by rw [HNX.out],by simp,bDrewN (HBQ.out.trans (HBL.out.mono HBQ.out.size)) _⟩
          case measure=>have:=HKX.out;simp [intOf];omega
         ·rw [if_pos (by rfl)]
          go_simp
          have ql:=Rw.new wd #[O U 0,O U 0,O U 0,O U 0,O U 0,O U 0] 37
          have hlb:=hbq.size
          replace hbq:=hbq.alloc hbq.size (.cells #[O U 0,O U 0,O U 0,O U 0,O U 0,O U 0] 37)
          obtain⟨lb,hn⟩:∃z,wd.heap.size=z:=⟨_,rfl⟩
          obtain⟨wl,hw⟩:∃z,wd.alloc (.cells #[O U 0,O U 0,O U 0,O U 0,O U 0,O U 0] 37)=z:=⟨_,rfl⟩
          rw [hw] at ql hbq ⊢
          rw [hn] at ql hlb ⊢
          clear hn hw
          have HS:=Z (HSK.out _ hbq).1
          refine hK.out _ _ HS.out (fun _=> ?_)
          clear hK K
          try simp only [Act.put,sB,sZ,sS]
          refine wpAnyH_ready (rs:= [9]) (by kernel_rfl) (by simp) ?_
          refine AllReadyH.cons rfl (fun K hK=> ?_) AllReadyH.nil
          rw [if_pos (by rfl)]
          go_simp
          have qs:=Rw.new wl #[O U 0,O U 0,O U 0,O U 0,O U 0,O U 0,O U 0,O U 0,O U 0,O U 0] 72
          have hne:=ql.lt
          replace ql:=ql.alloc (.cells #[O U 0,O U 0,O U 0,O U 0,O U 0,O U 0,O U 0,O U 0,O U 0,O U 0] 72)
          have hsb:=hbq.size
          replace hbq:=hbq.alloc hbq.size (.cells #[O U 0,O U 0,O U 0,O U 0,O U 0,O U 0,O U 0,O U 0,O U 0,O U 0] 72)
          obtain⟨sb,hn⟩:∃z,wl.heap.size=z:=⟨_,rfl⟩
          obtain⟨ws,hw⟩:∃z,wl.alloc (.cells #[O U 0,O U 0,O U 0,O U 0,O U 0,O U 0,O U 0,O U 0,O U 0,O U 0] 72)=z:=⟨_,rfl⟩
          rw [hw] at qs hbq ql ⊢
          rw [hn] at qs hsb hne ⊢
          clear hn hw
          have HS:=Z (HSK.out _ hbq).1
          refine hK.out _ _ HS.out (fun _=> ?_)
          clear hK K
          try simp only [Act.put,sB,sZ,sS]
          refine wpAnyH_ready (rs:= [11]) (by kernel_rfl) (by simp) ?_
          refine AllReadyH.cons rfl (fun K hK=> ?_) AllReadyH.nil
          rw [if_pos (by rfl)]
          have h0:=qs.cell;have z0:=qs.frozen
          go_simp
          clear h0 z0
          have qn:=Rw.set10 qs (O U x.millis) (O U x.at_) (O U x.lg.pull) (O U x.lg.brake) (O U x.lg.drag) (O U x.lg.hill) (O U x.lg.round) (O U x.lg.hold) (O U x.took) (O U x.gave)
          have qo:=Rw.far10 ql (k:=sb) (by omega) (O U x.millis) (O U x.at_) (O U x.lg.pull) (O U x.lg.brake) (O U x.lg.drag) (O U x.lg.hill) (O U x.lg.round) (O U x.lg.hold) (O U x.took) (O U x.gave)
          have hbn:=below_set10 hbq (g:=sb) (by omega) (O U x.millis) (O U x.at_) (O U x.lg.pull) (O U x.lg.brake) (O U x.lg.drag) (O U x.lg.hill) (O U x.lg.round) (O U x.lg.hold) (O U x.took) (O U x.gave)
          obtain⟨Ws,hw⟩:∃z,((((((((((ws.setCell ⟨sb,0,none⟩ (O U x.millis)).setCell ⟨sb,1,none⟩ (O U x.at_)).setCell ⟨sb,2,none⟩ (O U x.lg.pull)).setCell ⟨sb,3,none⟩ (O U x.lg.brake)).setCell ⟨sb,4,none⟩ (O U x.lg.drag)).setCell ⟨sb,5,none⟩ (O U x.lg.hill)).setCell ⟨sb,6,none⟩ (O U x.lg.round)).setCell ⟨sb,7,none⟩ (O U x.lg.hold)).setCell ⟨sb,8,none⟩ (O U x.took)).setCell ⟨sb,9,none⟩ (O U x.gave))=z:=⟨_,rfl⟩
          rw [hw] at qn qo hbn ⊢
          clear qs ql hbq hw
          have qs:=qn;have ql:=qo;have hbq:=hbn
          clear qn qo hbn
          have HS:=Z (HSK.out _ hbq).1
          refine hK.out _ _ HS.out (fun _=> ?_)
          clear hK K
          try simp only [Act.put,sB,sZ,sS]
          refine wpAnyH_ready (rs:= [12]) (by kernel_rfl) (by simp) ?_
          refine AllReadyH.cons rfl (fun K hK=> ?_) AllReadyH.nil
          rw [if_pos (by rfl)]
          have h0:=ql.cell;have z0:=ql.frozen
          go_simp
          clear h0 z0
          have qn:=Rw.set6 ql (O U x.lg.pull) (O U x.lg.brake) (O U x.lg.drag) (O U x.lg.hill) (O U x.lg.round) (O U x.lg.hold)
          have qo:=Rw.far6 qs (k:=lb) (by omega) (O U x.lg.pull) (O U x.lg.brake) (O U x.lg.drag) (O U x.lg.hill) (O U x.lg.round) (O U x.lg.hold)
          have hbn:=below_set6 hbq (g:=lb) (by omega) (O U x.lg.pull) (O U x.lg.brake) (O U x.lg.drag) (O U x.lg.hill) (O U x.lg.round) (O U x.lg.hold)
          obtain⟨Wl,hw⟩:∃z,((((((Ws.setCell ⟨lb,0,none⟩ (O U x.lg.pull)).setCell ⟨lb,1,none⟩ (O U x.lg.brake)).setCell ⟨lb,2,none⟩ (O U x.lg.drag)).setCell ⟨lb,3,none⟩ (O U x.lg.hill)).setCell ⟨lb,4,none⟩ (O U x.lg.round)).setCell ⟨lb,5,none⟩ (O U x.lg.hold))=z:=⟨_,rfl⟩
          rw [hw] at qn qo hbn ⊢
          clear ql qs hbq hw
          have ql:=qn;have qs:=qo;have hbq:=hbn
          clear qn qo hbn
          have HS:=Z (HSK.out _ hbq).1
          refine hK.out _ _ HS.out (fun _=> ?_)
          clear hK K
          try simp only [Act.put,sB,sZ,sS]
          refine wpAnyH_done (by kernel_rfl) ?_ _
          obtain⟨_,c1,r1,r2⟩:=HSK.out _ hbq
          have e:=qs.cell;have f:=ql.cell;have g:=r2.cell
          have HBL:=Z hbq
          clear hbq qs ql r1 r2 HS
          have hw1:IntKind.i64.wrap ((k:Int)+1)=(k:Int)+1:=by have:=HKX.out;rw [IntKind.wrap_i64];omega
          have hi1:(k:Int)+1<(ns:Int):=by have:=HKX.out;omega
          have hi2:(0:Int)≤(k:Int)+1:=by omega
          have hi3:((k:Int)+1).toNat=k+1:=by omega
          have f1:¬sn<x.at_:=by have:=HFX.out.le;omega
          have f2:¬x.at_<sn - 1000:=by have:=HFX.out.near;omega
          have f3:¬x.millis<0:=by have:=HFX.out.m0;omega
          have f4:x.millis.tmod 100=0:=by rw [Int.tmod_eq_emod_of_nonneg HFX.out.m0];exact HFX.out.hund
          have f5:¬x.at_<pr:=by have:=HFX.out.back;omega
          have hw2:IntKind.i64.wrap (sn - 1000)=sn - 1000:=by have:=HPB.out;rw [IntKind.wrap_i64];omega
          go_upto_region 18 with (fail)
          go_quiet (fail)
          clear hw1 hi1 hi2 hi3 hw2 f1 f2 f3 f4 f5
          obtain⟨v,hv⟩:∃v,min M t.speed=v:=⟨_,rfl⟩
          have hvb:0≤v∧v≤25000:=by have:=HPB.out;omega
          have hv2:(if M≤t.speed then M else t.speed)=v:=by rw [←Int.min_def];exact hv
          have hbal:=HFX.out.bal.symm
          have hw3:IntKind.i64.wrap (v+1)=v+1:=by rw [IntKind.wrap_i64];omega
          have hw4:IntKind.i64.wrap (x.millis * (v+1))=x.millis * (v+1):=by
           have m1:x.millis * (v+1)≤3600000 * 25001:=Int.mul_le_mul HFX.out.m1 (by omega) (by omega) (by omega)
           have m0:0≤x.millis * (v+1):=Int.mul_nonneg HFX.out.m0 (by omega)
           rw [IntKind.wrap_i64];omega
          have hw5:IntKind.i64.wrap (x.at_ - pr)=x.at_ - pr:=by have:=HPB.out;have:=HFX.out.back;have:=HFX.out.le;rw [IntKind.wrap_i64];omega
          have hw6:IntKind.i64.wrap (x.at_ - pr - 1)=x.at_ - pr - 1:=by have:=HPB.out;have:=HFX.out.back;have:=HFX.out.le;rw [IntKind.wrap_i64];omega
          have hw7:IntKind.i64.wrap (1000 * (x.at_ - pr - 1))=1000 * (x.at_ - pr - 1):=by have:=HPB.out;have:=HFX.out.back;have:=HFX.out.le;rw [IntKind.wrap_i64];omega
          have f6:¬x.millis * (v+1)<1000 * (x.at_ - pr - 1):=by have:=HFX.out.tm;rw [hv] at this;omega
          clear hvb
          go_upto_region 22 with (fail)
          clear hv hv2 hbal hw3 hw4 hw5 hw6 hw7 f6
          have hl4:=HLL.out
          have hkx:=HKX.out
          go_wp2
          go_roundw
          case rel=>exact⟨k+1,by have:=HKX.out;omega,by rw [HNX.out],by simp,bDrewN (HBQ.out.trans (HBL.out.mono HBQ.out.size)) _⟩
          case measure=>have:=HKX.out;simp [intOf];omega
        ·have hki:¬(k:Int)<(L.length:Int):=by omega
         obtain⟨pr,hpr⟩:∃z,prevAt L S0 k=z:=⟨_,rfl⟩
         rw [hpr]
         have HPL:=Z (show pr≤wlen p (l.map endNo) from by
          have:=(prev_low HDK.out HFIT.out.2 hk HFIT.out.1).2
          rwa [HS00.out,hpr] at this)
         have HXM:=Z (HXL.out.trans (hbr.mono HXL.out.size))
         have HYM:=Z (HYL.out.trans (hbr.mono HYL.out.size))
         clear hbr hkn hk hpr
         by_cases hkp:kp<2
         ·skip
          go_wp2_with fail
          (with_reducible refine (HKN.out _ HXM.out).mono ?_)
          rintro e w9 ⟨rfl,hb⟩
          have HXN:=Z (HXM.out.trans (hb.mono HXM.out.size))
          clear hb
          go_wp2
          go_ret
          exact⟨by rfl,HB1.out.trans (HXN.out.mono HB1.out.size)⟩
         by_cases hkp2:(ns:Int)<kp
         ·skip
          go_wp2_with fail
          (with_reducible refine (HKN.out _ HXM.out).mono ?_)
          rintro e w9 ⟨rfl,hb⟩
          have HXN:=Z (HXM.out.trans (hb.mono HXM.out.size))
          clear hb
          go_wp2
          go_ret
          exact⟨by rfl,HB1.out.trans (HXN.out.mono HB1.out.size)⟩
         obtain⟨kk,hkk⟩:=Int.eq_ofNat_of_zero_le (show 0≤kp by omega)
         subst hkk
         obtain⟨m2,hm2⟩:∃m,kk=m+1:=⟨kk - 1,by omega⟩
         have HKB:=Z (show 2≤kk∧kk≤ns∧kk=m2+1∧kk≤cs∧kk≤4∧m2≤L.length from by have:=HNC.out;have:=HN4.out;omega)
         have HD2:=Z (show ∀wx,Below W1.heap.size W1 wx→Calls Tryz.prog 31 #[.agg #[.slice A p.nodes.length c,.slice A2 p.rails.length c2],.slice Aw n cw,.agg #[O U t.mass,O U t.len,O U t.speed,O U t.effort,O U t.brake,O U t.power,O U t.resist,O U t.rise,O U t.back,.slice At nt ct],O U st,.slice (some ⟨bs,os,none⟩) kk cs] wx fun e w'=>∃Al cl,e= .returned (.tuple #[.slice Al m2 cl,O U 0])∧Sl w' w'.heap.size 10 (fun x cs=>cs=fLl x) Al (L.take m2)∧Below wx.heap.size wx w' from fun wx h=>by
          obtain⟨k2,k3,k4,k5,k6,k7⟩:=HKB.out
          have hsn:=HNN.out.2.2
          have hz0:=drvZ_take HDK.out HZ.out k2 (by omega)
          rw [show kk - 1=m2 by omega] at hz0
          refine (HD0.out kk (stops.take kk) (by rw [List.length_take];omega) k5 k6 (fun wy hy=>Sl.prefix (m:=stops.drop kk) (by rw [List.take_append_drop];exact (HK.out wy hy).2.2.2.2.2)) wx h).mono ?_
          rintro e w' ⟨⟨hno,rfl⟩|⟨_,hz2,rfl⟩|⟨_,L2,v,hz2,rfl,ho⟩,hbw⟩
          ·exact absurd (HDK.out.take k2 (by omega)) hno
          ·rw [hz0] at hz2;cases hz2
          ·rw [hz0] at hz2
           obtain rfl:=Option.some.inj hz2
           obtain⟨Al,cl,rfl,_,hsl⟩:=Sl.of_own fLl_len ho
           exact⟨Al,cl,by rw [List.length_take,Nat.min_eq_left k7],hsl,hbw⟩)
         have HSK:=Z (show ∀wx,Below wr.heap.size wr wx→Rw wx B 60 #[.slice A p.nodes.length c,.slice A2 p.rails.length c2]∧Rw wx (B+1) 24 #[O U t.mass,O U t.len,O U t.speed,O U t.effort,O U t.brake,O U t.power,O U t.resist,O U t.rise,O U t.back,.slice At nt ct] from fun wx h=>by
          obtain⟨r1,r2,_⟩:=HK.out _ (HXM.out.trans (h.mono HXM.out.size))
          exact⟨r1,r2⟩)
         clear hm2
         go_upto_region 25 with (fail)
         clear hki hkp hkp2
         have hbq:Below wr.heap.size wr wr.drew:=(Below.refl _ _).drew
         have HS:=Z (HSK.out _ hbq)
         refine wp_region_held_drew (S:=fun wx=>Rw wx B 60 #[.slice A p.nodes.length c,.slice A2 p.rails.length c2]∧Rw wx (B+1) 24 #[O U t.mass,O U t.len,O U t.speed,O U t.effort,O U t.brake,O U t.power,O U t.resist,O U t.rise,O U t.back,.slice At nt ct]) (by kernel_rfl) HS.out (fun _=> ?_)
         obtain⟨wd,hwd⟩:∃z,wr.drew=z:=⟨_,rfl⟩
         rw [hwd] at hbq HS ⊢
         clear hwd
         refine hTk (i:=0) (d:=190) (v:= .agg #[.slice A p.nodes.length c,.slice A2 p.rails.length c2]) rfl rfl (Or.inl ⟨rfl,by rintro W' ⟨s0,s1⟩;have y:=s0.cell;have x:=s1.cell;have q1:(0:Int)≤(kk:Int):=(by omega);have q2:¬cs<kk:=(by have:=HKB.out;omega);go_simp⟩) HS.out ?_
         simp only [Act.put,sB,sZ,sS]
         refine hTk (i:=1) (d:=191) (v:= .slice Aw n cw) rfl rfl (Or.inl ⟨rfl,by rintro W' ⟨s0,s1⟩;have y:=s0.cell;have x:=s1.cell;have q1:(0:Int)≤(kk:Int):=(by omega);have q2:¬cs<kk:=(by have:=HKB.out;omega);go_simp⟩) HS.out ?_
         simp only [Act.put,sB,sZ,sS]
         refine hTk (i:=2) (d:=192) (v:= .agg #[O U t.mass,O U t.len,O U t.speed,O U t.effort,O U t.brake,O U t.power,O U t.resist,O U t.rise,O U t.back,.slice At nt ct]) rfl rfl (Or.inl ⟨rfl,by rintro W' ⟨s0,s1⟩;have y:=s0.cell;have x:=s1.cell;have q1:(0:Int)≤(kk:Int):=(by omega);have q2:¬cs<kk:=(by have:=HKB.out;omega);go_simp⟩) HS.out ?_
         simp only [Act.put,sB,sZ,sS]
         refine hTk (i:=3) (d:=193) (v:=O U st) rfl rfl (Or.inl ⟨rfl,by rintro W' ⟨s0,s1⟩;have y:=s0.cell;have x:=s1.cell;have q1:(0:Int)≤(kk:Int):=(by omega);have q2:¬cs<kk:=(by have:=HKB.out;omega);go_simp⟩) HS.out ?_
         simp only [Act.put,sB,sZ,sS]
         refine hTk (i:=4) (d:=194) (v:= .slice (some ⟨bs,os,none⟩) ns cs) rfl rfl (Or.inl ⟨rfl,by rintro W' ⟨s0,s1⟩;have y:=s0.cell;have x:=s1.cell;have q1:(0:Int)≤(kk:Int):=(by omega);have q2:¬cs<kk:=(by have:=HKB.out;omega);go_simp⟩) HS.out ?_
         simp only [Act.put,sB,sZ,sS]
         refine hTk (i:=5) (d:=195) (v:=O U (kk:Int)) rfl rfl (Or.inl ⟨rfl,by rintro W' ⟨s0,s1⟩;have y:=s0.cell;have x:=s1.cell;have q1:(0:Int)≤(kk:Int):=(by omega);have q2:¬cs<kk:=(by have:=HKB.out;omega);go_simp⟩) HS.out ?_
         simp only [Act.put,sB,sZ,sS]
         refine hTk (i:=6) (d:=196) (v:= .slice (some ⟨bs,os,none⟩) kk cs) rfl rfl (Or.inl ⟨rfl,by rintro W' ⟨s0,s1⟩;have y:=s0.cell;have x:=s1.cell;have q1:(0:Int)≤(kk:Int):=(by omega);have q2:¬cs<kk:=(by have:=HKB.out;omega);go_simp⟩) HS.out ?_
         simp only [Act.put,sB,sZ,sS]
         refine wpAnyH_ready (rs:= [7]) (by kernel_rfl) (by simp) ?_
         refine AllReadyH.cons rfl (fun K hK=> ?_) AllReadyH.nil
         rw [if_pos (by rfl)]
         go_simp
         go_at_call 31
         (with_reducible refine (HD2.out _ (HXM.out.trans (hbq.mono HXM.out.size))).mono ?_)
         rintro e w31 ⟨Al2,cl2,rfl,hsl2,hbn⟩
         replace hbq:=hbq.trans (hbn.mono hbq.size)
         have HL2:=Z hsl2
         clear hbn hsl2
         have HS:=Z (HSK.out _ hbq)
         refine hK.out _ _ HS.out (fun _=> ?_)
         clear hK K
         try simp only [Act.put,sB,sZ,sS]
         refine hTk (i:=8) (d:=189) (v:= .tuple #[.slice Al2 m2 cl2,O U 0]) rfl rfl (Or.inl ⟨rfl,by rintro W' ⟨s0,s1⟩;have y:=s0.cell;have x:=s1.cell;have q1:(0:Int)≤(kk:Int):=(by omega);have q2:¬cs<kk:=(by have:=HKB.out;omega);go_simp⟩) HS.out ?_
         simp only [Act.put,sB,sZ,sS]
         refine hTk (i:=9) (d:=198) (v:= .slice Al2 m2 cl2) rfl rfl (Or.inl ⟨rfl,by rintro W' ⟨s0,s1⟩;have y:=s0.cell;have x:=s1.cell;have q1:(0:Int)≤(kk:Int):=(by omega);have q2:¬cs<kk:=(by have:=HKB.out;omega);go_simp⟩) HS.out ?_
         simp only [Act.put,sB,sZ,sS]
         refine hTk (i:=10) (d:=199) (v:=O U 0) rfl rfl (Or.inl ⟨rfl,by rintro W' ⟨s0,s1⟩;have y:=s0.cell;have x:=s1.cell;have q1:(0:Int)≤(kk:Int):=(by omega);have q2:¬cs<kk:=(by have:=HKB.out;omega);go_simp⟩) HS.out ?_
         simp only [Act.put,sB,sZ,sS]
         refine hTk (i:=11) (d:=21) (v:= .slice Al2 m2 cl2) rfl rfl (Or.inl ⟨rfl,by rintro W' ⟨s0,s1⟩;have y:=s0.cell;have x:=s1.cell;have q1:(0:Int)≤(kk:Int):=(by omega);have q2:¬cs<kk:=(by have:=HKB.out;omega);go_simp⟩) HS.out ?_
         simp only [Act.put,sB,sZ,sS]
         refine hTk (i:=12) (d:=22) (v:=O U 0) rfl rfl (Or.inl ⟨rfl,by rintro W' ⟨s0,s1⟩;have y:=s0.cell;have x:=s1.cell;have q1:(0:Int)≤(kk:Int):=(by omega);have q2:¬cs<kk:=(by have:=HKB.out;omega);go_simp⟩) HS.out ?_
         simp only [Act.put,sB,sZ,sS]
         refine wpAnyH_done (by kernel_rfl) ?_ _
         have HXP:=Z (HXM.out.trans (hbq.mono HXM.out.size))
         have HYP:=Z (HYM.out.trans (hbq.mono HYM.out.size))
         clear hbq HS
         have hw1:IntKind.i64.wrap ((kk:Int) - 1)=(kk:Int) - 1:=by have:=HKB.out;rw [IntKind.wrap_i64];omega
         have hmm:(m2:Int)=(kk:Int) - 1:=by have:=HKB.out;omega
         go_upto_region 28 with (fail)
         clear hw1 hmm
         have hm4:=HKB.out
         go_wp2
         obtain⟨wq,hwq⟩:∃z,z=w31:=⟨_,rfl⟩
         subst hwq
         obtain⟨wold,hwo⟩:∃z,z=wr:=⟨_,rfl⟩
         subst hwo
         go_loopw [23] (fun s23 wr=>∃k:Nat,k≤m2∧s23=O U (k:Int)∧Below wq.heap.size wq wr) (fun s23 _=>m2 - (intOf s23).toNat)
         case atStart=>exact⟨0,Nat.zero_le _,rfl,Below.refl _ _⟩
         case round=>
          obtain⟨k,hk,rfl,hbr⟩:=hrel
          have HBQ:=Z hbr
          by_cases hkn:k<m2
          ·have hki:(k:Int)<(m2:Int):=by omega
           have hk0:(0:Int)≤(k:Int):=by omega
           have hkL:k<L.length:=by omega
           have hkli:(k:Int)<(L.length:Int):=by omega
           obtain⟨b1,o1,e1,_,hc1⟩:=leg_cells (HLA.out.below (HYP.out.trans (hbr.mono HYP.out.size))) hkL
           obtain⟨b2,o2,e2,_,hc2⟩:=leg_cells (HL2.out.below hbr) (i:=k) (by rw [List.length_take];omega)
           subst e1;subst e2
           rw [List.getElem_take] at hc2
           obtain⟨x,hx⟩:∃x,L[k]=x:=⟨_,rfl⟩
           rw [hx] at hc1 hc2
           have f0:=hc1 0 _ rfl;have g0:=hc2 0 _ rfl;have f1:=hc1 1 _ rfl;have g1:=hc2 1 _ rfl;have f2:=hc1 2 _ rfl;have g2:=hc2 2 _ rfl;have f3:=hc1 3 _ rfl;have g3:=hc2 3 _ rfl;have f4:=hc1 4 _ rfl;have g4:=hc2 4 _ rfl;have f5:=hc1 5 _ rfl;have g5:=hc2 5 _ rfl;have f6:=hc1 6 _ rfl;have g6:=hc2 6 _ rfl;have f7:=hc1 7 _ rfl;have g7:=hc2 7 _ rfl;have f8:=hc1 8 _ rfl;have g8:=hc2 8 _ rfl;have f9:=hc1 9 _ rfl;have g9:=hc2 9 _ rfl
           simp only [Nat.add_zero] at f0 g0
           have HKX:=Z hkn
           clear hc1 hc2 hx hbr hkn hk
           go_upto_region 31 with (fail)
           go_quiet (fail)
           go_wp2
           go_roundw
           case rel=>exact⟨k+1,by have:=HKX.out;omega,by simp,bDrewN HBQ.out _⟩
           case measure=>have:=HKX.out;simp [intOf];omega
          ·have hki:¬(k:Int)<(m2:Int):=by omega
           have HXQ:=Z (HXP.out.trans (hbr.mono HXP.out.size))
           clear hbr hkn hk hm4
           have HLN:=Z (show l.length=n∧n≤8 from⟨HNN.out.1,HN8.out⟩)
           obtain⟨WL,hWL⟩:∃z,wlen p (l.map endNo)=z:=⟨_,rfl⟩
           have HW36:=Z (show ∀wx,Below W1.heap.size W1 wx→Calls Tryz.prog 36 #[.agg #[.slice A p.nodes.length c,.slice A2 p.rails.length c2],.slice Aw n cw] wx fun e w'=>e= .returned (.tuple #[O U WL,O U 0])∧Below wx.heap.size wx w' from fun wx h=>by
            have:=WayLength_any A A2 Aw c c2 cw p l wx (HK.out wx h).2.2.1 (HK.out wx h).2.2.2.1 (by have:=HLN.out;omega)
            rw [HLN.out.1] at this
            refine this.mono ?_
            rintro e w' ⟨⟨_,_,rfl⟩|⟨hno,rfl⟩,hbw⟩
            ·exact⟨by rw [hWL],hbw⟩
            ·exact absurd ⟨HDK.out.v,HDK.out.way⟩ hno)
           have HW37:=Z (show ∀wx,Below W1.heap.size W1 wx→Calls Tryz.prog 37 #[.agg #[.slice A p.nodes.length c,.slice A2 p.rails.length c2],.slice Aw n cw] wx fun e w'=>e= .returned (O U WL)∧Below wx.heap.size wx w' from fun wx h=>by
            have:=rWayLength_any A A2 Aw c c2 cw p l wx (HK.out wx h).2.2.1 HDK.out.v (HK.out wx h).2.2.2.1 (by have:=HLN.out;omega) (fun j hj=>by
             have:=wayOk_rails HDK.out.way _ (List.getElem_mem hj)
             exact decide_eq_true this)
            rw [HLN.out.1,hWL] at this
            exact this)
           have hle:pr≤WL:=by rw [←hWL];exact HPL.out
           clear hWL
           obtain⟨r1,r2,_⟩:=HK.out _ HXQ.out
           have e_:=r1.cell;have f_:=r2.cell
           clear r1 r2
           go_wp2_with fail
           (with_reducible refine (HW36.out _ HXQ.out).mono ?_)
           rintro e w36 ⟨rfl,hb⟩
           have HXR:=Z (HXQ.out.trans (hb.mono HXQ.out.size))
           clear hb
           clear e_ f_
           obtain⟨r1,r2,_⟩:=HK.out _ HXR.out
           have e_:=r1.cell;have f_:=r2.cell
           clear r1 r2
           go_wp2_with fail
           (with_reducible refine (HW37.out _ HXR.out).mono ?_)
           rintro e w37 ⟨rfl,hb⟩
           have HXS:=Z (HXR.out.trans (hb.mono HXR.out.size))
           clear hb
           clear e_ f_
           obtain⟨r1,r2,_⟩:=HK.out _ HXS.out
           have e_:=r1.cell;have f_:=r2.cell
           clear r1 r2
           go_wp2_with fail
           (with_reducible refine (HKN.out _ HXS.out).mono ?_)
           rintro e w14 ⟨rfl,hb⟩
           have HXT:=Z (HXS.out.trans (hb.mono HXS.out.size))
           clear hb
           go_wp2
           go_ret
           exact⟨by rfl,HB1.out.trans (HXT.out.mono HB1.out.size)⟩
  ·have HDK:=Z hD
   have HS1:=Z (show ∀wx,Below W1.heap.size W1 wx→Calls Tryz.prog 33 #[.agg #[.slice A p.nodes.length c,.slice A2 p.rails.length c2],.slice Aw n cw,.agg #[O U t.mass,O U t.len,O U t.speed,O U t.effort,O U t.brake,O U t.power,O U t.resist,O U t.rise,O U t.back,.slice At nt ct],O U st,.slice As ns cs] wx fun e w'=>e= .returned (.bool false)∧Below wx.heap.size wx w' from fun wx h=>(HS0.out wx h).mono (by
    rintro e w' ⟨⟨b,rfl,hb⟩,hbw⟩
    exact⟨by rw [show b=false from by cases b with|false=>rfl|true=>exact absurd (hb.1 rfl) HDK.out],hbw⟩))
   clear hD hn4 hn8 hn20
   go_wp2_with fail
   (with_reducible refine (HS1.out _ HX1.out).mono ?_)
   rintro e w3 ⟨rfl,hb⟩
   have HX2:=Z (HX1.out.trans (hb.mono HX1.out.size))
   clear hb
   clear e f
   obtain⟨r1,r2,_⟩:=HK.out _ HX2.out
   have e:=r1.cell;have f:=r2.cell
   clear r1 r2
   go_wp2_with fail
   (with_reducible refine (HKN.out _ HX2.out).mono ?_)
   rintro e w4 ⟨rfl,hb⟩
   have HX3:=Z (HX2.out.trans (hb.mono HX2.out.size))
   clear hb
   go_wp2
   go_ret
   exact⟨by rfl,HB1.out.trans (HX3.out.mono HB1.out.size)⟩
end Go.Proofs.YtfhkbbjddjddmaaGreat
