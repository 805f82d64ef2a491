/- Contract: the reference's Stops. -/
import Derived.Test.YtfhkbbjddjddmaaGreatMi
import Derived.Test.YtfhkbbjddjddmaaGreatV1
import Derived.Test.YtfhkbbjddjddmaaGreatM53
import Derived.Test.YtfhkbbjddjddmaaGreatMd
set_option linter.unusedVariables false
set_option linter.unusedSimpArgs false
open Go.Value renaming int→O
open Go.IntKind renaming i64→U
open Go.Lib renaming hid→Z
namespace Go.Proofs.YtfhkbbjddjddmaaGreat
open Go.RowKit
theorem hSk {P:Program} {ops:Array Oper} {Q:Exit→Act→World→Prop} {md:Region.Mode} {S:World→Prop} {oi:Oper} {fuel:Nat} {listed:Array Bool} {a:Act} {w:World} (i:Nat) (d:Tmp) (hi:ops[i]? = some oi) (hd:oi.dst=some d) (hw:Region.wanted oi (yielded ops a.tmps)=false)
  (hS:S w) (h:wpAnyH P md ops Q S fuel (listed.setIfInBounds i true) (a.put (some d) undef) w)
  (hs:Region.noSelect ops=true:=by kernel_rfl) (hf:Region.free md ops listed i=true:=by kernel_rfl) (hr:(Region.ready md ops listed).contains i=true:=by kernel_rfl)
  (hQ:∀c a w,Q (.panic c) (a.put (some d) undef) w→Q (.panic c) a w:=by exact fun _ _ _ h=>h):wpAnyH P md ops Q S (fuel+1) listed a w:=hTake hi hd hs hf hr hQ (Or.inr ⟨hw,rfl⟩) hS h
def RStPost (p:Pl) (l:List E) (t:Tr) (st:Int) (stops:List Int) (w:World) (e:Ending) (w':World):Prop:=(∃b,e= .returned (.bool b)∧(b=true ↔ DrOk p l t st stops))∧Below w.heap.size w w'
theorem ascN_pre {l:List Int} {n k:Nat} (h:ascN l n=true) (hk:k≤n):ascN l k=true:=by
 induction n with
 | zero=>
  obtain rfl:k=0:=by omega
  exact h
 | succ n ih=>
  by_cases e:k=n+1
  ·rw [e];exact h
  ·rw [ascN,Bool.and_eq_true] at h
   exact ih h.1 (by omega)
set_option maxRecDepth 100000 in
set_option maxHeartbeats 4000000 in
theorem rStops_any (A A2:Option Addr) (c c2:Nat) (p:Pl) (Aw:Option Addr) (cw n:Nat) (l:List E) (t:Tr) (At:Option Addr) (nt ct:Nat) (st:Int) (As:Option Addr) (ns cs:Nat) (stops:List Int) (w:World) (hP:PlAt w w.heap.size A c A2 c2 p) (hA:Sl w w.heap.size 2 CE Aw l) (hnl:l.length=n) (hl:n≤140737488351232) (hn:t.grip.length=nt) (hn2:nt≤140737488351232) (hG:Sl w w.heap.size 1 CI At t.grip) (hns:stops.length=ns) (hns2:ns≤140737488351232) (hS:Sl w w.heap.size 1 CI As stops) :
  Calls Tryz.prog 33 #[.agg #[.slice A p.nodes.length c,.slice A2 p.rails.length c2],.slice Aw n cw,.agg #[O U t.mass,O U t.len,O U t.speed,O U t.effort,O U t.brake,O U t.power,O U t.resist,O U t.rise,O U t.back,.slice At nt ct],O U st,.slice As ns cs] w (RStPost p l t st stops w):=by
 have hb1:=((Below.refl w.heap.size w).alloc (Nat.le_refl _) (.cells #[.slice A p.nodes.length c,.slice A2 p.rails.length c2] 60)).alloc (by simp) (.cells #[O U t.mass,O U t.len,O U t.speed,O U t.effort,O U t.brake,O U t.power,O U t.resist,O U t.rise,O U t.back,.slice At nt ct] 24)
 obtain⟨q1,q2⟩:=rows2 w #[.slice A p.nodes.length c,.slice A2 p.rails.length c2] #[O U t.mass,O U t.len,O U t.speed,O U t.effort,O U t.brake,O U t.power,O U t.resist,O U t.rise,O U t.back,.slice At nt ct] 60 24
 obtain⟨W1,hW1⟩:∃z,(w.alloc (.cells #[.slice A p.nodes.length c,.slice A2 p.rails.length c2] 60)).alloc (.cells #[O U t.mass,O U t.len,O U t.speed,O U t.effort,O U t.brake,O U t.power,O U t.resist,O U t.rise,O U t.back,.slice At nt ct] 24)=z:=⟨_,rfl⟩
 rw [hW1] at hb1 q1 q2
 obtain⟨B0,hB0⟩:∃B,w.heap.size=B:=⟨_,rfl⟩
 rw [hB0] at q1 q2
 have HB1:=Z hb1
 have HN:=Z hns;have HNW:=Z hnl
 have HM:=Z (show ∀wx,Below W1.heap.size W1 wx→PlAt wx wx.heap.size A c A2 c2 p∧Sl wx wx.heap.size 2 CE Aw l∧Sl wx wx.heap.size 1 CI At t.grip∧Sl wx wx.heap.size 1 CI As stops from fun wx h=>by
  have hb:=hb1.trans (h.mono hb1.size)
  have hz:=Nat.le_trans hb1.size h.size
  exact⟨(hP.below hb).more hz,(hA.below hb).more (fun _ _ h=>h) hz,(hG.below hb).more (fun _ _ h=>h) hz,(hS.below hb).more (fun _ _ h=>h) hz⟩)
 have HB0:=HB1
 obtain⟨b1,h1⟩:∃b:Bool,(b=true ↔ Vld p):=⟨@decide (Vld p) (Classical.propDecidable _),by simp⟩
 obtain⟨b2,h2⟩:∃b:Bool,(b=true ↔ wayOk p l):=⟨@decide (wayOk p l) (Classical.propDecidable _),by simp⟩
 obtain⟨b3,h3⟩:∃b,rightB t=b:=⟨_,rfl⟩
 obtain⟨b4,h4⟩:∃b,inB st 0 ((nt:Int) - 1)=b:=⟨_,rfl⟩
 obtain⟨b5,h5⟩:∃b,inB (ns:Int) 2 100=b:=⟨_,rfl⟩
 obtain⟨s0,hs0⟩:∃s,stops.getD 0 0=s:=⟨_,rfl⟩
 obtain⟨fb,hfb⟩:∃b,decide (s0<t.len)=b:=⟨_,rfl⟩
 have HV:=Z (show ∀wx,Below W1.heap.size W1 wx→Calls Tryz.prog 62 #[.agg #[.slice A p.nodes.length c,.slice A2 p.rails.length c2]] wx fun e w'=>e= .returned (.bool b1)∧Below wx.heap.size wx w' from fun wx h=>by
  refine (Valid_any A A2 c c2 p wx (HM.out wx h).1).mono ?_
  rintro e w' ⟨⟨b,rfl,hb⟩,hbw⟩
  exact⟨by rw [show b=b1 from Bool.eq_iff_iff.2 (hb.trans h1.symm)],hbw⟩)
 have HW:=Z (show b1=true→∀wx,Below W1.heap.size W1 wx→Calls Tryz.prog 63 #[.agg #[.slice A p.nodes.length c,.slice A2 p.rails.length c2],.slice Aw n cw] wx fun e w'=>e= .returned (.bool b2)∧Below wx.heap.size wx w' from fun hb wx h=>by
  have:=rWay_any A A2 Aw c c2 cw p l wx (HM.out wx h).1 (h1.1 hb) (HM.out wx h).2.1 (by omega)
  rw [hnl] at this
  refine this.mono ?_
  rintro e w' ⟨⟨b,rfl,hb⟩,hbw⟩
  exact⟨by rw [show b=b2 from Bool.eq_iff_iff.2 (hb.trans h2.symm)],hbw⟩)
 have HT:=Z (show ∀wx,Below W1.heap.size W1 wx→Calls Tryz.prog 17 #[.agg #[O U t.mass,O U t.len,O U t.speed,O U t.effort,O U t.brake,O U t.power,O U t.resist,O U t.rise,O U t.back,.slice At nt ct]] wx fun e w'=>e= .returned (.bool b3)∧Below wx.heap.size wx w' from fun wx h=>by have:=rTrain_any At ct nt t wx hn hn2 (HM.out wx h).2.2.1;rwa [h3] at this)
 have HI1:=Z (show ∀wx,Below W1.heap.size W1 wx→Calls Tryz.prog 42 #[O U st,O U 0,O U ((nt:Int) - 1)] wx fun e w'=>e= .returned (.bool b4)∧Below wx.heap.size wx w' from fun wx h=>by
  refine (in_any st 0 ((nt:Int) - 1) wx).mono ?_
  rintro e w' ⟨rfl,rfl⟩
  exact⟨by rw [h4],Below.refl _ _⟩)
 have HI2:=Z (show ∀wx,Below W1.heap.size W1 wx→Calls Tryz.prog 42 #[O U (ns:Int),O U 2,O U 100] wx fun e w'=>e= .returned (.bool b5)∧Below wx.heap.size wx w' from fun wx h=>by
  refine (in_any (ns:Int) 2 100 wx).mono ?_
  rintro e w' ⟨rfl,rfl⟩
  exact⟨by rw [h5],Below.refl _ _⟩)
 have HNO1:=Z (show b1=false→¬DrOk p l t st stops from fun hb h=>by have:=h1.2 h.v;rw [hb] at this;cases this)
 have HNO2:=Z (show b2=false→¬DrOk p l t st stops from fun hb h=>by have:=h2.2 h.way;rw [hb] at this;cases this)
 have HNO3:=Z (show b3=false→¬DrOk p l t st stops from fun hb h=>by have:=h.tr;rw [h3,hb] at this;cases this)
 have HNO4:=Z (show b4=false→¬DrOk p l t st stops from fun hb h=>by have:=h.s0;rw [hn,h4,hb] at this;cases this)
 have HNO5:=Z (show b5=false→¬DrOk p l t st stops from fun hb h=>by
  have h6:=h.stops
  unfold stopsB at h6
  rw [hns,h5,hb] at h6
  cases h6)
 have HNO6:=Z (show fb=true→¬DrOk p l t st stops from fun hb h=>by
  have h6:=h.stops
  unfold stopsB at h6
  simp only [Bool.and_eq_true,decide_eq_true_iff] at h6
  rw [hs0] at h6
  rw [hb] at hfb
  have:=of_decide_eq_true hfb
  omega)
 have HC5:=Z (show b5=true→2≤ns∧ns≤100 from fun hb=>by rw [hb] at h5;have:=inB_iff.1 h5;omega)
 have HFB:=Z hfb
 have HYES:=Z (show b1=true→b2=true→b3=true→b4=true→b5=true→fb=false→Vld p∧wayOk p l∧rightB t=true∧inB st 0 ((t.grip.length:Int) - 1)=true∧inB (stops.length:Int) 2 100=true∧t.len≤stops.getD 0 0 from fun g1 g2 g3 g4 g5 g6=>⟨h1.1 g1,h2.1 g2,h3.trans g3,by rw [hn];exact h4.trans g4,by rw [hns];exact h5.trans g5,by rw [hs0];rw [g6] at hfb;have:=of_decide_eq_false hfb;omega⟩)
 have HWN:=Z (show IntKind.i64.wrap ((nt:Int) - 1)=(nt:Int) - 1 from by rw [IntKind.wrap_i64];omega)
 have HSK:=Z (show ∀wx,Below W1.heap.size W1 wx→Rw wx B0 60 #[.slice A p.nodes.length c,.slice A2 p.rails.length c2]∧Rw wx (B0+1) 24 #[O U t.mass,O U t.len,O U t.speed,O U t.effort,O U t.brake,O U t.power,O U t.resist,O U t.rise,O U t.back,.slice At nt ct]∧(∀b o,As=some ⟨b,o,none⟩→0<ns→wx.cell? ⟨b,o,none⟩=some (O U s0)) from fun wx h=>⟨q1.below h q1.lt,q2.below h q2.lt,fun b o e hp=>by
  obtain⟨b',o',e',g',c0⟩:=int_at (HM.out wx h).2.2.2 (i:=0) (by omega)
  rw [e] at e'
  cases e'
  rw [show stops[0]'(by omega)=s0 from by rw [←hs0,List.getD_eq_getElem?_getD,List.getElem?_eq_getElem (by omega)];rfl] at c0
  simpa using c0⟩)
 clear hb1 q1 q2 hP hA hl hnl hn hG hns hS h1 h2 h3 h4 h5 hs0 hfb
 go_enter Tryz.func33,Tryz.ntmps33
 go_upto_region 1 with (fail)
 clear hW1 hB0
 have hbq:Below W1.heap.size W1 W1.drew:=(Below.refl _ _).drew
 have HS:=Z (HSK.out _ hbq)
 refine wp_region_held_drew (S:=fun wx=>Rw wx B0 60 #[.slice A p.nodes.length c,.slice A2 p.rails.length c2]∧Rw wx (B0+1) 24 #[O U t.mass,O U t.len,O U t.speed,O U t.effort,O U t.brake,O U t.power,O U t.resist,O U t.rise,O U t.back,.slice At nt ct]∧(∀b o,As=some ⟨b,o,none⟩→0<ns→wx.cell? ⟨b,o,none⟩=some (O U s0))) (by kernel_rfl) HS.out (fun _=> ?_)
 refine hTk (i:=0) (d:=12) (v:= .agg #[.slice A p.nodes.length c,.slice A2 p.rails.length c2]) rfl rfl (Or.inl ⟨rfl,by rintro W' ⟨u0,u1,u2⟩;have y:=u0.cell;have x:=u1.cell;have hwn:=HWN.out;go_simp⟩) HS.out ?_
 simp only [Act.put,sB,sZ,sS]
 refine wpAnyH_ready (rs:= [1]) (by kernel_rfl) (by simp) ?_
 refine AllReadyH.cons rfl (fun K hK=> ?_) AllReadyH.nil
 rw [if_pos (by rfl)]
 go_simp
 go_at_call 62
 (with_reducible refine (HV.out _ hbq).mono ?_)
 rintro e w2 ⟨rfl,hbn⟩
 replace hbq:=hbq.trans (hbn.mono hbq.size)
 clear hbn
 have HS:=Z (HSK.out _ hbq)
 refine hK.out _ _ HS.out (fun _=> ?_)
 clear hK K
 try simp only [Act.put,sB,sZ,sS]
 cases b1 with
 | false=>
  refine hTk (i:=2) (d:=14) (v:= .bool true) rfl rfl (Or.inl ⟨rfl,by rintro W' ⟨u0,u1,u2⟩;have y:=u0.cell;have x:=u1.cell;have hwn:=HWN.out;go_simp⟩) HS.out ?_
  simp only [Act.put,sB,sZ,sS]
  refine hTk (i:=3) (d:=15) (v:= .bool true) rfl rfl (Or.inl ⟨rfl,by rintro W' ⟨u0,u1,u2⟩;have y:=u0.cell;have x:=u1.cell;have hwn:=HWN.out;go_simp⟩) HS.out ?_
  simp only [Act.put,sB,sZ,sS]
  refine hSk 4 16 rfl rfl rfl HS.out ?_
  simp only [Act.put,sB,sZ,sS]
  refine hSk 5 17 rfl rfl rfl HS.out ?_
  simp only [Act.put,sB,sZ,sS]
  refine hSk 6 18 rfl rfl rfl HS.out ?_
  simp only [Act.put,sB,sZ,sS]
  refine hSk 7 19 rfl rfl rfl HS.out ?_
  simp only [Act.put,sB,sZ,sS]
  refine hTk (i:=8) (d:=20) (v:= .bool true) rfl rfl (Or.inl ⟨rfl,by rintro W' ⟨u0,u1,u2⟩;have y:=u0.cell;have x:=u1.cell;have hwn:=HWN.out;go_simp⟩) HS.out ?_
  simp only [Act.put,sB,sZ,sS]
  refine hTk (i:=9) (d:=21) (v:= .bool true) rfl rfl (Or.inl ⟨rfl,by rintro W' ⟨u0,u1,u2⟩;have y:=u0.cell;have x:=u1.cell;have hwn:=HWN.out;go_simp⟩) HS.out ?_
  simp only [Act.put,sB,sZ,sS]
  refine hSk 10 22 rfl rfl rfl HS.out ?_
  simp only [Act.put,sB,sZ,sS]
  refine hSk 11 23 rfl rfl rfl HS.out ?_
  simp only [Act.put,sB,sZ,sS]
  refine hSk 12 24 rfl rfl rfl HS.out ?_
  simp only [Act.put,sB,sZ,sS]
  refine hTk (i:=13) (d:=25) (v:= .bool true) rfl rfl (Or.inl ⟨rfl,by rintro W' ⟨u0,u1,u2⟩;have y:=u0.cell;have x:=u1.cell;have hwn:=HWN.out;go_simp⟩) HS.out ?_
  simp only [Act.put,sB,sZ,sS]
  refine hTk (i:=14) (d:=26) (v:= .bool true) rfl rfl (Or.inl ⟨rfl,by rintro W' ⟨u0,u1,u2⟩;have y:=u0.cell;have x:=u1.cell;have hwn:=HWN.out;go_simp⟩) HS.out ?_
  simp only [Act.put,sB,sZ,sS]
  refine hSk 15 27 rfl rfl rfl HS.out ?_
  simp only [Act.put,sB,sZ,sS]
  refine hSk 16 28 rfl rfl rfl HS.out ?_
  simp only [Act.put,sB,sZ,sS]
  refine hSk 17 29 rfl rfl rfl HS.out ?_
  simp only [Act.put,sB,sZ,sS]
  refine hSk 18 30 rfl rfl rfl HS.out ?_
  simp only [Act.put,sB,sZ,sS]
  refine hSk 19 31 rfl rfl rfl HS.out ?_
  simp only [Act.put,sB,sZ,sS]
  refine hSk 20 32 rfl rfl rfl HS.out ?_
  simp only [Act.put,sB,sZ,sS]
  refine hSk 21 33 rfl rfl rfl HS.out ?_
  simp only [Act.put,sB,sZ,sS]
  refine hTk (i:=22) (d:=34) (v:= .bool true) rfl rfl (Or.inl ⟨rfl,by rintro W' ⟨u0,u1,u2⟩;have y:=u0.cell;have x:=u1.cell;have hwn:=HWN.out;go_simp⟩) HS.out ?_
  simp only [Act.put,sB,sZ,sS]
  refine hTk (i:=23) (d:=35) (v:= .bool true) rfl rfl (Or.inl ⟨rfl,by rintro W' ⟨u0,u1,u2⟩;have y:=u0.cell;have x:=u1.cell;have hwn:=HWN.out;go_simp⟩) HS.out ?_
  simp only [Act.put,sB,sZ,sS]
  refine hSk 24 36 rfl rfl rfl HS.out ?_
  simp only [Act.put,sB,sZ,sS]
  refine hSk 25 37 rfl rfl rfl HS.out ?_
  simp only [Act.put,sB,sZ,sS]
  refine hSk 26 38 rfl rfl rfl HS.out ?_
  simp only [Act.put,sB,sZ,sS]
  refine hSk 27 39 rfl rfl rfl HS.out ?_
  simp only [Act.put,sB,sZ,sS]
  refine hTk (i:=28) (d:=40) (v:= .bool true) rfl rfl (Or.inl ⟨rfl,by rintro W' ⟨u0,u1,u2⟩;have y:=u0.cell;have x:=u1.cell;have hwn:=HWN.out;go_simp⟩) HS.out ?_
  simp only [Act.put,sB,sZ,sS]
  refine hTk (i:=29) (d:=41) (v:= .bool true) rfl rfl (Or.inl ⟨rfl,by rintro W' ⟨u0,u1,u2⟩;have y:=u0.cell;have x:=u1.cell;have hwn:=HWN.out;go_simp⟩) HS.out ?_
  simp only [Act.put,sB,sZ,sS]
  refine hSk 30 42 rfl rfl rfl HS.out ?_
  simp only [Act.put,sB,sZ,sS]
  refine hSk 31 43 rfl rfl rfl HS.out ?_
  simp only [Act.put,sB,sZ,sS]
  refine hSk 32 44 rfl rfl rfl HS.out ?_
  simp only [Act.put,sB,sZ,sS]
  refine hSk 33 45 rfl rfl rfl HS.out ?_
  simp only [Act.put,sB,sZ,sS]
  refine hSk 34 46 rfl rfl rfl HS.out ?_
  simp only [Act.put,sB,sZ,sS]
  refine hSk 35 47 rfl rfl rfl HS.out ?_
  simp only [Act.put,sB,sZ,sS]
  refine hTk (i:=36) (d:=48) (v:= .bool true) rfl rfl (Or.inl ⟨rfl,by rintro W' ⟨u0,u1,u2⟩;have y:=u0.cell;have x:=u1.cell;have hwn:=HWN.out;go_simp⟩) HS.out ?_
  simp only [Act.put,sB,sZ,sS]
  refine wpAnyH_done (by kernel_rfl) ?_ _
  have hbf:=HB1.out.trans (hbq.mono HB1.out.size)
  have HBF:=Z hbf
  clear hbq hbf HS
  go_wp2
  go_ret
  exact⟨⟨false,rfl,by simp only [Bool.false_eq_true,false_iff];exact HNO1.out (by first|rfl|trivial)⟩,HBF.out⟩
 | true=>
  refine hTk (i:=2) (d:=14) (v:= .bool false) rfl rfl (Or.inl ⟨rfl,by rintro W' ⟨u0,u1,u2⟩;have y:=u0.cell;have x:=u1.cell;have hwn:=HWN.out;go_simp⟩) HS.out ?_
  simp only [Act.put,sB,sZ,sS]
  refine hTk (i:=3) (d:=15) (v:= .bool false) rfl rfl (Or.inl ⟨rfl,by rintro W' ⟨u0,u1,u2⟩;have y:=u0.cell;have x:=u1.cell;have hwn:=HWN.out;go_simp⟩) HS.out ?_
  simp only [Act.put,sB,sZ,sS]
  refine hTk (i:=4) (d:=16) (v:= .agg #[.slice A p.nodes.length c,.slice A2 p.rails.length c2]) rfl rfl (Or.inl ⟨rfl,by rintro W' ⟨u0,u1,u2⟩;have y:=u0.cell;have x:=u1.cell;have hwn:=HWN.out;go_simp⟩) HS.out ?_
  simp only [Act.put,sB,sZ,sS]
  refine hTk (i:=5) (d:=17) (v:= .slice Aw n cw) rfl rfl (Or.inl ⟨rfl,by rintro W' ⟨u0,u1,u2⟩;have y:=u0.cell;have x:=u1.cell;have hwn:=HWN.out;go_simp⟩) HS.out ?_
  simp only [Act.put,sB,sZ,sS]
  refine wpAnyH_ready (rs:= [6]) (by kernel_rfl) (by simp) ?_
  refine AllReadyH.cons rfl (fun K hK=> ?_) AllReadyH.nil
  rw [if_pos (by rfl)]
  go_simp
  go_at_call 63
  (with_reducible refine (HW.out (by first|rfl|trivial) _ hbq).mono ?_)
  rintro e w3 ⟨rfl,hbn⟩
  replace hbq:=hbq.trans (hbn.mono hbq.size)
  clear hbn
  have HS:=Z (HSK.out _ hbq)
  refine hK.out _ _ HS.out (fun _=> ?_)
  clear hK K
  try simp only [Act.put,sB,sZ,sS]
  cases b2 with
  | false=>
   refine hTk (i:=7) (d:=19) (v:= .bool true) rfl rfl (Or.inl ⟨rfl,by rintro W' ⟨u0,u1,u2⟩;have y:=u0.cell;have x:=u1.cell;have hwn:=HWN.out;go_simp⟩) HS.out ?_
   simp only [Act.put,sB,sZ,sS]
   refine hTk (i:=8) (d:=20) (v:= .bool true) rfl rfl (Or.inl ⟨rfl,by rintro W' ⟨u0,u1,u2⟩;have y:=u0.cell;have x:=u1.cell;have hwn:=HWN.out;go_simp⟩) HS.out ?_
   simp only [Act.put,sB,sZ,sS]
   refine hTk (i:=9) (d:=21) (v:= .bool true) rfl rfl (Or.inl ⟨rfl,by rintro W' ⟨u0,u1,u2⟩;have y:=u0.cell;have x:=u1.cell;have hwn:=HWN.out;go_simp⟩) HS.out ?_
   simp only [Act.put,sB,sZ,sS]
   refine hSk 10 22 rfl rfl rfl HS.out ?_
   simp only [Act.put,sB,sZ,sS]
   refine hSk 11 23 rfl rfl rfl HS.out ?_
   simp only [Act.put,sB,sZ,sS]
   refine hSk 12 24 rfl rfl rfl HS.out ?_
   simp only [Act.put,sB,sZ,sS]
   refine hTk (i:=13) (d:=25) (v:= .bool true) rfl rfl (Or.inl ⟨rfl,by rintro W' ⟨u0,u1,u2⟩;have y:=u0.cell;have x:=u1.cell;have hwn:=HWN.out;go_simp⟩) HS.out ?_
   simp only [Act.put,sB,sZ,sS]
   refine hTk (i:=14) (d:=26) (v:= .bool true) rfl rfl (Or.inl ⟨rfl,by rintro W' ⟨u0,u1,u2⟩;have y:=u0.cell;have x:=u1.cell;have hwn:=HWN.out;go_simp⟩) HS.out ?_
   simp only [Act.put,sB,sZ,sS]
   refine hSk 15 27 rfl rfl rfl HS.out ?_
   simp only [Act.put,sB,sZ,sS]
   refine hSk 16 28 rfl rfl rfl HS.out ?_
   simp only [Act.put,sB,sZ,sS]
   refine hSk 17 29 rfl rfl rfl HS.out ?_
   simp only [Act.put,sB,sZ,sS]
   refine hSk 18 30 rfl rfl rfl HS.out ?_
   simp only [Act.put,sB,sZ,sS]
   refine hSk 19 31 rfl rfl rfl HS.out ?_
   simp only [Act.put,sB,sZ,sS]
   refine hSk 20 32 rfl rfl rfl HS.out ?_
   simp only [Act.put,sB,sZ,sS]
   refine hSk 21 33 rfl rfl rfl HS.out ?_
   simp only [Act.put,sB,sZ,sS]
   refine hTk (i:=22) (d:=34) (v:= .bool true) rfl rfl (Or.inl ⟨rfl,by rintro W' ⟨u0,u1,u2⟩;have y:=u0.cell;have x:=u1.cell;have hwn:=HWN.out;go_simp⟩) HS.out ?_
   simp only [Act.put,sB,sZ,sS]
   refine hTk (i:=23) (d:=35) (v:= .bool true) rfl rfl (Or.inl ⟨rfl,by rintro W' ⟨u0,u1,u2⟩;have y:=u0.cell;have x:=u1.cell;have hwn:=HWN.out;go_simp⟩) HS.out ?_
   simp only [Act.put,sB,sZ,sS]
   refine hSk 24 36 rfl rfl rfl HS.out ?_
   simp only [Act.put,sB,sZ,sS]
   refine hSk 25 37 rfl rfl rfl HS.out ?_
   simp only [Act.put,sB,sZ,sS]
   refine hSk 26 38 rfl rfl rfl HS.out ?_
   simp only [Act.put,sB,sZ,sS]
   refine hSk 27 39 rfl rfl rfl HS.out ?_
   simp only [Act.put,sB,sZ,sS]
   refine hTk (i:=28) (d:=40) (v:= .bool true) rfl rfl (Or.inl ⟨rfl,by rintro W' ⟨u0,u1,u2⟩;have y:=u0.cell;have x:=u1.cell;have hwn:=HWN.out;go_simp⟩) HS.out ?_
   simp only [Act.put,sB,sZ,sS]
   refine hTk (i:=29) (d:=41) (v:= .bool true) rfl rfl (Or.inl ⟨rfl,by rintro W' ⟨u0,u1,u2⟩;have y:=u0.cell;have x:=u1.cell;have hwn:=HWN.out;go_simp⟩) HS.out ?_
   simp only [Act.put,sB,sZ,sS]
   refine hSk 30 42 rfl rfl rfl HS.out ?_
   simp only [Act.put,sB,sZ,sS]
   refine hSk 31 43 rfl rfl rfl HS.out ?_
   simp only [Act.put,sB,sZ,sS]
   refine hSk 32 44 rfl rfl rfl HS.out ?_
   simp only [Act.put,sB,sZ,sS]
   refine hSk 33 45 rfl rfl rfl HS.out ?_
   simp only [Act.put,sB,sZ,sS]
   refine hSk 34 46 rfl rfl rfl HS.out ?_
   simp only [Act.put,sB,sZ,sS]
   refine hSk 35 47 rfl rfl rfl HS.out ?_
   simp only [Act.put,sB,sZ,sS]
   refine hTk (i:=36) (d:=48) (v:= .bool true) rfl rfl (Or.inl ⟨rfl,by rintro W' ⟨u0,u1,u2⟩;have y:=u0.cell;have x:=u1.cell;have hwn:=HWN.out;go_simp⟩) HS.out ?_
   simp only [Act.put,sB,sZ,sS]
   refine wpAnyH_done (by kernel_rfl) ?_ _
   have hbf:=HB1.out.trans (hbq.mono HB1.out.size)
   have HBF:=Z hbf
   clear hbq hbf HS
   go_wp2
   go_ret
   exact⟨⟨false,rfl,by simp only [Bool.false_eq_true,false_iff];exact HNO2.out (by first|rfl|trivial)⟩,HBF.out⟩
  | true=>
   refine hTk (i:=7) (d:=19) (v:= .bool false) rfl rfl (Or.inl ⟨rfl,by rintro W' ⟨u0,u1,u2⟩;have y:=u0.cell;have x:=u1.cell;have hwn:=HWN.out;go_simp⟩) HS.out ?_
   simp only [Act.put,sB,sZ,sS]
   refine hTk (i:=8) (d:=20) (v:= .bool false) rfl rfl (Or.inl ⟨rfl,by rintro W' ⟨u0,u1,u2⟩;have y:=u0.cell;have x:=u1.cell;have hwn:=HWN.out;go_simp⟩) HS.out ?_
   simp only [Act.put,sB,sZ,sS]
   refine hTk (i:=9) (d:=21) (v:= .bool false) rfl rfl (Or.inl ⟨rfl,by rintro W' ⟨u0,u1,u2⟩;have y:=u0.cell;have x:=u1.cell;have hwn:=HWN.out;go_simp⟩) HS.out ?_
   simp only [Act.put,sB,sZ,sS]
   refine hTk (i:=10) (d:=22) (v:= .agg #[O U t.mass,O U t.len,O U t.speed,O U t.effort,O U t.brake,O U t.power,O U t.resist,O U t.rise,O U t.back,.slice At nt ct]) rfl rfl (Or.inl ⟨rfl,by rintro W' ⟨u0,u1,u2⟩;have y:=u0.cell;have x:=u1.cell;have hwn:=HWN.out;go_simp⟩) HS.out ?_
   simp only [Act.put,sB,sZ,sS]
   refine wpAnyH_ready (rs:= [11]) (by kernel_rfl) (by simp) ?_
   refine AllReadyH.cons rfl (fun K hK=> ?_) AllReadyH.nil
   rw [if_pos (by rfl)]
   go_simp
   go_at_call 17
   (with_reducible refine (HT.out _ hbq).mono ?_)
   rintro e w4 ⟨rfl,hbn⟩
   replace hbq:=hbq.trans (hbn.mono hbq.size)
   clear hbn
   have HS:=Z (HSK.out _ hbq)
   refine hK.out _ _ HS.out (fun _=> ?_)
   clear hK K
   try simp only [Act.put,sB,sZ,sS]
   cases b3 with
   | false=>
    refine hTk (i:=12) (d:=24) (v:= .bool true) rfl rfl (Or.inl ⟨rfl,by rintro W' ⟨u0,u1,u2⟩;have y:=u0.cell;have x:=u1.cell;have hwn:=HWN.out;go_simp⟩) HS.out ?_
    simp only [Act.put,sB,sZ,sS]
    refine hTk (i:=13) (d:=25) (v:= .bool true) rfl rfl (Or.inl ⟨rfl,by rintro W' ⟨u0,u1,u2⟩;have y:=u0.cell;have x:=u1.cell;have hwn:=HWN.out;go_simp⟩) HS.out ?_
    simp only [Act.put,sB,sZ,sS]
    refine hTk (i:=14) (d:=26) (v:= .bool true) rfl rfl (Or.inl ⟨rfl,by rintro W' ⟨u0,u1,u2⟩;have y:=u0.cell;have x:=u1.cell;have hwn:=HWN.out;go_simp⟩) HS.out ?_
    simp only [Act.put,sB,sZ,sS]
    refine hSk 15 27 rfl rfl rfl HS.out ?_
    simp only [Act.put,sB,sZ,sS]
    refine hSk 16 28 rfl rfl rfl HS.out ?_
    simp only [Act.put,sB,sZ,sS]
    refine hSk 17 29 rfl rfl rfl HS.out ?_
    simp only [Act.put,sB,sZ,sS]
    refine hSk 18 30 rfl rfl rfl HS.out ?_
    simp only [Act.put,sB,sZ,sS]
    refine hSk 19 31 rfl rfl rfl HS.out ?_
    simp only [Act.put,sB,sZ,sS]
    refine hSk 20 32 rfl rfl rfl HS.out ?_
    simp only [Act.put,sB,sZ,sS]
    refine hSk 21 33 rfl rfl rfl HS.out ?_
    simp only [Act.put,sB,sZ,sS]
    refine hTk (i:=22) (d:=34) (v:= .bool true) rfl rfl (Or.inl ⟨rfl,by rintro W' ⟨u0,u1,u2⟩;have y:=u0.cell;have x:=u1.cell;have hwn:=HWN.out;go_simp⟩) HS.out ?_
    simp only [Act.put,sB,sZ,sS]
    refine hTk (i:=23) (d:=35) (v:= .bool true) rfl rfl (Or.inl ⟨rfl,by rintro W' ⟨u0,u1,u2⟩;have y:=u0.cell;have x:=u1.cell;have hwn:=HWN.out;go_simp⟩) HS.out ?_
    simp only [Act.put,sB,sZ,sS]
    refine hSk 24 36 rfl rfl rfl HS.out ?_
    simp only [Act.put,sB,sZ,sS]
    refine hSk 25 37 rfl rfl rfl HS.out ?_
    simp only [Act.put,sB,sZ,sS]
    refine hSk 26 38 rfl rfl rfl HS.out ?_
    simp only [Act.put,sB,sZ,sS]
    refine hSk 27 39 rfl rfl rfl HS.out ?_
    simp only [Act.put,sB,sZ,sS]
    refine hTk (i:=28) (d:=40) (v:= .bool true) rfl rfl (Or.inl ⟨rfl,by rintro W' ⟨u0,u1,u2⟩;have y:=u0.cell;have x:=u1.cell;have hwn:=HWN.out;go_simp⟩) HS.out ?_
    simp only [Act.put,sB,sZ,sS]
    refine hTk (i:=29) (d:=41) (v:= .bool true) rfl rfl (Or.inl ⟨rfl,by rintro W' ⟨u0,u1,u2⟩;have y:=u0.cell;have x:=u1.cell;have hwn:=HWN.out;go_simp⟩) HS.out ?_
    simp only [Act.put,sB,sZ,sS]
    refine hSk 30 42 rfl rfl rfl HS.out ?_
    simp only [Act.put,sB,sZ,sS]
    refine hSk 31 43 rfl rfl rfl HS.out ?_
    simp only [Act.put,sB,sZ,sS]
    refine hSk 32 44 rfl rfl rfl HS.out ?_
    simp only [Act.put,sB,sZ,sS]
    refine hSk 33 45 rfl rfl rfl HS.out ?_
    simp only [Act.put,sB,sZ,sS]
    refine hSk 34 46 rfl rfl rfl HS.out ?_
    simp only [Act.put,sB,sZ,sS]
    refine hSk 35 47 rfl rfl rfl HS.out ?_
    simp only [Act.put,sB,sZ,sS]
    refine hTk (i:=36) (d:=48) (v:= .bool true) rfl rfl (Or.inl ⟨rfl,by rintro W' ⟨u0,u1,u2⟩;have y:=u0.cell;have x:=u1.cell;have hwn:=HWN.out;go_simp⟩) HS.out ?_
    simp only [Act.put,sB,sZ,sS]
    refine wpAnyH_done (by kernel_rfl) ?_ _
    have hbf:=HB1.out.trans (hbq.mono HB1.out.size)
    have HBF:=Z hbf
    clear hbq hbf HS
    go_wp2
    go_ret
    exact⟨⟨false,rfl,by simp only [Bool.false_eq_true,false_iff];exact HNO3.out (by first|rfl|trivial)⟩,HBF.out⟩
   | true=>
    refine hTk (i:=12) (d:=24) (v:= .bool false) rfl rfl (Or.inl ⟨rfl,by rintro W' ⟨u0,u1,u2⟩;have y:=u0.cell;have x:=u1.cell;have hwn:=HWN.out;go_simp⟩) HS.out ?_
    simp only [Act.put,sB,sZ,sS]
    refine hTk (i:=13) (d:=25) (v:= .bool false) rfl rfl (Or.inl ⟨rfl,by rintro W' ⟨u0,u1,u2⟩;have y:=u0.cell;have x:=u1.cell;have hwn:=HWN.out;go_simp⟩) HS.out ?_
    simp only [Act.put,sB,sZ,sS]
    refine hTk (i:=14) (d:=26) (v:= .bool false) rfl rfl (Or.inl ⟨rfl,by rintro W' ⟨u0,u1,u2⟩;have y:=u0.cell;have x:=u1.cell;have hwn:=HWN.out;go_simp⟩) HS.out ?_
    simp only [Act.put,sB,sZ,sS]
    refine hTk (i:=15) (d:=27) (v:=O U st) rfl rfl (Or.inl ⟨rfl,by rintro W' ⟨u0,u1,u2⟩;have y:=u0.cell;have x:=u1.cell;have hwn:=HWN.out;go_simp⟩) HS.out ?_
    simp only [Act.put,sB,sZ,sS]
    refine hTk (i:=16) (d:=28) (v:= .pointer (some ⟨B0+1,9,none⟩)) rfl rfl (Or.inl ⟨rfl,by rintro W' ⟨u0,u1,u2⟩;have y:=u0.cell;have x:=u1.cell;have hwn:=HWN.out;go_simp⟩) HS.out ?_
    simp only [Act.put,sB,sZ,sS]
    refine hTk (i:=17) (d:=29) (v:= .slice At nt ct) rfl rfl (Or.inl ⟨rfl,by rintro W' ⟨u0,u1,u2⟩;have y:=u0.cell;have x:=u1.cell;have hwn:=HWN.out;go_simp⟩) HS.out ?_
    simp only [Act.put,sB,sZ,sS]
    refine hTk (i:=18) (d:=30) (v:=O U (nt:Int)) rfl rfl (Or.inl ⟨rfl,by rintro W' ⟨u0,u1,u2⟩;have y:=u0.cell;have x:=u1.cell;have hwn:=HWN.out;go_simp⟩) HS.out ?_
    simp only [Act.put,sB,sZ,sS]
    refine hTk (i:=19) (d:=31) (v:=O U ((nt:Int) - 1)) rfl rfl (Or.inl ⟨rfl,by rintro W' ⟨u0,u1,u2⟩;have y:=u0.cell;have x:=u1.cell;have hwn:=HWN.out;go_simp⟩) HS.out ?_
    simp only [Act.put,sB,sZ,sS]
    refine wpAnyH_ready (rs:= [20]) (by kernel_rfl) (by simp) ?_
    refine AllReadyH.cons rfl (fun K hK=> ?_) AllReadyH.nil
    rw [if_pos (by rfl)]
    go_simp
    go_at_call 42
    (with_reducible refine (HI1.out _ hbq).mono ?_)
    rintro e w5 ⟨rfl,hbn⟩
    replace hbq:=hbq.trans (hbn.mono hbq.size)
    clear hbn
    have HS:=Z (HSK.out _ hbq)
    refine hK.out _ _ HS.out (fun _=> ?_)
    clear hK K
    try simp only [Act.put,sB,sZ,sS]
    cases b4 with
    | false=>
     refine hTk (i:=21) (d:=33) (v:= .bool true) rfl rfl (Or.inl ⟨rfl,by rintro W' ⟨u0,u1,u2⟩;have y:=u0.cell;have x:=u1.cell;have hwn:=HWN.out;go_simp⟩) HS.out ?_
     simp only [Act.put,sB,sZ,sS]
     refine hTk (i:=22) (d:=34) (v:= .bool true) rfl rfl (Or.inl ⟨rfl,by rintro W' ⟨u0,u1,u2⟩;have y:=u0.cell;have x:=u1.cell;have hwn:=HWN.out;go_simp⟩) HS.out ?_
     simp only [Act.put,sB,sZ,sS]
     refine hTk (i:=23) (d:=35) (v:= .bool true) rfl rfl (Or.inl ⟨rfl,by rintro W' ⟨u0,u1,u2⟩;have y:=u0.cell;have x:=u1.cell;have hwn:=HWN.out;go_simp⟩) HS.out ?_
     simp only [Act.put,sB,sZ,sS]
     refine hSk 24 36 rfl rfl rfl HS.out ?_
     simp only [Act.put,sB,sZ,sS]
     refine hSk 25 37 rfl rfl rfl HS.out ?_
     simp only [Act.put,sB,sZ,sS]
     refine hSk 26 38 rfl rfl rfl HS.out ?_
     simp only [Act.put,sB,sZ,sS]
     refine hSk 27 39 rfl rfl rfl HS.out ?_
     simp only [Act.put,sB,sZ,sS]
     refine hTk (i:=28) (d:=40) (v:= .bool true) rfl rfl (Or.inl ⟨rfl,by rintro W' ⟨u0,u1,u2⟩;have y:=u0.cell;have x:=u1.cell;have hwn:=HWN.out;go_simp⟩) HS.out ?_
     simp only [Act.put,sB,sZ,sS]
     refine hTk (i:=29) (d:=41) (v:= .bool true) rfl rfl (Or.inl ⟨rfl,by rintro W' ⟨u0,u1,u2⟩;have y:=u0.cell;have x:=u1.cell;have hwn:=HWN.out;go_simp⟩) HS.out ?_
     simp only [Act.put,sB,sZ,sS]
     refine hSk 30 42 rfl rfl rfl HS.out ?_
     simp only [Act.put,sB,sZ,sS]
     refine hSk 31 43 rfl rfl rfl HS.out ?_
     simp only [Act.put,sB,sZ,sS]
     refine hSk 32 44 rfl rfl rfl HS.out ?_
     simp only [Act.put,sB,sZ,sS]
     refine hSk 33 45 rfl rfl rfl HS.out ?_
     simp only [Act.put,sB,sZ,sS]
     refine hSk 34 46 rfl rfl rfl HS.out ?_
     simp only [Act.put,sB,sZ,sS]
     refine hSk 35 47 rfl rfl rfl HS.out ?_
     simp only [Act.put,sB,sZ,sS]
     refine hTk (i:=36) (d:=48) (v:= .bool true) rfl rfl (Or.inl ⟨rfl,by rintro W' ⟨u0,u1,u2⟩;have y:=u0.cell;have x:=u1.cell;have hwn:=HWN.out;go_simp⟩) HS.out ?_
     simp only [Act.put,sB,sZ,sS]
     refine wpAnyH_done (by kernel_rfl) ?_ _
     have hbf:=HB1.out.trans (hbq.mono HB1.out.size)
     have HBF:=Z hbf
     clear hbq hbf HS
     go_wp2
     go_ret
     exact⟨⟨false,rfl,by simp only [Bool.false_eq_true,false_iff];exact HNO4.out (by first|rfl|trivial)⟩,HBF.out⟩
    | true=>
     refine hTk (i:=21) (d:=33) (v:= .bool false) rfl rfl (Or.inl ⟨rfl,by rintro W' ⟨u0,u1,u2⟩;have y:=u0.cell;have x:=u1.cell;have hwn:=HWN.out;go_simp⟩) HS.out ?_
     simp only [Act.put,sB,sZ,sS]
     refine hTk (i:=22) (d:=34) (v:= .bool false) rfl rfl (Or.inl ⟨rfl,by rintro W' ⟨u0,u1,u2⟩;have y:=u0.cell;have x:=u1.cell;have hwn:=HWN.out;go_simp⟩) HS.out ?_
     simp only [Act.put,sB,sZ,sS]
     refine hTk (i:=23) (d:=35) (v:= .bool false) rfl rfl (Or.inl ⟨rfl,by rintro W' ⟨u0,u1,u2⟩;have y:=u0.cell;have x:=u1.cell;have hwn:=HWN.out;go_simp⟩) HS.out ?_
     simp only [Act.put,sB,sZ,sS]
     refine hTk (i:=24) (d:=36) (v:= .slice As ns cs) rfl rfl (Or.inl ⟨rfl,by rintro W' ⟨u0,u1,u2⟩;have y:=u0.cell;have x:=u1.cell;have hwn:=HWN.out;go_simp⟩) HS.out ?_
     simp only [Act.put,sB,sZ,sS]
     refine hTk (i:=25) (d:=37) (v:=O U (ns:Int)) rfl rfl (Or.inl ⟨rfl,by rintro W' ⟨u0,u1,u2⟩;have y:=u0.cell;have x:=u1.cell;have hwn:=HWN.out;go_simp⟩) HS.out ?_
     simp only [Act.put,sB,sZ,sS]
     refine wpAnyH_ready (rs:= [26]) (by kernel_rfl) (by simp) ?_
     refine AllReadyH.cons rfl (fun K hK=> ?_) AllReadyH.nil
     rw [if_pos (by rfl)]
     go_simp
     go_at_call 42
     (with_reducible refine (HI2.out _ hbq).mono ?_)
     rintro e w6 ⟨rfl,hbn⟩
     replace hbq:=hbq.trans (hbn.mono hbq.size)
     clear hbn
     have HS:=Z (HSK.out _ hbq)
     refine hK.out _ _ HS.out (fun _=> ?_)
     clear hK K
     try simp only [Act.put,sB,sZ,sS]
     cases b5 with
     | false=>
      refine hTk (i:=27) (d:=39) (v:= .bool true) rfl rfl (Or.inl ⟨rfl,by rintro W' ⟨u0,u1,u2⟩;have y:=u0.cell;have x:=u1.cell;have hwn:=HWN.out;go_simp⟩) HS.out ?_
      simp only [Act.put,sB,sZ,sS]
      refine hTk (i:=28) (d:=40) (v:= .bool true) rfl rfl (Or.inl ⟨rfl,by rintro W' ⟨u0,u1,u2⟩;have y:=u0.cell;have x:=u1.cell;have hwn:=HWN.out;go_simp⟩) HS.out ?_
      simp only [Act.put,sB,sZ,sS]
      refine hTk (i:=29) (d:=41) (v:= .bool true) rfl rfl (Or.inl ⟨rfl,by rintro W' ⟨u0,u1,u2⟩;have y:=u0.cell;have x:=u1.cell;have hwn:=HWN.out;go_simp⟩) HS.out ?_
      simp only [Act.put,sB,sZ,sS]
      refine hSk 30 42 rfl rfl rfl HS.out ?_
      simp only [Act.put,sB,sZ,sS]
      refine hSk 31 43 rfl rfl rfl HS.out ?_
      simp only [Act.put,sB,sZ,sS]
      refine hSk 32 44 rfl rfl rfl HS.out ?_
      simp only [Act.put,sB,sZ,sS]
      refine hSk 33 45 rfl rfl rfl HS.out ?_
      simp only [Act.put,sB,sZ,sS]
      refine hSk 34 46 rfl rfl rfl HS.out ?_
      simp only [Act.put,sB,sZ,sS]
      refine hSk 35 47 rfl rfl rfl HS.out ?_
      simp only [Act.put,sB,sZ,sS]
      refine hTk (i:=36) (d:=48) (v:= .bool true) rfl rfl (Or.inl ⟨rfl,by rintro W' ⟨u0,u1,u2⟩;have y:=u0.cell;have x:=u1.cell;have hwn:=HWN.out;go_simp⟩) HS.out ?_
      simp only [Act.put,sB,sZ,sS]
      refine wpAnyH_done (by kernel_rfl) ?_ _
      have hbf:=HB1.out.trans (hbq.mono HB1.out.size)
      have HBF:=Z hbf
      clear hbq hbf HS
      go_wp2
      go_ret
      exact⟨⟨false,rfl,by simp only [Bool.false_eq_true,false_iff];exact HNO5.out (by first|rfl|trivial)⟩,HBF.out⟩
     | true=>
      have hc5:=HC5.out (by first|rfl|trivial)
      obtain⟨bs,os,hAs, -, -⟩:=int_at (HM.out _ hbq).2.2.2 (i:=0) (by have:=HN.out;omega)
      subst hAs
      have HI5:=Z hc5
      have HN5:=Z (show 0<ns from by omega)
      have HN6:=Z (show ¬ns=0 from by omega)
      clear hc5
      refine hTk (i:=27) (d:=39) (v:= .bool false) rfl rfl (Or.inl ⟨rfl,by rintro W' ⟨u0,u1,u2⟩;have y:=u0.cell;have x:=u1.cell;have hwn:=HWN.out;have c0:=u2 _ _ rfl HN5.out;have hfb:=HFB.out;have hn5:=HN5.out;have hn6:=HN6.out;go_simp⟩) HS.out ?_
      simp only [Act.put,sB,sZ,sS]
      refine hTk (i:=28) (d:=40) (v:= .bool false) rfl rfl (Or.inl ⟨rfl,by rintro W' ⟨u0,u1,u2⟩;have y:=u0.cell;have x:=u1.cell;have hwn:=HWN.out;have c0:=u2 _ _ rfl HN5.out;have hfb:=HFB.out;have hn5:=HN5.out;have hn6:=HN6.out;go_simp⟩) HS.out ?_
      simp only [Act.put,sB,sZ,sS]
      refine hTk (i:=29) (d:=41) (v:= .bool false) rfl rfl (Or.inl ⟨rfl,by rintro W' ⟨u0,u1,u2⟩;have y:=u0.cell;have x:=u1.cell;have hwn:=HWN.out;have c0:=u2 _ _ rfl HN5.out;have hfb:=HFB.out;have hn5:=HN5.out;have hn6:=HN6.out;go_simp⟩) HS.out ?_
      simp only [Act.put,sB,sZ,sS]
      refine hTk (i:=30) (d:=42) (v:= .slice (some ⟨bs,os,none⟩) ns cs) rfl rfl (Or.inl ⟨rfl,by rintro W' ⟨u0,u1,u2⟩;have y:=u0.cell;have x:=u1.cell;have hwn:=HWN.out;have c0:=u2 _ _ rfl HN5.out;have hfb:=HFB.out;have hn5:=HN5.out;have hn6:=HN6.out;go_simp⟩) HS.out ?_
      simp only [Act.put,sB,sZ,sS]
      refine hTk (i:=31) (d:=43) (v:= .pointer (some ⟨bs,os,none⟩)) rfl rfl (Or.inl ⟨rfl,by rintro W' ⟨u0,u1,u2⟩;have y:=u0.cell;have x:=u1.cell;have hwn:=HWN.out;have c0:=u2 _ _ rfl HN5.out;have hfb:=HFB.out;have hn5:=HN5.out;have hn6:=HN6.out;go_simp⟩) HS.out ?_
      simp only [Act.put,sB,sZ,sS]
      refine hTk (i:=32) (d:=44) (v:=O U s0) rfl rfl (Or.inl ⟨rfl,by rintro W' ⟨u0,u1,u2⟩;have y:=u0.cell;have x:=u1.cell;have hwn:=HWN.out;have c0:=u2 _ _ rfl HN5.out;have hfb:=HFB.out;have hn5:=HN5.out;have hn6:=HN6.out;go_simp⟩) HS.out ?_
      simp only [Act.put,sB,sZ,sS]
      refine hTk (i:=33) (d:=45) (v:= .pointer (some ⟨B0+1,1,none⟩)) rfl rfl (Or.inl ⟨rfl,by rintro W' ⟨u0,u1,u2⟩;have y:=u0.cell;have x:=u1.cell;have hwn:=HWN.out;have c0:=u2 _ _ rfl HN5.out;have hfb:=HFB.out;have hn5:=HN5.out;have hn6:=HN6.out;go_simp⟩) HS.out ?_
      simp only [Act.put,sB,sZ,sS]
      refine hTk (i:=34) (d:=46) (v:=O U t.len) rfl rfl (Or.inl ⟨rfl,by rintro W' ⟨u0,u1,u2⟩;have y:=u0.cell;have x:=u1.cell;have hwn:=HWN.out;have c0:=u2 _ _ rfl HN5.out;have hfb:=HFB.out;have hn5:=HN5.out;have hn6:=HN6.out;go_simp⟩) HS.out ?_
      simp only [Act.put,sB,sZ,sS]
      refine hTk (i:=35) (d:=47) (v:= .bool fb) rfl rfl (Or.inl ⟨rfl,by rintro W' ⟨u0,u1,u2⟩;have y:=u0.cell;have x:=u1.cell;have hwn:=HWN.out;have c0:=u2 _ _ rfl HN5.out;have hfb:=HFB.out;have hn5:=HN5.out;have hn6:=HN6.out;go_simp⟩) HS.out ?_
      simp only [Act.put,sB,sZ,sS]
      refine hTk (i:=36) (d:=48) (v:= .bool fb) rfl rfl (Or.inl ⟨rfl,by rintro W' ⟨u0,u1,u2⟩;have y:=u0.cell;have x:=u1.cell;have hwn:=HWN.out;have c0:=u2 _ _ rfl HN5.out;have hfb:=HFB.out;have hn5:=HN5.out;have hn6:=HN6.out;go_simp⟩) HS.out ?_
      simp only [Act.put,sB,sZ,sS]
      refine wpAnyH_done (by kernel_rfl) ?_ _
      cases fb with
      | true=>
       have HNX:=Z (HNO6.out (by first|rfl|trivial))
       have hbf:=HB1.out.trans (hbq.mono HB1.out.size)
       have HBF:=Z hbf
       clear hbq hbf HS
       go_wp2
       go_ret
       exact⟨⟨false,rfl,by simp only [Bool.false_eq_true,false_iff];exact HNX.out⟩,HBF.out⟩
      | false=>
       have hbf:=HB1.out.trans (hbq.mono HB1.out.size)
       obtain⟨wc,hwc⟩:∃z,w6=z:=⟨_,rfl⟩
       rw [hwc] at hbq hbf HS ⊢
       have HBQ:=Z hbq;have HBF:=Z hbf
       obtain⟨hv,hw,htr,hst,hcnt,hfst⟩:=(HYES.out (by first|rfl|trivial) (by first|rfl|trivial) (by first|rfl|trivial) (by first|rfl|trivial) (by first|rfl|trivial) (by first|rfl|trivial))
       clear hbq hbf HS hwc
       go_wp2
       go_loopw [11] (fun s11 wr=>∃k:Nat,1≤k∧k≤ns∧s11=O U (k:Int)∧ascN stops k=true∧Below wc.heap.size wc wr) (fun s11 _=>ns - (intOf s11).toNat)
       case atStart=>exact⟨1,by omega,by have:=HI5.out;omega,rfl,by simp [ascN],Below.refl _ _⟩
       case round=>
        obtain⟨k,hk1,hkn,rfl,hasc,hbr⟩:=hrel
        have HBR:=Z hbr;have HAS:=Z hasc
        have hbb:=HBQ.out.trans (hbr.mono HBQ.out.size)
        have HBB:=Z hbb
        by_cases hkk:k<ns
        ·have hki:(k:Int)<(ns:Int):=by omega
         obtain⟨b2,o2,e2,g2,c0⟩:=int_at (HM.out _ hbb).2.2.2 (i:=k) (by have:=HN.out;omega)
         cases e2
         obtain⟨b3,o3,e3,g3,c1⟩:=int_at (HM.out _ hbb).2.2.2 (i:=k - 1) (by have:=HN.out;omega)
         cases e3
         obtain⟨x,hx⟩:∃x,stops[k]'(by have:=HN.out;omega)=x:=⟨_,rfl⟩
         obtain⟨y,hy⟩:∃y,stops[k - 1]'(by have:=HN.out;omega)=y:=⟨_,rfl⟩
         rw [hx] at c0
         rw [hy] at c1
         have hsx:ascN stops (k+1)=decide (y<x):=by
          rw [ascN,hasc,Bool.true_and,List.getD_eq_getElem?_getD,List.getD_eq_getElem?_getD,List.getElem?_eq_getElem (by have:=HN.out;omega),List.getElem?_eq_getElem (by have:=HN.out;omega),hx,hy]
          have:(k == 0)=false:=by rw [beq_eq_false_iff_ne];omega
          rw [this];rfl
         have HAX:=Z hsx
         have hw1:IntKind.i64.wrap ((k:Int) - 1)=(k:Int) - 1:=by rw [IntKind.wrap_i64];omega
         have hk2:(0:Int)≤(k:Int) - 1:=by omega
         have hk3:(k:Int) - 1<(ns:Int):=by omega
         have hk4:((k:Int) - 1).toNat=k - 1:=by omega
         have hk0:(0:Int)≤(k:Int):=by omega
         have HKN:=Z hkk
         clear hx hy hsx hasc hbr hbb hkk
         by_cases hxy:x≤y
         ·have HNX:=Z (show ¬DrOk p l t st stops from fun h=>by
           have h1:=h.stops
           unfold stopsB at h1
           simp only [Bool.and_eq_true] at h1
           have h2:=ascN_pre (k:=k+1) h1.2.1 (by have:=HN.out;have:=HKN.out;omega)
           rw [HAX.out] at h2
           have:=of_decide_eq_true h2
           omega)
          go_upto_region 6 with (fail)
          go_quiet (fail)
          go_wp2
          go_ret
          exact⟨⟨false,rfl,by simp only [Bool.false_eq_true,false_iff];exact HNX.out⟩,bDrewN (HB1.out.trans (HBB.out.mono HB1.out.size)) _⟩
         ·have HXY:=Z (show y<x from by omega)
          go_upto_region 6 with (fail)
          go_quiet (fail)
          go_wp2
          go_roundw
          case rel=>exact⟨k+1,by omega,by have:=HKN.out;omega,by simp,by rw [HAX.out];exact decide_eq_true HXY.out,bDrewN HBR.out _⟩
          case measure=>have:=HKN.out;simp [intOf];omega
        ·have hki:¬(k:Int)<(ns:Int):=by omega
         have hkeq:k=ns:=by omega
         have hc2:=HI5.out
         obtain⟨b2,o2,e2,g2,c0⟩:=int_at (HM.out _ hbb).2.2.2 (i:=ns - 1) (by have:=HN.out;omega)
         cases e2
         obtain⟨x,hx⟩:∃x,stops[ns - 1]'(by have:=HN.out;omega)=x:=⟨_,rfl⟩
         rw [hx] at c0
         have HAL:=Z (show ascN stops stops.length=true from by rw [HN.out,←hkeq];exact hasc)
         obtain⟨rb,hrb⟩:∃b,decide (x≤wlen p (l.map endNo))=b:=⟨_,rfl⟩
         obtain⟨wl,hwl⟩:∃b,wlen p (l.map endNo)=b:=⟨_,rfl⟩
         rw [hwl] at hrb
         have HRB:=Z hrb
         have HIF:=Z (show rb=true ↔ DrOk p l t st stops from by
          rw [←hrb,←hwl,decide_eq_true_iff]
          have hgx:stops.getD (stops.length - 1) 0=x:=by rw [HN.out,List.getD_eq_getElem?_getD,List.getElem?_eq_getElem (by have:=HN.out;omega),hx];rfl
          constructor
          ·intro h
           exact⟨hv,hw,htr,hst,by unfold stopsB;rw [hcnt,HAL.out,hgx,decide_eq_true hfst,decide_eq_true h];rfl⟩
          ·intro h
           have h1:=h.stops
           unfold stopsB at h1
           simp only [Bool.and_eq_true,decide_eq_true_iff] at h1
           rw [hgx] at h1
           exact h1.2.2.2)
         have HWL:=Z (show ∀wx,Below wr.heap.size wr wx→Calls Tryz.prog 37 #[.agg #[.slice A p.nodes.length c,.slice A2 p.rails.length c2],.slice Aw n cw] wx fun e w'=>e= .returned (O U wl)∧Below wx.heap.size wx w' from fun wx h=>by
          obtain⟨k1,k2,_,_⟩:=HM.out wx (HBB.out.trans (h.mono HBB.out.size))
          have:=rWayLength_any A A2 Aw c c2 cw p l wx k1 hv k2 (hw.2.1) (fun j hj=>by have h3:=(hw.2.2 j hj).1;rwa [E1_eq hj] at h3)
          rw [HNW.out,hwl] at this
          exact this)
         have HSK:=Z (show ∀wx,Below wr.heap.size wr wx→Rw wx B0 60 #[.slice A p.nodes.length c,.slice A2 p.rails.length c2]∧wx.cell? ⟨bs,os+(ns - 1),none⟩=some (O U x) from fun wx h=>⟨(HSK.out _ (HBB.out.trans (h.mono HBB.out.size))).1,(h.cell (p:=⟨bs,os+(ns - 1),none⟩) g2).trans c0⟩)
         have HNQ:=Z (show (0:Int)≤(ns:Int) - 1∧(ns:Int) - 1<(ns:Int)∧((ns:Int) - 1).toNat=ns - 1∧¬(ns:Int)<1 from⟨by omega,by omega,by omega,by omega⟩)
         have HWN1:=Z (show IntKind.i64.wrap ((ns:Int) - 1)=(ns:Int) - 1 from by rw [IntKind.wrap_i64];omega)
         clear hasc hbr hbb hkk hkn hkeq c0 hx hrb hwl hk1
         go_upto_region 8 with (fail)
         clear hki
         have hbq:Below wr.heap.size wr wr.drew:=(Below.refl _ _).drew
         have HS:=Z (HSK.out _ hbq)
         refine wp_region_held_drew (S:=fun wx=>Rw wx B0 60 #[.slice A p.nodes.length c,.slice A2 p.rails.length c2]∧wx.cell? ⟨bs,os+(ns - 1),none⟩=some (O U x)) (by kernel_rfl) HS.out (fun _=> ?_)
         refine hTk (i:=0) (d:=65) (v:= .slice (some ⟨bs,os,none⟩) ns cs) rfl rfl (Or.inl ⟨rfl,by rintro W' ⟨u0,u1⟩;have y:=u0.cell;have hw1:=HWN1.out;obtain⟨hq1,hq2,hq3,hq4⟩:=HNQ.out;have hrb:=HRB.out;go_simp⟩) HS.out ?_
         simp only [Act.put,sB,sZ,sS]
         refine hTk (i:=1) (d:=66) (v:= .slice (some ⟨bs,os,none⟩) ns cs) rfl rfl (Or.inl ⟨rfl,by rintro W' ⟨u0,u1⟩;have y:=u0.cell;have hw1:=HWN1.out;obtain⟨hq1,hq2,hq3,hq4⟩:=HNQ.out;have hrb:=HRB.out;go_simp⟩) HS.out ?_
         simp only [Act.put,sB,sZ,sS]
         refine hTk (i:=2) (d:=67) (v:=O U (ns:Int)) rfl rfl (Or.inl ⟨rfl,by rintro W' ⟨u0,u1⟩;have y:=u0.cell;have hw1:=HWN1.out;obtain⟨hq1,hq2,hq3,hq4⟩:=HNQ.out;have hrb:=HRB.out;go_simp⟩) HS.out ?_
         simp only [Act.put,sB,sZ,sS]
         refine hTk (i:=3) (d:=68) (v:=O U ((ns:Int) - 1)) rfl rfl (Or.inl ⟨rfl,by rintro W' ⟨u0,u1⟩;have y:=u0.cell;have hw1:=HWN1.out;obtain⟨hq1,hq2,hq3,hq4⟩:=HNQ.out;have hrb:=HRB.out;go_simp⟩) HS.out ?_
         simp only [Act.put,sB,sZ,sS]
         refine hTk (i:=4) (d:=69) (v:= .pointer (some ⟨bs,os+(ns - 1),none⟩)) rfl rfl (Or.inl ⟨rfl,by rintro W' ⟨u0,u1⟩;have y:=u0.cell;have hw1:=HWN1.out;obtain⟨hq1,hq2,hq3,hq4⟩:=HNQ.out;have hrb:=HRB.out;go_simp⟩) HS.out ?_
         simp only [Act.put,sB,sZ,sS]
         refine hTk (i:=5) (d:=70) (v:=O U x) rfl rfl (Or.inl ⟨rfl,by rintro W' ⟨u0,u1⟩;have y:=u0.cell;have hw1:=HWN1.out;obtain⟨hq1,hq2,hq3,hq4⟩:=HNQ.out;have hrb:=HRB.out;go_simp⟩) HS.out ?_
         simp only [Act.put,sB,sZ,sS]
         refine hTk (i:=6) (d:=71) (v:= .agg #[.slice A p.nodes.length c,.slice A2 p.rails.length c2]) rfl rfl (Or.inl ⟨rfl,by rintro W' ⟨u0,u1⟩;have y:=u0.cell;have hw1:=HWN1.out;obtain⟨hq1,hq2,hq3,hq4⟩:=HNQ.out;have hrb:=HRB.out;go_simp⟩) HS.out ?_
         simp only [Act.put,sB,sZ,sS]
         refine hTk (i:=7) (d:=72) (v:= .slice Aw n cw) rfl rfl (Or.inl ⟨rfl,by rintro W' ⟨u0,u1⟩;have y:=u0.cell;have hw1:=HWN1.out;obtain⟨hq1,hq2,hq3,hq4⟩:=HNQ.out;have hrb:=HRB.out;go_simp⟩) HS.out ?_
         simp only [Act.put,sB,sZ,sS]
         refine wpAnyH_ready (rs:= [8]) (by kernel_rfl) (by simp) ?_
         refine AllReadyH.cons rfl (fun K hK=> ?_) AllReadyH.nil
         rw [if_pos (by rfl)]
         go_simp
         go_at_call 37
         (with_reducible refine (HWL.out _ hbq).mono ?_)
         rintro e w9 ⟨rfl,hbn⟩
         replace hbq:=hbq.trans (hbn.mono hbq.size)
         clear hbn
         have HS:=Z (HSK.out _ hbq)
         refine hK.out _ _ HS.out (fun _=> ?_)
         clear hK K
         try simp only [Act.put,sB,sZ,sS]
         refine hTk (i:=9) (d:=74) (v:= .bool rb) rfl rfl (Or.inl ⟨rfl,by rintro W' ⟨u0,u1⟩;have y:=u0.cell;have hw1:=HWN1.out;obtain⟨hq1,hq2,hq3,hq4⟩:=HNQ.out;have hrb:=HRB.out;go_simp⟩) HS.out ?_
         simp only [Act.put,sB,sZ,sS]
         refine hTk (i:=10) (d:=10) (v:= .bool rb) rfl rfl (Or.inl ⟨rfl,by rintro W' ⟨u0,u1⟩;have y:=u0.cell;have hw1:=HWN1.out;obtain⟨hq1,hq2,hq3,hq4⟩:=HNQ.out;have hrb:=HRB.out;go_simp⟩) HS.out ?_
         simp only [Act.put,sB,sZ,sS]
         refine wpAnyH_done (by kernel_rfl) ?_ _
         have HBZ:=Z (HB1.out.trans ((HBB.out.trans (hbq.mono HBB.out.size)).mono HB1.out.size))
         clear hbq HS
         go_wp2
         go_ret
         exact⟨⟨rb,rfl,HIF.out⟩,HBZ.out⟩
end Go.Proofs.YtfhkbbjddjddmaaGreat
