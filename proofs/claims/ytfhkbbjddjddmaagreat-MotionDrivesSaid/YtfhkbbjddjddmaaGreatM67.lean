/- Law: MotionDrives. -/
import Derived.Test.YtfhkbbjddjddmaaGreatM63
import Derived.Test.YtfhkbbjddjddmaaGreatM64
import Derived.Test.YtfhkbbjddjddmaaGreatM65
import Derived.Test.YtfhkbbjddjddmaaGreatM66
import Derived.Test.YtfhkbbjddjddmaaGreatMj
set_option linter.unusedVariables false
set_option linter.unusedSimpArgs false
open Go.Value renaming int→O
open Go.IntKind renaming i64→U
open Go.Lib renaming hid→Z
namespace Go.Proofs.YtfhkbbjddjddmaaGreat
open Go.RowKit
theorem RfC.of {w:World} {A A2:Option Addr} {c c2:Nat} {p:Pl} {Aw:Option Addr} {cw n:Nat} {l:List E} {t:Tr} {At:Option Addr} {nt ct:Nat} {st:Int} {stops:List Int} (h:DrOk p l t st stops) (hP:PlAt w w.heap.size A c A2 c2 p) (hA:Sl w w.heap.size 2 CE Aw l) (hn:l.length=n) (hG:Sl w w.heap.size 1 CI At t.grip) (hnt:t.grip.length=nt):RfC w A A2 c c2 p Aw cw n l t At nt ct st:=by
 have hi:=inB_iff.1 h.s0
 have h1:=h.way.1;have h2:=h.way.2.1
 exact⟨hP,h.v,hA,hn,by omega,by omega,wayOk_rails h.way,TrOk.of h.tr,hnt,hG,hi.1,by omega⟩
theorem DrOk.stop {p:Pl} {l:List E} {t:Tr} {st:Int} {stops:List Int} (h:DrOk p l t st stops):2≤stops.length∧stops.length≤100∧∀s∈stops,t.len≤s∧s≤3000000000000:=by
 obtain⟨s1,s2,s3,s4⟩:=stopsB_in h.stops
 have:=begAt_bd h.v h.way.2.1 l.length
 rw [begAt_all] at this
 exact⟨s1,s2,fun s hs=>⟨(s3 s hs).1,by have:=(s3 s hs).2;omega⟩⟩
theorem leg_cells {w:World} {B:Nat} {A:Option Addr} {l:List LegP} (h:Sl w B 10 (fun x cs=>cs=fLl x) A l) {i:Nat} (hi:i<l.length):∃b o,A=some ⟨b,o,none⟩∧b<B∧∀j u,(fLl l[i])[j]? = some u→w.cell? ⟨b,o+i * 10+j,none⟩=some u:=by
 obtain⟨b,o,cs,e,hb,rfl,hc⟩:=h.at_ hi
 exact⟨b,o,e,hb,hc⟩
set_option maxRecDepth 100000 in
set_option maxHeartbeats 4000000 in
theorem MotionDrives_any (A A2:Option Addr) (c c2:Nat) (p:Pl) (Aw:Option Addr) (cw n:Nat) (l:List E) (t:Tr) (At:Option Addr) (nt ct:Nat) (st:Int) (As:Option Addr) (ns cs:Nat) (stops:List Int) (w:World) (hP:PlAt w w.heap.size A c A2 c2 p) (hA:Sl w w.heap.size 2 CE Aw l) (hnl:l.length=n) (hn:t.grip.length=nt) (hn2:nt≤140737488351232) (hG:Sl w w.heap.size 1 CI At t.grip) (hns:stops.length=ns) (hnc:ns≤cs) (hS:Sl w w.heap.size 1 CI As stops) :
  Calls Tryz.prog 11 #[.agg #[.slice A p.nodes.length c,.slice A2 p.rails.length c2],.slice Aw n cw,.agg #[O U t.mass,O U t.len,O U t.speed,O U t.effort,O U t.brake,O U t.power,O U t.resist,O U t.rise,O U t.back,.slice At nt ct],O U st,.slice As ns cs] w fun e w'=>e= .returned (.bool true)∧Below w.heap.size w w':=by
 have hb1:=((Below.refl w.heap.size w).alloc (Nat.le_refl _) (.cells #[.slice A p.nodes.length c,.slice A2 p.rails.length c2] 60)).alloc (by simp) (.cells #[O U t.mass,O U t.len,O U t.speed,O U t.effort,O U t.brake,O U t.power,O U t.resist,O U t.rise,O U t.back,.slice At nt ct] 24)
 obtain⟨q1,q2⟩:=rows2 w #[.slice A p.nodes.length c,.slice A2 p.rails.length c2] #[O U t.mass,O U t.len,O U t.speed,O U t.effort,O U t.brake,O U t.power,O U t.resist,O U t.rise,O U t.back,.slice At nt ct] 60 24
 obtain⟨W1,hW1⟩:∃z,(w.alloc (.cells #[.slice A p.nodes.length c,.slice A2 p.rails.length c2] 60)).alloc (.cells #[O U t.mass,O U t.len,O U t.speed,O U t.effort,O U t.brake,O U t.power,O U t.resist,O U t.rise,O U t.back,.slice At nt ct] 24)=z:=⟨_,rfl⟩
 rw [hW1] at hb1 q1 q2
 obtain⟨B,hB⟩:∃n,w.heap.size=n:=⟨_,rfl⟩
 rw [hB] at q1 q2
 have HB1:=Z hb1
 have HX0:=Z (Below.refl W1.heap.size W1)
 have HK:=Z (show ∀wx,Below W1.heap.size W1 wx→Rw wx B 60 #[.slice A p.nodes.length c,.slice A2 p.rails.length c2]∧Rw wx (B+1) 24 #[O U t.mass,O U t.len,O U t.speed,O U t.effort,O U t.brake,O U t.power,O U t.resist,O U t.rise,O U t.back,.slice At nt ct]∧PlAt wx wx.heap.size A c A2 c2 p∧Sl wx wx.heap.size 2 CE Aw l∧Sl wx wx.heap.size 1 CI At t.grip∧Sl wx wx.heap.size 1 CI As stops from fun wx h=>by
  have hb:=hb1.trans (h.mono hb1.size)
  have hz:=Nat.le_trans hb1.size h.size
  exact⟨q1.below h q1.lt,q2.below h q2.lt,(hP.below hb).more hz,(hA.below hb).more (fun _ _ h=>h) hz,(hG.below hb).more (fun _ _ h=>h) hz,(hS.below hb).more (fun _ _ h=>h) hz⟩)
 have HKN:=Z (show ∀wx,Below W1.heap.size W1 wx→Calls Tryz.prog 14 #[] wx fun e w'=>e= .returned (.bool true)∧Below wx.heap.size wx w' from fun wx _=>known_any wx)
 have HNN:=Z (And.intro hnl (And.intro hn hns))
 have HBR:=Z (show ∀wx,Below W1.heap.size W1 wx→Calls Tryz.prog 30 #[.agg #[.slice A p.nodes.length c,.slice A2 p.rails.length c2],.slice Aw n cw,.agg #[O U t.mass,O U t.len,O U t.speed,O U t.effort,O U t.brake,O U t.power,O U t.resist,O U t.rise,O U t.back,.slice At nt ct],.slice As ns cs] wx (BrPost p n ns nt wx) from fun wx h=>brief_any A A2 c c2 p Aw cw n t At nt ct As ns cs stops wx hn hn2 (HK.out wx h).2.2.2.2.1 hns (HK.out wx h).2.2.2.2.2)
 have e:=q1.cell;have f:=q2.cell
 clear hb1 q1 q2 hP hA hG hS hnl hn hns
 go_enter Tryz.func11,Tryz.ntmps11
 go_wp2_with fail
 (with_reducible refine (HBR.out _ HX0.out).mono ?_)
 rintro e w2 ⟨⟨br,rfl,hbi⟩,hb⟩
 have HX1:=Z (HX0.out.trans (hb.mono HX0.out.size))
 have HBI:=Z hbi
 clear hbi
 clear hb
 clear e f
 obtain⟨r1,r2,_⟩:=HK.out _ HX1.out
 have e:=r1.cell;have f:=r2.cell
 clear r1 r2
 clear hW1 hB
 cases br with
 | false=>
  go_wp2_with fail
  (with_reducible refine (HKN.out _ HX1.out).mono ?_)
  rintro e w3 ⟨rfl,hb⟩
  have HX2:=Z (HX1.out.trans (hb.mono HX1.out.size))
  clear hb
  go_wp2
  go_ret
  exact⟨by rfl,HB1.out.trans (HX2.out.mono HB1.out.size)⟩
 | true=>
  obtain⟨hn4,hn8,hn20⟩:=HBI.out rfl
  have HD0:=Z (show ∀wx,Below W1.heap.size W1 wx→Calls Tryz.prog 31 #[.agg #[.slice A p.nodes.length c,.slice A2 p.rails.length c2],.slice Aw n cw,.agg #[O U t.mass,O U t.len,O U t.speed,O U t.effort,O U t.brake,O U t.power,O U t.resist,O U t.rise,O U t.back,.slice At nt ct],O U st,.slice As ns cs] wx (DrPost p l t st stops wx) from fun wx h=>by
   have:=Drive_any A A2 c c2 p Aw cw l t At nt ct st As ns cs stops wx (HK.out wx h).2.2.1 (HK.out wx h).2.2.2.1 (by have:=HNN.out.1;omega) HNN.out.2.1 hn2 (HK.out wx h).2.2.2.2.1 HNN.out.2.2 (by omega) hnc (HK.out wx h).2.2.2.2.2
   rwa [HNN.out.1] at this)
  have HR0:=Z (show ∀wx,Below W1.heap.size W1 wx→Calls Tryz.prog 32 #[.agg #[.slice A p.nodes.length c,.slice A2 p.rails.length c2],.slice Aw n cw,.agg #[O U t.mass,O U t.len,O U t.speed,O U t.effort,O U t.brake,O U t.power,O U t.resist,O U t.rise,O U t.back,.slice At nt ct],O U st,.slice As ns cs] wx (RunPost p l t st stops wx) from fun wx h=>by
   have:=Run_any A A2 c c2 p Aw cw l t At nt ct st As ns cs stops wx (HK.out wx h).2.2.1 (HK.out wx h).2.2.2.1 (by have:=HNN.out.1;omega) HNN.out.2.1 hn2 (HK.out wx h).2.2.2.2.1 HNN.out.2.2 (by omega) hnc (HK.out wx h).2.2.2.2.2
   rwa [HNN.out.1] at this)
  have HS0:=Z (show ∀wx,Below W1.heap.size W1 wx→Calls Tryz.prog 33 #[.agg #[.slice A p.nodes.length c,.slice A2 p.rails.length c2],.slice Aw n cw,.agg #[O U t.mass,O U t.len,O U t.speed,O U t.effort,O U t.brake,O U t.power,O U t.resist,O U t.rise,O U t.back,.slice At nt ct],O U st,.slice As ns cs] wx (RStPost p l t st stops wx) from fun wx h=>
   rStops_any A A2 c c2 p Aw cw n l t At nt ct st As ns cs stops wx (HK.out wx h).2.2.1 (HK.out wx h).2.2.2.1 HNN.out.1 (by omega) HNN.out.2.1 hn2 (HK.out wx h).2.2.2.2.1 HNN.out.2.2 (by omega) (HK.out wx h).2.2.2.2.2)
  by_cases hD:DrOk p l t st stops
  ·have HDK:=Z hD
   have HS1:=Z (show ∀wx,Below W1.heap.size W1 wx→Calls Tryz.prog 33 #[.agg #[.slice A p.nodes.length c,.slice A2 p.rails.length c2],.slice Aw n cw,.agg #[O U t.mass,O U t.len,O U t.speed,O U t.effort,O U t.brake,O U t.power,O U t.resist,O U t.rise,O U t.back,.slice At nt ct],O U st,.slice As ns cs] wx fun e w'=>e= .returned (.bool true)∧Below wx.heap.size wx w' from fun wx h=>(HS0.out wx h).mono (by
    rintro e w' ⟨⟨b,rfl,hb⟩,hbw⟩
    exact⟨by rw [hb.2 HDK.out],hbw⟩))
   have HSL:=Z (show ∀wx,Below W1.heap.size W1 wx→Calls Tryz.prog 34 #[.agg #[.slice A p.nodes.length c,.slice A2 p.rails.length c2],.slice Aw n cw,.agg #[O U t.mass,O U t.len,O U t.speed,O U t.effort,O U t.brake,O U t.power,O U t.resist,O U t.rise,O U t.back,.slice At nt ct],O U st,.slice As ns cs] wx (AnyPost wx) from fun wx h=>by
    have hs:=HDK.out
    have hi:=inB_iff.1 hs.s0
    exact slow_any A A2 c c2 p Aw cw n l t At nt ct st As ns cs wx (HK.out wx h).2.2.1 (HK.out wx h).2.2.2.1 HNN.out.1 (by omega) (wayOk_rails hs.way) (TrOk.of hs.tr) HNN.out.2.1 (HK.out wx h).2.2.2.2.1 hi.1 (by have:=HNN.out.2.1;omega))
   obtain⟨R,hR⟩:∃R,legsR t (adhZ t (gripZ t st)) (slpR p l) (limR p l t) (stops.drop 1) (10 * t.mass * stops.getD 0 0) []=R:=⟨_,rfl⟩
   have HRD:=Z (show ∀wx,Below W1.heap.size W1 wx→Calls Tryz.prog 35 #[.agg #[.slice A p.nodes.length c,.slice A2 p.rails.length c2],.slice Aw n cw,.agg #[O U t.mass,O U t.len,O U t.speed,O U t.effort,O U t.brake,O U t.power,O U t.resist,O U t.rise,O U t.back,.slice At nt ct],O U st,.slice As ns cs] wx (RDPost R wx) from fun wx h=>by
    obtain⟨s1,s2,s3⟩:=HDK.out.stop
    have:=rDrive_any A A2 c c2 p Aw cw n l t At nt ct st As ns cs stops wx (RfC.of HDK.out (HK.out wx h).2.2.1 (HK.out wx h).2.2.2.1 HNN.out.1 (HK.out wx h).2.2.2.2.1 HNN.out.2.1) HNN.out.2.2 (by have:=HNN.out.2.2;omega) (by omega) (HK.out wx h).2.2.2.2.2 s3
    rwa [hR] at this)
   have hdz:drvZ p l t st stops=legsEnd R:=by rw [drvZ_is hD];unfold drvR;rw [hR]
   clear hD hR hn4 hn8 hn20
   cases hz:drvZ p l t st stops with
   | none=>
    have HZ:=Z hz
    have HRE:=Z (hdz.symm.trans hz)
    have HD1:=Z (show ∀wx,Below W1.heap.size W1 wx→Calls Tryz.prog 31 #[.agg #[.slice A p.nodes.length c,.slice A2 p.rails.length c2],.slice Aw n cw,.agg #[O U t.mass,O U t.len,O U t.speed,O U t.effort,O U t.brake,O U t.power,O U t.resist,O U t.rise,O U t.back,.slice At nt ct],O U st,.slice As ns cs] wx fun e w'=>e= .returned (.tuple #[.slice none 0 0,O U 4])∧Below wx.heap.size wx w' from fun wx h=>(HD0.out wx h).mono (by
     rintro e w' ⟨⟨hno,rfl⟩|⟨_,_,rfl⟩|⟨_,L,v,hz2,rfl,_⟩,hbw⟩
     ·exact absurd HDK.out hno
     ·exact⟨rfl,hbw⟩
     ·rw [HZ.out] at hz2;cases hz2))
    have HR1:=Z (show ∀wx,Below W1.heap.size W1 wx→Calls Tryz.prog 32 #[.agg #[.slice A p.nodes.length c,.slice A2 p.rails.length c2],.slice Aw n cw,.agg #[O U t.mass,O U t.len,O U t.speed,O U t.effort,O U t.brake,O U t.power,O U t.resist,O U t.rise,O U t.back,.slice At nt ct],O U st,.slice As ns cs] wx fun e w'=>e= .returned (.tuple #[.slice none 0 0,O U 4])∧Below wx.heap.size wx w' from fun wx h=>(HR0.out wx h).mono (by
     rintro e w' ⟨⟨hno,rfl⟩|⟨_,_,rfl⟩|⟨_,L,v,hz2,rfl,_⟩,hbw⟩
     ·exact absurd HDK.out hno
     ·exact⟨rfl,hbw⟩
     ·rw [HZ.out] at hz2;cases hz2))
    have HRD1:=Z (show ∀wx,Below W1.heap.size W1 wx→Calls Tryz.prog 35 #[.agg #[.slice A p.nodes.length c,.slice A2 p.rails.length c2],.slice Aw n cw,.agg #[O U t.mass,O U t.len,O U t.speed,O U t.effort,O U t.brake,O U t.power,O U t.resist,O U t.rise,O U t.back,.slice At nt ct],O U st,.slice As ns cs] wx fun e w'=>(∃v,e= .returned (.tuple #[v,.bool false]))∧Below wx.heap.size wx w' from fun wx h=>(HRD.out wx h).mono (by
     rintro e w' ⟨⟨_,rfl⟩|⟨L,y,v,hr,rfl,_⟩,hbw⟩
     ·exact⟨⟨_,rfl⟩,hbw⟩
     ·have h1:=HRE.out
      rw [hr,legsEnd] at h1
      simp only at h1
      split at h1
      ·cases h1
      ·rename_i hy
       exact⟨⟨v,by rw [decide_eq_false hy]⟩,hbw⟩))
    clear hz hdz
    go_wp2_with fail
    (with_reducible refine (HD1.out _ HX1.out).mono ?_)
    rintro e w3 ⟨rfl,hb⟩
    have HX2:=Z (HX1.out.trans (hb.mono HX1.out.size))
    clear hb
    clear e f
    obtain⟨r1,r2,_⟩:=HK.out _ HX2.out
    have e:=r1.cell;have f:=r2.cell
    clear r1 r2
    go_wp2_with fail
    (with_reducible refine (HR1.out _ HX2.out).mono ?_)
    rintro e w4 ⟨rfl,hb⟩
    have HX3:=Z (HX2.out.trans (hb.mono HX2.out.size))
    clear hb
    clear e f
    obtain⟨r1,r2,_⟩:=HK.out _ HX3.out
    have e:=r1.cell;have f:=r2.cell
    clear r1 r2
    go_wp2_with fail
    (with_reducible refine (HS1.out _ HX3.out).mono ?_)
    rintro e w5 ⟨rfl,hb⟩
    have HX4:=Z (HX3.out.trans (hb.mono HX3.out.size))
    clear hb
    clear e f
    obtain⟨r1,r2,_⟩:=HK.out _ HX4.out
    have e:=r1.cell;have f:=r2.cell
    clear r1 r2
    go_wp2_with fail
    (with_reducible refine (HSL.out _ HX4.out).mono ?_)
    rintro e w6 ⟨⟨sb,rfl⟩,hb⟩
    have HX5:=Z (HX4.out.trans (hb.mono HX4.out.size))
    clear hb
    clear e f
    obtain⟨r1,r2,_⟩:=HK.out _ HX5.out
    have e:=r1.cell;have f:=r2.cell
    clear r1 r2
    cases sb with
    | true=>
     go_wp2_with fail
     (with_reducible refine (HKN.out _ HX5.out).mono ?_)
     rintro e w7 ⟨rfl,hb⟩
     have HX6:=Z (HX5.out.trans (hb.mono HX5.out.size))
     clear hb
     go_wp2
     go_ret
     exact⟨by rfl,HB1.out.trans (HX6.out.mono HB1.out.size)⟩
    | false=>
     go_wp2_with fail
     (with_reducible refine (HRD1.out _ HX5.out).mono ?_)
     rintro e w7 ⟨⟨v,rfl⟩,hb⟩
     have HX6:=Z (HX5.out.trans (hb.mono HX5.out.size))
     clear hb
     clear e f
     obtain⟨r1,r2,_⟩:=HK.out _ HX6.out
     have e:=r1.cell;have f:=r2.cell
     clear r1 r2
     go_wp2_with fail
     (with_reducible refine (HKN.out _ HX6.out).mono ?_)
     rintro e w8 ⟨rfl,hb⟩
     have HX7:=Z (HX6.out.trans (hb.mono HX6.out.size))
     clear hb
     go_wp2
     go_ret
     exact⟨by rfl,HB1.out.trans (HX7.out.mono HB1.out.size)⟩
   | some L=>
    have HZ:=Z hz
    have HRE:=Z (hdz.symm.trans hz)
    have HD1:=Z (show ∀wx,Below W1.heap.size W1 wx→Calls Tryz.prog 31 #[.agg #[.slice A p.nodes.length c,.slice A2 p.rails.length c2],.slice Aw n cw,.agg #[O U t.mass,O U t.len,O U t.speed,O U t.effort,O U t.brake,O U t.power,O U t.resist,O U t.rise,O U t.back,.slice At nt ct],O U st,.slice As ns cs] wx fun e w'=>∃Al cl,e= .returned (.tuple #[.slice Al L.length cl,O U 0])∧Sl w' w'.heap.size 10 (fun x cs=>cs=fLl x) Al L∧Below wx.heap.size wx w' from fun wx h=>(HD0.out wx h).mono (by
     rintro e w' ⟨⟨hno,rfl⟩|⟨_,hz2,rfl⟩|⟨_,L2,v,hz2,rfl,ho⟩,hbw⟩
     ·exact absurd HDK.out hno
     ·rw [HZ.out] at hz2;cases hz2
     ·rw [HZ.out] at hz2
      obtain rfl:=Option.some.inj hz2
      obtain⟨Al,cl,rfl,_,hsl⟩:=Sl.of_own fLl_len ho
      exact⟨Al,cl,rfl,hsl,hbw⟩))
    have HR1:=Z (show ∀wx,Below W1.heap.size W1 wx→Calls Tryz.prog 32 #[.agg #[.slice A p.nodes.length c,.slice A2 p.rails.length c2],.slice Aw n cw,.agg #[O U t.mass,O U t.len,O U t.speed,O U t.effort,O U t.brake,O U t.power,O U t.resist,O U t.rise,O U t.back,.slice At nt ct],O U st,.slice As ns cs] wx fun e w'=>∃Ar cr,e= .returned (.tuple #[.slice Ar L.length cr,O U 0])∧Sl w' w'.heap.size 1 CI Ar (L.map (·.millis))∧Below wx.heap.size wx w' from fun wx h=>(HR0.out wx h).mono (by
     rintro e w' ⟨⟨hno,rfl⟩|⟨_,hz2,rfl⟩|⟨_,L2,v,hz2,rfl,ho⟩,hbw⟩
     ·exact absurd HDK.out hno
     ·rw [HZ.out] at hz2;cases hz2
     ·rw [HZ.out] at hz2
      obtain rfl:=Option.some.inj hz2
      obtain⟨Al,cl,rfl,_,hsl⟩:=Sl.of_own fI_len ho
      rw [List.length_map]
      exact⟨Al,cl,rfl,hsl.more (fun _ _ h=>h) (Nat.le_refl _),hbw⟩))
    have HRD1:=Z (show ∀wx,Below W1.heap.size W1 wx→Calls Tryz.prog 35 #[.agg #[.slice A p.nodes.length c,.slice A2 p.rails.length c2],.slice Aw n cw,.agg #[O U t.mass,O U t.len,O U t.speed,O U t.effort,O U t.brake,O U t.power,O U t.resist,O U t.rise,O U t.back,.slice At nt ct],O U st,.slice As ns cs] wx fun e w'=>∃Ae ce,e= .returned (.tuple #[.slice Ae L.length ce,.bool true])∧Sl w' w'.heap.size 10 (fun x cs=>cs=fLl x) Ae L∧Below wx.heap.size wx w' from fun wx h=>(HRD.out wx h).mono (by
     rintro e w' ⟨⟨hr,rfl⟩|⟨L2,y,v,hr,rfl,ho⟩,hbw⟩
     ·have h1:=HRE.out
      rw [hr] at h1;cases h1
     ·have h1:=HRE.out
      rw [hr,legsEnd] at h1
      simp only at h1
      split at h1
      ·rename_i hy
       obtain rfl:=Option.some.inj h1
       obtain⟨Al,cl,rfl,_,hsl⟩:=Sl.of_own fLl_len ho
       exact⟨Al,cl,by rw [decide_eq_true hy],hsl,hbw⟩
      ·cases h1))
    have HLL:=Z (show L.length≤100 from by have:=drvZ_len hz;have:=HDK.out.stop.2.1;omega)
    clear hz hdz
    go_wp2_with fail
    (with_reducible refine (HD1.out _ HX1.out).mono ?_)
    rintro e w3 ⟨Al,cl,rfl,hsl,hb⟩
    have HX2:=Z (HX1.out.trans (hb.mono HX1.out.size))
    have HLA:=Z hsl
    clear hsl
    have HWA:=Z (show w3.heap.size=w3.heap.size from rfl)
    obtain⟨wA,hwA⟩:∃z,w3=z:=⟨_,rfl⟩
    rw [hwA] at HLA
    have HYA_2:=Z (show Below wA.heap.size wA w3 from by rw [hwA];exact Below.refl _ _)
    clear hwA HWA
    clear hb
    clear e f
    obtain⟨r1,r2,_⟩:=HK.out _ HX2.out
    have e:=r1.cell;have f:=r2.cell
    clear r1 r2
    go_wp2_with fail
    (with_reducible refine (HR1.out _ HX2.out).mono ?_)
    rintro e w4 ⟨Ar,cr,rfl,hsl,hb⟩
    have HX3:=Z (HX2.out.trans (hb.mono HX2.out.size))
    have HYA_3:=Z (HYA_2.out.trans (hb.mono HYA_2.out.size))
    have HLR:=Z hsl
    obtain⟨wR,hwR⟩:∃z,w4=z:=⟨_,rfl⟩
    rw [hwR] at HLR
    have HYR_3:=Z (show Below wR.heap.size wR w4 from by rw [hwR];exact Below.refl _ _)
    clear hwR hsl
    clear hb
    clear e f
    obtain⟨r1,r2,_⟩:=HK.out _ HX3.out
    have e:=r1.cell;have f:=r2.cell
    clear r1 r2
    go_wp2_with fail
    (with_reducible refine (HS1.out _ HX3.out).mono ?_)
    rintro e w5 ⟨rfl,hb⟩
    have HX4:=Z (HX3.out.trans (hb.mono HX3.out.size))
    have HYA_4:=Z (HYA_3.out.trans (hb.mono HYA_3.out.size))
    have HYR_4:=Z (HYR_3.out.trans (hb.mono HYR_3.out.size))
    clear hb
    clear e f
    obtain⟨r1,r2,_⟩:=HK.out _ HX4.out
    have e:=r1.cell;have f:=r2.cell
    clear r1 r2
    go_wp2_with fail
    (with_reducible refine (HSL.out _ HX4.out).mono ?_)
    rintro e w6 ⟨⟨sb,rfl⟩,hb⟩
    have HX5:=Z (HX4.out.trans (hb.mono HX4.out.size))
    have HYA_5:=Z (HYA_4.out.trans (hb.mono HYA_4.out.size))
    have HYR_5:=Z (HYR_4.out.trans (hb.mono HYR_4.out.size))
    clear hb
    clear e f
    obtain⟨r1,r2,_⟩:=HK.out _ HX5.out
    have e:=r1.cell;have f:=r2.cell
    clear r1 r2
    cases sb with
    | true=>
     go_wp2_with fail
     (with_reducible refine (HKN.out _ HX5.out).mono ?_)
     rintro e w7 ⟨rfl,hb⟩
     have HX6:=Z (HX5.out.trans (hb.mono HX5.out.size))
     clear hb
     go_wp2
     go_ret
     exact⟨by rfl,HB1.out.trans (HX6.out.mono HB1.out.size)⟩
    | false=>
     go_wp2_with fail
     (with_reducible refine (HRD1.out _ HX5.out).mono ?_)
     rintro e w7 ⟨Ae,ce,rfl,hsl,hb⟩
     have HX6:=Z (HX5.out.trans (hb.mono HX5.out.size))
     have HYA_6:=Z (HYA_5.out.trans (hb.mono HYA_5.out.size))
     have HYR_6:=Z (HYR_5.out.trans (hb.mono HYR_5.out.size))
     have HLE:=Z hsl
     clear hsl
     clear hb
     clear e f
     obtain⟨r1,r2,_⟩:=HK.out _ HX6.out
     have e:=r1.cell;have f:=r2.cell
     clear r1 r2
     have HLL2:=HLL.out
     go_wp2
     go_loopw [17] (fun s17 wr=>∃k:Nat,k≤L.length∧s17=O U (k:Int)∧Below w7.heap.size w7 wr) (fun s17 _=>L.length - (intOf s17).toNat)
     case atStart=>exact⟨0,Nat.zero_le _,rfl,Below.refl _ _⟩
     case round=>
      obtain⟨k,hk,rfl,hbr⟩:=hrel
      have HBR:=Z hbr
      by_cases hkn:k<L.length
      ·have hki:(k:Int)<(L.length:Int):=by omega
       have hk0:(0:Int)≤(k:Int):=by omega
       obtain⟨b1,o1,e1,_,hc1⟩:=leg_cells (HLA.out.below (HYA_6.out.trans (hbr.mono HYA_6.out.size))) hkn
       obtain⟨b2,o2,e2,_,hc2⟩:=leg_cells (HLE.out.below hbr) hkn
       obtain⟨b3,o3,e3,_,c0⟩:=int_at (HLR.out.below (HYR_6.out.trans (hbr.mono HYR_6.out.size))) (i:=k) (by rw [List.length_map];exact hkn)
       subst e1;subst e2;subst e3
       rw [List.getElem_map] at c0
       obtain⟨x,hx⟩:∃x,L[k]=x:=⟨_,rfl⟩
       rw [hx] at c0 hc1 hc2
       have f0:=hc1 0 _ rfl;have g0:=hc2 0 _ rfl;have f1:=hc1 1 _ rfl;have g1:=hc2 1 _ rfl;have f2:=hc1 2 _ rfl;have g2:=hc2 2 _ rfl;have f3:=hc1 3 _ rfl;have g3:=hc2 3 _ rfl;have f4:=hc1 4 _ rfl;have g4:=hc2 4 _ rfl;have f5:=hc1 5 _ rfl;have g5:=hc2 5 _ rfl;have f6:=hc1 6 _ rfl;have g6:=hc2 6 _ rfl;have f7:=hc1 7 _ rfl;have g7:=hc2 7 _ rfl;have f8:=hc1 8 _ rfl;have g8:=hc2 8 _ rfl;have f9:=hc1 9 _ rfl;have g9:=hc2 9 _ rfl
       simp only [Nat.add_zero] at f0 g0
       have HKN:=Z hkn
       clear hc1 hc2 hx hbr hkn
       go_upto_region 17 with (fail)
       go_quiet (fail)
       go_wp2
       go_roundw
       case rel=>exact⟨k+1,by have:=HKN.out;omega,by simp,bDrewN HBR.out _⟩
       case measure=>have:=HKN.out;simp [intOf];omega
      ·have hki:¬(k:Int)<(L.length:Int):=by omega
       have HX99:=Z (HX6.out.trans (hbr.mono HX6.out.size))
       clear hbr hkn
       go_wp2_with fail
       (with_reducible refine (HKN.out _ HX99.out).mono ?_)
       rintro e w99 ⟨rfl,hb⟩
       have HX100:=Z (HX99.out.trans (hb.mono HX99.out.size))
       clear hb
       go_wp2
       go_ret
       exact⟨by rfl,HB1.out.trans (HX100.out.mono HB1.out.size)⟩
  ·have HDK:=Z hD
   have HS1:=Z (show ∀wx,Below W1.heap.size W1 wx→Calls Tryz.prog 33 #[.agg #[.slice A p.nodes.length c,.slice A2 p.rails.length c2],.slice Aw n cw,.agg #[O U t.mass,O U t.len,O U t.speed,O U t.effort,O U t.brake,O U t.power,O U t.resist,O U t.rise,O U t.back,.slice At nt ct],O U st,.slice As ns cs] wx fun e w'=>e= .returned (.bool false)∧Below wx.heap.size wx w' from fun wx h=>(HS0.out wx h).mono (by
    rintro e w' ⟨⟨b,rfl,hb⟩,hbw⟩
    exact⟨by rw [show b=false from by cases b with|false=>rfl|true=>exact absurd (hb.1 rfl) HDK.out],hbw⟩))
   have HD1:=Z (show ∀wx,Below W1.heap.size W1 wx→Calls Tryz.prog 31 #[.agg #[.slice A p.nodes.length c,.slice A2 p.rails.length c2],.slice Aw n cw,.agg #[O U t.mass,O U t.len,O U t.speed,O U t.effort,O U t.brake,O U t.power,O U t.resist,O U t.rise,O U t.back,.slice At nt ct],O U st,.slice As ns cs] wx fun e w'=>e= .returned (.tuple #[.slice none 0 0,O U 2])∧Below wx.heap.size wx w' from fun wx h=>(HD0.out wx h).mono (by
    rintro e w' ⟨⟨_,rfl⟩|⟨hok,_,_⟩|⟨hok,_⟩,hbw⟩
    ·exact⟨rfl,hbw⟩
    ·exact absurd hok HDK.out
    ·exact absurd hok HDK.out))
   have HR1:=Z (show ∀wx,Below W1.heap.size W1 wx→Calls Tryz.prog 32 #[.agg #[.slice A p.nodes.length c,.slice A2 p.rails.length c2],.slice Aw n cw,.agg #[O U t.mass,O U t.len,O U t.speed,O U t.effort,O U t.brake,O U t.power,O U t.resist,O U t.rise,O U t.back,.slice At nt ct],O U st,.slice As ns cs] wx fun e w'=>e= .returned (.tuple #[.slice none 0 0,O U 2])∧Below wx.heap.size wx w' from fun wx h=>(HR0.out wx h).mono (by
    rintro e w' ⟨⟨_,rfl⟩|⟨hok,_,_⟩|⟨hok,_⟩,hbw⟩
    ·exact⟨rfl,hbw⟩
    ·exact absurd hok HDK.out
    ·exact absurd hok HDK.out))
   clear hD hn4 hn8 hn20
   go_wp2_with fail
   (with_reducible refine (HD1.out _ HX1.out).mono ?_)
   rintro e w3 ⟨rfl,hb⟩
   have HX2:=Z (HX1.out.trans (hb.mono HX1.out.size))
   clear hb
   clear e f
   obtain⟨r1,r2,_⟩:=HK.out _ HX2.out
   have e:=r1.cell;have f:=r2.cell
   clear r1 r2
   go_wp2_with fail
   (with_reducible refine (HR1.out _ HX2.out).mono ?_)
   rintro e w4 ⟨rfl,hb⟩
   have HX3:=Z (HX2.out.trans (hb.mono HX2.out.size))
   clear hb
   clear e f
   obtain⟨r1,r2,_⟩:=HK.out _ HX3.out
   have e:=r1.cell;have f:=r2.cell
   clear r1 r2
   go_wp2_with fail
   (with_reducible refine (HS1.out _ HX3.out).mono ?_)
   rintro e w5 ⟨rfl,hb⟩
   have HX4:=Z (HX3.out.trans (hb.mono HX3.out.size))
   clear hb
   clear e f
   obtain⟨r1,r2,_⟩:=HK.out _ HX4.out
   have e:=r1.cell;have f:=r2.cell
   clear r1 r2
   go_wp2_with fail
   (with_reducible refine (HKN.out _ HX4.out).mono ?_)
   rintro e w6 ⟨rfl,hb⟩
   have HX5:=Z (HX4.out.trans (hb.mono HX4.out.size))
   clear hb
   go_wp2
   go_ret
   exact⟨by rfl,HB1.out.trans (HX5.out.mono HB1.out.size)⟩
end Go.Proofs.YtfhkbbjddjddmaaGreat
