/- Texts M38 M39. -/
import Derived.Test.YtfhkbbjddjddmaaGreatMh
import Derived.Test.YtfhkbbjddjddmaaGreatM34
set_option linter.unusedVariables false
set_option linter.unusedSimpArgs false
open Go.Value renaming int→O
open Go.IntKind renaming i64→U
open Go.Lib renaming hid→Z
namespace Go.Proofs.YtfhkbbjddjddmaaGreat
open Go.RowKit
def WLPost (p:Pl) (l:List E) (w:World) (e:Ending) (w':World):Prop:=
  ((Vld p∧wayOk p l∧e= .returned (.tuple #[O U (wlen p (l.map endNo)),O U 0]))∨(¬(Vld p∧wayOk p l)∧e= .returned (.tuple #[O U 0,O U 2])))∧Below w.heap.size w w'
set_option maxRecDepth 100000 in
set_option maxHeartbeats 1000000 in
theorem WayLength_any (A0 A20 A:Option Addr) (c0 c20 c:Nat) (p:Pl) (l:List E) (w:World) (hP:PlAt w w.heap.size A0 c0 A20 c20 p) (hA:Sl w w.heap.size 2 CE A l) (hl:l.length≤140737488351232) :
    Calls Tryz.prog 36 #[.agg #[.slice A0 p.nodes.length c0,.slice A20 p.rails.length c20],.slice A l.length c] w (WLPost p l w):=by
  have HP:=Z (hP.box (.cells #[.slice A0 p.nodes.length c0,.slice A20 p.rails.length c20] 60))
  have hB0:=(Below.refl w.heap.size w).alloc (Nat.le_refl _) (.cells #[.slice A0 p.nodes.length c0,.slice A20 p.rails.length c20] 60)
  have HA:=Z ((hA.below hB0).more (fun _ _ h=>h) hB0.size)
  have HB0:=Z hB0
  clear hP hA hB0
  go_enter Tryz.func36,Tryz.ntmps36
  go_wp2_with fail
  refine (surveyWay_any A0 A20 A c0 c20 c p l _ HP.out HA.out hl).mono ?_
  rintro e w1 ⟨⟨hv,hw,g,v,rfl,hN,ho⟩|⟨hw,x,rfl⟩,hb⟩
  · have HV:=Z hv;have HW:=Z hw;have HN:=Z hN
    have HB:=Z (HB0.out.trans (hb.mono (by simp)))
    have hl2:(l.map endNo).length≤100000:=by have:=hw.2.1;simp;omega
    have hR:∀x∈l.map endNo,0≤x∧x<2 * (p.rails.length:Int):=fun x hx=>by
      obtain⟨m,hm,rfl⟩:=List.mem_map.1 hx
      obtain⟨j,hj,rfl⟩:=List.getElem_of_mem hm
      have h3:=(hw.2.2 j hj).1
      rw [E1_eq hj] at h3
      have h4:=key_lt h3
      omega
    have HW2:=Z (show Vld p∧wayOk p l from⟨hv,hw⟩)
    obtain⟨q,hq⟩:∃q,l.map endNo=q:=⟨_,rfl⟩
    rw [hq] at ho hl2 hR
    obtain⟨B,d,rfl,_,_,_⟩:=ho.form
    have HS:=Z ((fI_CI (ho.sl fI_len rfl)).keep (w':=w1) (fun _ _ h=>h) fun _ _=>rfl)
    have HR:=Z hR
    have HQ:=Z hq
    clear hv hw hN hb ho hR hq
    go_wp2_with fail
    refine (wayLength_any _ g p B q d _ HN.out HS.out hl2 HR.out).mono ?_
    rintro e w2 ⟨rfl,rfl⟩
    go_wp2
    go_ret2
    exact⟨.inl ⟨HV.out,HW.out,by rw [HQ.out];rfl⟩,HB.out⟩
  · have HW:=Z hw
    have HB:=Z (HB0.out.trans (hb.mono (by simp)))
    clear hw hb
    go_wp2
    go_ret2
    exact⟨.inr ⟨HW.out,rfl⟩,HB.out⟩
theorem begAt_all (p:Pl) (l:List E):begAt p l l.length=wlen p (l.map endNo):=by unfold begAt;rw [List.take_length]
theorem wayOk_rails {p:Pl} {l:List E} (h:wayOk p l):∀e∈l,0≤e.rail∧e.rail<(p.rails.length:Int):=fun e he=>by
  obtain⟨j,hj,rfl⟩:=List.getElem_of_mem he
  have h3:=(h.2.2 j hj).1
  rw [E1_eq hj] at h3
  exact of_decide_eq_true h3
theorem slpE_bd {p:Pl} (hV:Vld p) (e:E): -120≤slpE p e∧slpE p e≤120:=by
  have h: -120≤((p.rails[e.rail.toNat]?).map (·.slope)).getD 0∧((p.rails[e.rail.toNat]?).map (·.slope)).getD 0≤120:=by
    by_cases hk:e.rail.toNat<p.rails.length
    · obtain⟨_,_,_,_,_,_,_,f1,f2⟩:=rail_facts hV hk
      rw [List.getElem?_eq_getElem hk]
      exact⟨f1,f2⟩
    · rw [List.getElem?_eq_none (by omega)];simp
  unfold slpE
  split <;> omega
theorem limAt_bd {p:Pl} (hV:Vld p) (l:List E) (i:Nat):0≤limAt p l i:=by
  unfold limAt
  by_cases hk:(((l[i]?).getD E0).rail).toNat<p.rails.length
  · obtain⟨_,_,_,_,_,f1,_,_,_⟩:=rail_facts hV hk
    rw [List.getElem?_eq_getElem hk]
    show 0≤p.rails[(((l[i]?).getD E0).rail).toNat].limit
    omega
  · rw [List.getElem?_eq_none (by omega)];simp
theorem limGo_bd {p:Pl} (hV:Vld p) (l:List E) (bs:List Int) (x:Int):∀(f i:Nat) (s:Int),0≤s→0≤limGo p l bs x f i s∧limGo p l bs x f i s≤s:=by
  intro f
  induction f with
  | zero=>intro i s h;exact⟨h,Int.le_refl _⟩
  | succ f ih=>
    intro i s h
    rw [limGo]
    split
    · have hl:=limAt_bd hV l i
      have:=ih (i+1) (min s (limAt p l i)) (by omega)
      omega
    · exact⟨h,Int.le_refl _⟩
theorem znsGo_ok {p:Pl} (hV:Vld p) (l:List E) (bs:List Int) (len last sp:Int) (h0:0≤sp) (h1:sp≤25000):∀(xs:List Int) (r f:Nat) (acc:List Zn),(∀x∈xs, -1000000000≤x∧x≤3000000000000)→
    (∀g∈acc,(-1000000000≤g.fr∧g.fr≤3000000000000)∧(-120≤g.sl∧g.sl≤120)∧0≤g.lim∧g.lim≤1000000000)→
    (∀g∈znsGo p l bs len last sp xs r f acc,(-1000000000≤g.fr∧g.fr≤3000000000000)∧(-120≤g.sl∧g.sl≤120)∧0≤g.lim∧g.lim≤1000000000)∧(znsGo p l bs len last sp xs r f acc).length≤acc.length+xs.length∧acc.length≤(znsGo p l bs len last sp xs r f acc).length:=by
  intro xs
  induction xs with
  | nil=>intro r f acc _ h;exact⟨h,by simp [znsGo],by simp [znsGo]⟩
  | cons x xs ih=>
    intro r f acc hx h
    rw [znsGo]
    split
    · exact⟨h,by simp,by simp⟩
    · have hl:=limGo_bd hV l bs x l.length (advR bs (x - len) l.length r) sp h0
      have hs:=slpE_bd hV ((l[advF bs l.length x l.length f]?).getD E0)
      have hxx:=hx x (by simp)
      have:=ih (advR bs (x - len) l.length r) (advF bs l.length x l.length f) (acc ++ [znAt p l bs sp x (advR bs (x - len) l.length r) (advF bs l.length x l.length f)]) (fun y hy=>hx y (by simp [hy])) (fun g hg=>by
        rcases List.mem_append.1 hg with hg|hg
        · exact h g hg
        · obtain rfl:=List.mem_singleton.1 hg
          exact⟨hxx,hs,hl.1,by show limGo p l bs x l.length _ sp≤1000000000;omega⟩)
      obtain⟨a1,a2,a3⟩:=this
      rw [List.length_append] at a2 a3
      simp only [List.length_cons,List.length_nil] at a2 a3 ⊢
      exact⟨a1,by omega,by omega⟩
theorem zonesZ_ok {p:Pl} (hV:Vld p) {l:List E} (hl:l.length≤2000) {t:Tr} (ht:TrOk t) (last:Int):ZsOk (zonesZ p l t last):=by
  have hs1:=ht.k1
  have h:=znsGo_ok hV l (begTo p l l.length) t.len last t.speed (by have:=ht.v1;omega) (by have:=ht.v2;omega) (bordS t.len (begTo p l l.length)) 0 0 [] (fun x hx=>by
    obtain⟨b,hb,hh⟩:=bordS_mem hx
    obtain⟨i,hi,rfl⟩:=List.getElem_of_mem hb
    rw [begTo_get] at hh
    have:=begAt_bd hV hl i
    have:=ht.l1;have:=ht.l2
    omega) (by simp)
  have hn:=bordS_len t.len (begTo p l l.length)
  rw [begTo_len] at hn
  refine⟨fun g hg=>(h.1 g hg).1,fun g hg=>(h.1 g hg).2.1,fun g hg=>(h.1 g hg).2.2, ?_⟩
  have h2:=h.2.1
  simp only [List.length_nil] at h2
  unfold zonesZ
  omega
theorem compact_head {x:Int} {l:List Int}:∃l',Lib.compact (x :: l)=x :: l':=by
  unfold Lib.compact Lib.compactUpTo
  rw [List.length_cons,List.range_succ_eq_map,List.filter_cons]
  have h:Lib.keeps (x :: l).toArray 0=true:=Lib.keeps_lt_one _ 0 (by omega)
  rw [if_pos h,List.map_cons]
  exact⟨_,by congr 1⟩
theorem zonesZ_pos {p:Pl} {l:List E} {t:Tr} {last:Int} (hla:0≤last):0<(zonesZ p l t last).length:=by
  have h0:(0:Int)∈bord t.len (begTo p l l.length):=by
    unfold bord
    refine List.mem_flatMap.2 ⟨begAt p l 0, ?_,by simp [begAt_zero]⟩
    unfold begTo
    exact List.mem_map.2 ⟨0,by simp,rfl⟩
  have hm:=(List.mem_mergeSort (le:=fun x y=>decide (x≤y))).2 h0
  have hp:=List.pairwise_mergeSort (le:=fun (x y:Int)=>decide (x≤y)) (fun a b c h1 h2=>by simp at *;omega) (fun a b=>by simp;omega) (bord t.len (begTo p l l.length))
  unfold zonesZ bordS
  generalize (bord t.len (begTo p l l.length)).mergeSort (fun x y=>decide (x≤y))=ms at hm hp
  cases ms with
  | nil=>simp at hm
  | cons x ms=>
    obtain⟨l',hl'⟩:=compact_head (x:=x) (l:=ms)
    rw [hl',znsGo]
    have hx:x≤0:=by
      rcases List.mem_cons.1 hm with h|h
      · omega
      · have:=List.rel_of_pairwise_cons hp h;simpa using this
    rw [if_neg (by omega)]
    have hg:∀(xs:List Int) (r f:Nat) (acc:List Zn),acc.length≤(znsGo p l (begTo p l l.length) t.len last t.speed xs r f acc).length:=by
      intro xs
      induction xs with
      | nil=>intro r f acc;exact Nat.le_refl _
      | cons y ys ih=>
        intro r f acc
        rw [znsGo]
        split
        · exact Nat.le_refl _
        · refine Nat.le_trans ?_ (ih _ _ _)
          simp
    refine Nat.lt_of_lt_of_le ?_ (hg _ _ _ _)
    simp
open Go.RowKit Go.Shelf Go.Lib Go.BigFrame
structure DrOk (p:Pl) (l:List E) (t:Tr) (st:Int) (stops:List Int):Prop where
  v:Vld p
  way:wayOk p l
  tr:rightB t=true
  s0:inB st 0 ((t.grip.length:Int) - 1)=true
  stops:stopsB stops t.len (wlen p (l.map endNo))=true
def drvZ (p:Pl) (l:List E) (t:Tr) (st:Int) (stops:List Int):Option (List LegP):=legsZ t (adhZ t (gripZ t st)) (zonesZ p l t (stops.getD (stops.length - 1) 0)) stops
def DrPost (p:Pl) (l:List E) (t:Tr) (st:Int) (stops:List Int) (w:World) (e:Ending) (w':World):Prop:=
  ((¬DrOk p l t st stops∧e= .returned (.tuple #[.slice none 0 0,O U 2]))∨(DrOk p l t st stops∧drvZ p l t st stops=none∧e= .returned (.tuple #[.slice none 0 0,O U 4]))∨
   (DrOk p l t st stops∧∃L v,drvZ p l t st stops=some L∧e= .returned (.tuple #[v,O U 0])∧Own w' w.heap.size 72 10 fLl v L))∧Below w.heap.size w w'
theorem ascN_lt {l:List Int}:∀{n:Nat},ascN l n=true→∀i j,i<j→j<n→l.getD i 0<l.getD j 0:=by
  intro n
  induction n with
  | zero=>intro _ i j _ h;omega
  | succ n ih=>
    intro h i j hij hj
    rw [ascN,Bool.and_eq_true] at h
    by_cases hjn:j<n
    · exact ih h.1 i j hij hjn
    · obtain rfl:j=n:=by omega
      have h2:=h.2
      rw [Bool.or_eq_true] at h2
      rcases h2 with h2|h2
      · have:j=0:=by simpa using h2
        omega
      · have h3:l.getD (j - 1) 0<l.getD j 0:=of_decide_eq_true h2
        by_cases hi:i=j - 1
        · subst hi;exact h3
        · have:=ih h.1 i (j - 1) (by omega) (by omega)
          omega
theorem stopsB_in {l:List Int} {len most:Int} (h:stopsB l len most=true):2≤l.length∧l.length≤100∧(∀s∈l,len≤s∧s≤l.getD (l.length - 1) 0)∧l.getD (l.length - 1) 0≤most:=by
  unfold stopsB at h
  simp only [Bool.and_eq_true,inB_iff,decide_eq_true_eq] at h
  obtain⟨⟨h1,h2⟩,h3,h4,h5⟩:=h
  refine⟨by omega,by omega,fun s hs=> ?_,h5⟩
  obtain⟨i,hi,rfl⟩:=List.getElem_of_mem hs
  have hg:l.getD i 0=l[i]:=by rw [List.getD_eq_getElem?_getD,List.getElem?_eq_getElem hi];rfl
  rw [←hg]
  constructor
  · by_cases h0:i=0
    · rw [h0];exact h4
    · have:=ascN_lt h3 0 i (by omega) hi
      omega
  · by_cases h0:i=l.length - 1
    · rw [h0];exact Int.le_refl _
    · have:=ascN_lt h3 i (l.length - 1) (by omega) (by omega)
      omega
theorem Sl.zlt {α : Type} {w:World} {B size:Nat} {C: α→List Value→Prop} {A:Option Addr} {l:List α} (h:Sl w B size C A l) (hne:0<l.length):∀ad,A=some ad→ad.block<B:=fun ad e=>by
  obtain⟨b,off,e2,hb,_⟩:=h (by intro e;simp [e] at hne)
  rw [e] at e2
  cases e2
  exact hb
set_option maxRecDepth 100000 in
set_option maxHeartbeats 4000000 in
theorem Drive_any (A A2:Option Addr) (c c2:Nat) (p:Pl) (Aw:Option Addr) (cw:Nat) (l:List E) (t:Tr) (At:Option Addr) (nt ct:Nat) (st:Int) (As:Option Addr) (ns cs:Nat) (stops:List Int) (w:World) (hP:PlAt w w.heap.size A c A2 c2 p) (hA:Sl w w.heap.size 2 CE Aw l) (hl:l.length≤140737488351232) (hn:t.grip.length=nt) (hn2:nt≤140737488351232) (hG:Sl w w.heap.size 1 CI At t.grip) (hns:stops.length=ns) (hns2:ns≤1000000000) (hnc:ns≤cs) (hS:Sl w w.heap.size 1 CI As stops) :
    Calls Tryz.prog 31 #[.agg #[.slice A p.nodes.length c,.slice A2 p.rails.length c2],.slice Aw l.length cw,.agg #[O U t.mass,O U t.len,O U t.speed,O U t.effort,O U t.brake,O U t.power,O U t.resist,O U t.rise,O U t.back,.slice At nt ct],O U st,.slice As ns cs] w (DrPost p l t st stops w):=by
  have hb1:=((Below.refl w.heap.size w).alloc (Nat.le_refl _) (.cells #[.slice A p.nodes.length c,.slice A2 p.rails.length c2] 60)).alloc (by simp) (.cells #[O U t.mass,O U t.len,O U t.speed,O U t.effort,O U t.brake,O U t.power,O U t.resist,O U t.rise,O U t.back,.slice At nt ct] 24)
  obtain⟨q1,q2⟩:=rows2 w #[.slice A p.nodes.length c,.slice A2 p.rails.length c2] #[O U t.mass,O U t.len,O U t.speed,O U t.effort,O U t.brake,O U t.power,O U t.resist,O U t.rise,O U t.back,.slice At nt ct] 60 24
  obtain⟨W1,hW1⟩:∃z,(w.alloc (.cells #[.slice A p.nodes.length c,.slice A2 p.rails.length c2] 60)).alloc (.cells #[O U t.mass,O U t.len,O U t.speed,O U t.effort,O U t.brake,O U t.power,O U t.resist,O U t.rise,O U t.back,.slice At nt ct] 24)=z:=⟨_,rfl⟩
  rw [hW1] at hb1 q1 q2
  obtain⟨B0,hB0⟩:∃B,w.heap.size=B:=⟨_,rfl⟩
  rw [hB0] at q1 q2
  have HB1:=Z hb1
  have HK:=Z (show ∀wx,Below W1.heap.size W1 wx→PlAt wx wx.heap.size A c A2 c2 p∧Sl wx wx.heap.size 2 CE Aw l∧Sl wx wx.heap.size 1 CI At t.grip∧Sl wx wx.heap.size 1 CI As stops∧Rw wx B0 60 #[.slice A p.nodes.length c,.slice A2 p.rails.length c2]∧Rw wx (B0+1) 24 #[O U t.mass,O U t.len,O U t.speed,O U t.effort,O U t.brake,O U t.power,O U t.resist,O U t.rise,O U t.back,.slice At nt ct] from fun wx h=>by
    have hb:=hb1.trans (h.mono hb1.size)
    have hz:=Nat.le_trans hb1.size h.size
    exact⟨(hP.below hb).more hz,(hA.below hb).more (fun _ _ h=>h) hz,(hG.below hb).more (fun _ _ h=>h) hz,(hS.below hb).more (fun _ _ h=>h) hz,q1.below h q1.lt,q2.below h q2.lt⟩)
  have HX1:=Z (Below.refl W1.heap.size W1)
  have e0:=q1.cell 0;have e1:=q1.cell 1
  have HN:=Z hn;have HN2:=Z hn2;have HNS:=Z hns;have HL:=Z hl;have HNC:=Z hnc;have HNS2:=Z hns2
  clear hb1 q1 q2 hP hA hG hS hn hns hns2
  go_enter Tryz.func31,Tryz.ntmps31
  go_wp2_with fail
  (with_reducible refine (WayLength_any A A2 Aw c c2 cw p l W1 (HK.out _ HX1.out).1 (HK.out _ HX1.out).2.1 HL.out).mono ?_)
  rintro e w2 ⟨⟨hv,hw,rfl⟩|⟨hvw,rfl⟩,hb2⟩
  · have HX2:=Z hb2
    have HVW:=Z (And.intro hv hw)
    obtain⟨most,hmo⟩:∃m,wlen p (l.map endNo)=m:=⟨_,rfl⟩
    rw [hmo]
    have HMO:=Z hmo
    have f:=(HK.out _ hb2).2.2.2.2.2
    have T0:=f.cell 0;have T1:=f.cell 1;have T2:=f.cell 2;have T3:=f.cell 3;have T4:=f.cell 4;have T5:=f.cell 5;have T6:=f.cell 6;have T7:=f.cell 7;have T8:=f.cell 8;have T9:=f.cell 9
    clear hb2 hv hw hmo f e0 e1 hW1
    obtain⟨b0,h0⟩:∃b,rightB t=b:=⟨_,rfl⟩
    have H0:=Z h0
    go_wp2_with fail
    (with_reducible refine (show Calls Tryz.prog 39 #[.agg #[O U t.mass,O U t.len,O U t.speed,O U t.effort,O U t.brake,O U t.power,O U t.resist,O U t.rise,O U t.back,.slice At nt ct]] w2 fun e w'=>e= .returned (.bool b0)∧Below w2.heap.size w2 w' from by have:=right_any At ct nt t w2 HN.out HN2.out (HK.out _ HX2.out).2.2.1;rwa [H0.out] at this).mono ?_)
    rintro e w3 ⟨rfl,hb3⟩
    have HX3:=Z (HX2.out.trans (hb3.mono HX2.out.size))
    have f:=(HK.out _ HX3.out).2.2.2.2.2
    have T0:=f.cell 0;have T1:=f.cell 1;have T2:=f.cell 2;have T3:=f.cell 3;have T4:=f.cell 4;have T5:=f.cell 5;have T6:=f.cell 6;have T7:=f.cell 7;have T8:=f.cell 8;have T9:=f.cell 9
    clear hb3 f h0
    cases b0 with
    | false=>
      go_wp2
      go_ret2
      exact⟨.inl ⟨fun h=>(by have:=h.tr;rw [H0.out] at this;cases this),rfl⟩,HB1.out.trans (HX3.out.mono HB1.out.size)⟩
    | true=>
      obtain⟨b1,h1⟩:∃b,inB st 0 ((nt:Int) - 1)=b:=⟨_,rfl⟩
      have H1:=Z h1
      have hwn:IntKind.i64.wrap ((nt:Int) - 1)=(nt:Int) - 1:=by rw [IntKind.wrap_i64];omega
      clear h1
      go_wp2_with fail
      (with_reducible refine (show Calls Tryz.prog 54 #[O U st,O U 0,O U ((nt:Int) - 1)] w3 fun e w'=>e= .returned (.bool b1)∧w3=w' from by have:=within_any st 0 ((nt:Int) - 1) w3;rwa [H1.out] at this).mono ?_)
      rintro e w4 ⟨rfl,rfl⟩
      cases b1 with
      | false=>
        go_wp2
        go_ret2
        exact⟨.inl ⟨fun h=>(by have:=h.s0;rw [HN.out,H1.out] at this;cases this),rfl⟩,HB1.out.trans (HX3.out.mono HB1.out.size)⟩
      | true=>
        obtain⟨b2,h2⟩:∃b,stopsB stops t.len most=b:=⟨_,rfl⟩
        have H2:=Z h2
        clear h2
        go_wp2_with fail
        (with_reducible refine (show Calls Tryz.prog 56 #[.slice As ns cs,.agg #[O U t.mass,O U t.len,O U t.speed,O U t.effort,O U t.brake,O U t.power,O U t.resist,O U t.rise,O U t.back,.slice At nt ct],O U most] w3 fun e w'=>e= .returned (.bool b2)∧Below w3.heap.size w3 w' from by have:=stopsRight_any At ct nt t As ns cs stops most w3 HNS.out HNS2.out (HK.out _ HX3.out).2.2.2.1;rwa [H2.out] at this).mono ?_)
        rintro e w5 ⟨rfl,hb5⟩
        have HX5:=Z (HX3.out.trans (hb5.mono HX3.out.size))
        clear hb5 T0 T1 T2 T3 T4 T5 T6 T7 T8 T9
        cases b2 with
        | false=>
          go_wp2
          go_ret2
          exact⟨.inl ⟨fun h=>(by have:=h.stops;rw [HMO.out,H2.out] at this;cases this),rfl⟩,HB1.out.trans (HX5.out.mono HB1.out.size)⟩
        | true=>
          have hok:DrOk p l t st stops:=⟨HVW.out.1,HVW.out.2,H0.out,by rw [HN.out];exact H1.out,by rw [HMO.out];exact H2.out⟩
          obtain⟨s1,s2,s3,s4⟩:=stopsB_in H2.out
          have ht:=TrOk.of H0.out
          rw [HNS.out] at s1 s2 s3 s4
          obtain⟨bo,o,eo,gb,co⟩:=int_at (HK.out _ HX5.out).2.2.2.1 (i:=ns - 1) (by have:=HNS.out;omega)
          subst eo
          obtain⟨la,hla⟩:∃la,stops.getD (ns - 1) 0=la:=⟨_,rfl⟩
          have hgl:stops[ns - 1]'(by have:=HNS.out;omega)=la:=by rw [←hla,List.getD_eq_getElem?_getD,List.getElem?_eq_getElem (by have:=HNS.out;omega)];rfl
          rw [hgl] at co
          rw [hla] at s3 s4
          have hmo2:most≤2214592512000:=by
            have:=begAt_bd HVW.out.1 HVW.out.2.2.1 l.length
            rw [begAt_all,HMO.out] at this
            exact this.2
          have hla0:0≤la:=by
            have:=s3 la (by rw [←hgl];exact List.getElem_mem _)
            have:=ht.l1
            omega
          obtain⟨zs,hzs⟩:∃zs,zonesZ p l t la=zs:=⟨_,rfl⟩
          have hzok:ZsOk zs:=by rw [←hzs];exact zonesZ_ok HVW.out.1 HVW.out.2.2.1 ht la
          have hzp:0<zs.length:=by rw [←hzs];exact zonesZ_pos hla0
          obtain⟨g,hg⟩:∃g,gripZ t st=g:=⟨_,rfl⟩
          have hst:=inB_iff.1 H1.out
          obtain⟨i,hi⟩:∃i:Nat,st=(i:Int):=⟨st.toNat,by omega⟩
          have hil:i<t.grip.length:=by have:=HN.out;omega
          have hig:t.grip[i]? = some g:=by rw [←hg,hi];unfold gripZ;simp [List.getElem?_eq_getElem hil,List.getD_eq_getElem?_getD]
          have hgm:=ht.gs g (by obtain⟨_,rfl⟩:=List.getElem?_eq_some_iff.1 hig;exact List.getElem_mem _)
          have ha:=(adh_bd ht hgm.1 hgm.2).1
          have HDZ:=Z (show drvZ p l t st stops=legsZ t (adhZ t g) zs stops from by unfold drvZ;rw [HNS.out,hla,hzs,hg])
          have HZ:=Z (show ∀wx,Below w5.heap.size w5 wx→Calls Tryz.prog 58 #[.agg #[.slice A p.nodes.length c,.slice A2 p.rails.length c2],.slice Aw l.length cw,.agg #[O U t.mass,O U t.len,O U t.speed,O U t.effort,O U t.brake,O U t.power,O U t.resist,O U t.rise,O U t.back,.slice At nt ct],O U la] wx fun e' w'=>∃v,e'= .returned v∧Own w' wx.heap.size 141 3 fZl v zs∧Below wx.heap.size wx w' from fun wx h=>by
            obtain⟨k1,k2,_⟩:=HK.out wx (HX5.out.trans (h.mono HX5.out.size))
            have:=zones_any A A2 c c2 p Aw cw l t At nt ct la wx k1 HVW.out.1 k2 HVW.out.2.1 HVW.out.2.2.1 (wayOk_rails HVW.out.2) ht (by rw [begAt_all,HMO.out];exact s4)
            rwa [hzs] at this)
          have HNR:=Z (show ∀wx,Below w5.heap.size w5 wx→∀(Az:Option Addr) (nz cz:Nat),zs.length=nz→Sl wx wx.heap.size 3 CZn Az zs→Calls Tryz.prog 57 #[.agg #[O U t.mass,O U t.len,O U t.speed,O U t.effort,O U t.brake,O U t.power,O U t.resist,O U t.rise,O U t.back,.slice At nt ct],O U st,.slice Az nz cz] wx fun e w'=>∃r k,e= .returned (.pointer (some ⟨r,0,none⟩))∧wx.heap.size≤r∧wx.heap.size≤k∧RunAt w' r k t (adhZ t g) At nt ct Az nz cz zs∧Below wx.heap.size wx w' from fun wx h Az nz cz h1 h2=>
            newRun_any At ct nt t st g i Az nz cz zs wx ht HN.out hi hig (HK.out wx (HX5.out.trans (h.mono HX5.out.size))).2.2.1 h1 h2)
          have HLG:=Z (show ∀wx,Below w5.heap.size w5 wx→∀(r k:Nat) (Az:Option Addr) (nz cz:Nat),RunAt wx r k t (adhZ t g) At nt ct Az nz cz zs→Calls Tryz.prog 59 #[.pointer (some ⟨r,0,none⟩),.slice (some ⟨bo,o,none⟩) ns cs] wx fun e w'=>∃v,e= .returned (.tuple #[v,.bool (legsZ t (adhZ t g) zs stops).isSome])∧Own w' wx.heap.size 72 10 fLl v ((legsZ t (adhZ t g) zs stops).getD [])∧Below wx.heap.size wx w' from fun wx h r k Az nz cz hr=>
            legs_any r k t (adhZ t g) At nt ct Az nz cz zs (some ⟨bo,o,none⟩) ns cs stops wx hr (hr.z.zlt hzp) ht ha hzok hzp HNS.out s1 (by omega) HNC.out (HK.out wx (HX5.out.trans (h.mono HX5.out.size))).2.2.2.1 (fun s hs=>by have:=s3 s hs;have:=ht.l1;omega))
          have HOK:=Z hok
          have HSK:=Z (show ∀wx,Below w5.heap.size w5 wx→Rw wx B0 60 #[.slice A p.nodes.length c,.slice A2 p.rails.length c2]∧Rw wx (B0+1) 24 #[O U t.mass,O U t.len,O U t.speed,O U t.effort,O U t.brake,O U t.power,O U t.resist,O U t.rise,O U t.back,.slice At nt ct]∧wx.cell? ⟨bo,o+(ns - 1),none⟩=some (O U la) from fun wx h=>by
            obtain⟨_,_,_,_,k5,k6⟩:=HK.out wx (HX5.out.trans (h.mono HX5.out.size))
            exact⟨k5,k6,(h.cell (p:=⟨bo,o+(ns - 1),none⟩) gb).trans co⟩)
          have hns2:2≤ns:=s1
          have hns3:ns≤100:=s2
          have HZP:=Z hzp
          clear hok s1 s2 s3 s4 ht co hla hgl hmo2 hla0 hzs hzok hzp hg hst hi hil hig hgm ha
          go_upto_region 4 with (fail)
          have hbq:Below w5.heap.size w5 w5.drew:=(Below.refl _ _).drew
          have HS:=Z (HSK.out _ hbq)
          refine wp_region_held_drew (S:=fun wx=>Rw wx B0 60 #[.slice A p.nodes.length c,.slice A2 p.rails.length c2]∧Rw wx (B0+1) 24 #[O U t.mass,O U t.len,O U t.speed,O U t.effort,O U t.brake,O U t.power,O U t.resist,O U t.rise,O U t.back,.slice At nt ct]∧wx.cell? ⟨bo,o+(ns - 1),none⟩=some (O U la)) (by kernel_rfl) HS.out (fun _=> ?_)
          refine hTk (i:=0) (d:=46) (v:= .agg #[O U t.mass,O U t.len,O U t.speed,O U t.effort,O U t.brake,O U t.power,O U t.resist,O U t.rise,O U t.back,.slice At nt ct]) rfl rfl (Or.inl ⟨rfl,by rintro W' ⟨s0,s1,s2⟩;have y0:=s0.cell 0;have y1:=s0.cell 1;have z0:=s1.cell 0;have z1:=s1.cell 1;have z2:=s1.cell 2;have z3:=s1.cell 3;have z4:=s1.cell 4;have z5:=s1.cell 5;have z6:=s1.cell 6;have z7:=s1.cell 7;have z8:=s1.cell 8;have z9:=s1.cell 9;have hw1:IntKind.i64.wrap ((ns:Int) - 1)=(ns:Int) - 1:=(by rw [IntKind.wrap_i64];omega);have hq1:(0:Int)≤(ns:Int) - 1:=(by omega);have hq2:(ns:Int) - 1<(ns:Int):=(by omega);have hq4:¬(ns:Int)<1:=(by omega);have hq3:((ns:Int) - 1).toNat=ns - 1:=(by omega);go_simp⟩) HS.out ?_
          simp only [Act.put,sB,sZ,sS]
          refine hTk (i:=1) (d:=47) (v:=O U st) rfl rfl (Or.inl ⟨rfl,by rintro W' ⟨s0,s1,s2⟩;have y0:=s0.cell 0;have y1:=s0.cell 1;have z0:=s1.cell 0;have z1:=s1.cell 1;have z2:=s1.cell 2;have z3:=s1.cell 3;have z4:=s1.cell 4;have z5:=s1.cell 5;have z6:=s1.cell 6;have z7:=s1.cell 7;have z8:=s1.cell 8;have z9:=s1.cell 9;have hw1:IntKind.i64.wrap ((ns:Int) - 1)=(ns:Int) - 1:=(by rw [IntKind.wrap_i64];omega);have hq1:(0:Int)≤(ns:Int) - 1:=(by omega);have hq2:(ns:Int) - 1<(ns:Int):=(by omega);have hq4:¬(ns:Int)<1:=(by omega);have hq3:((ns:Int) - 1).toNat=ns - 1:=(by omega);go_simp⟩) HS.out ?_
          simp only [Act.put,sB,sZ,sS]
          refine hTk (i:=2) (d:=48) (v:= .agg #[.slice A p.nodes.length c,.slice A2 p.rails.length c2]) rfl rfl (Or.inl ⟨rfl,by rintro W' ⟨s0,s1,s2⟩;have y0:=s0.cell 0;have y1:=s0.cell 1;have z0:=s1.cell 0;have z1:=s1.cell 1;have z2:=s1.cell 2;have z3:=s1.cell 3;have z4:=s1.cell 4;have z5:=s1.cell 5;have z6:=s1.cell 6;have z7:=s1.cell 7;have z8:=s1.cell 8;have z9:=s1.cell 9;have hw1:IntKind.i64.wrap ((ns:Int) - 1)=(ns:Int) - 1:=(by rw [IntKind.wrap_i64];omega);have hq1:(0:Int)≤(ns:Int) - 1:=(by omega);have hq2:(ns:Int) - 1<(ns:Int):=(by omega);have hq4:¬(ns:Int)<1:=(by omega);have hq3:((ns:Int) - 1).toNat=ns - 1:=(by omega);go_simp⟩) HS.out ?_
          simp only [Act.put,sB,sZ,sS]
          refine hTk (i:=3) (d:=49) (v:= .slice Aw l.length cw) rfl rfl (Or.inl ⟨rfl,by rintro W' ⟨s0,s1,s2⟩;have y0:=s0.cell 0;have y1:=s0.cell 1;have z0:=s1.cell 0;have z1:=s1.cell 1;have z2:=s1.cell 2;have z3:=s1.cell 3;have z4:=s1.cell 4;have z5:=s1.cell 5;have z6:=s1.cell 6;have z7:=s1.cell 7;have z8:=s1.cell 8;have z9:=s1.cell 9;have hw1:IntKind.i64.wrap ((ns:Int) - 1)=(ns:Int) - 1:=(by rw [IntKind.wrap_i64];omega);have hq1:(0:Int)≤(ns:Int) - 1:=(by omega);have hq2:(ns:Int) - 1<(ns:Int):=(by omega);have hq4:¬(ns:Int)<1:=(by omega);have hq3:((ns:Int) - 1).toNat=ns - 1:=(by omega);go_simp⟩) HS.out ?_
          simp only [Act.put,sB,sZ,sS]
          refine hTk (i:=4) (d:=50) (v:= .agg #[O U t.mass,O U t.len,O U t.speed,O U t.effort,O U t.brake,O U t.power,O U t.resist,O U t.rise,O U t.back,.slice At nt ct]) rfl rfl (Or.inl ⟨rfl,by rintro W' ⟨s0,s1,s2⟩;have y0:=s0.cell 0;have y1:=s0.cell 1;have z0:=s1.cell 0;have z1:=s1.cell 1;have z2:=s1.cell 2;have z3:=s1.cell 3;have z4:=s1.cell 4;have z5:=s1.cell 5;have z6:=s1.cell 6;have z7:=s1.cell 7;have z8:=s1.cell 8;have z9:=s1.cell 9;have hw1:IntKind.i64.wrap ((ns:Int) - 1)=(ns:Int) - 1:=(by rw [IntKind.wrap_i64];omega);have hq1:(0:Int)≤(ns:Int) - 1:=(by omega);have hq2:(ns:Int) - 1<(ns:Int):=(by omega);have hq4:¬(ns:Int)<1:=(by omega);have hq3:((ns:Int) - 1).toNat=ns - 1:=(by omega);go_simp⟩) HS.out ?_
          simp only [Act.put,sB,sZ,sS]
          refine hTk (i:=5) (d:=51) (v:= .slice (some ⟨bo,o,none⟩) ns cs) rfl rfl (Or.inl ⟨rfl,by rintro W' ⟨s0,s1,s2⟩;have y0:=s0.cell 0;have y1:=s0.cell 1;have z0:=s1.cell 0;have z1:=s1.cell 1;have z2:=s1.cell 2;have z3:=s1.cell 3;have z4:=s1.cell 4;have z5:=s1.cell 5;have z6:=s1.cell 6;have z7:=s1.cell 7;have z8:=s1.cell 8;have z9:=s1.cell 9;have hw1:IntKind.i64.wrap ((ns:Int) - 1)=(ns:Int) - 1:=(by rw [IntKind.wrap_i64];omega);have hq1:(0:Int)≤(ns:Int) - 1:=(by omega);have hq2:(ns:Int) - 1<(ns:Int):=(by omega);have hq4:¬(ns:Int)<1:=(by omega);have hq3:((ns:Int) - 1).toNat=ns - 1:=(by omega);go_simp⟩) HS.out ?_
          simp only [Act.put,sB,sZ,sS]
          refine hTk (i:=6) (d:=52) (v:= .slice (some ⟨bo,o,none⟩) ns cs) rfl rfl (Or.inl ⟨rfl,by rintro W' ⟨s0,s1,s2⟩;have y0:=s0.cell 0;have y1:=s0.cell 1;have z0:=s1.cell 0;have z1:=s1.cell 1;have z2:=s1.cell 2;have z3:=s1.cell 3;have z4:=s1.cell 4;have z5:=s1.cell 5;have z6:=s1.cell 6;have z7:=s1.cell 7;have z8:=s1.cell 8;have z9:=s1.cell 9;have hw1:IntKind.i64.wrap ((ns:Int) - 1)=(ns:Int) - 1:=(by rw [IntKind.wrap_i64];omega);have hq1:(0:Int)≤(ns:Int) - 1:=(by omega);have hq2:(ns:Int) - 1<(ns:Int):=(by omega);have hq4:¬(ns:Int)<1:=(by omega);have hq3:((ns:Int) - 1).toNat=ns - 1:=(by omega);go_simp⟩) HS.out ?_
          simp only [Act.put,sB,sZ,sS]
          refine hTk (i:=7) (d:=53) (v:=O U (ns:Int)) rfl rfl (Or.inl ⟨rfl,by rintro W' ⟨s0,s1,s2⟩;have y0:=s0.cell 0;have y1:=s0.cell 1;have z0:=s1.cell 0;have z1:=s1.cell 1;have z2:=s1.cell 2;have z3:=s1.cell 3;have z4:=s1.cell 4;have z5:=s1.cell 5;have z6:=s1.cell 6;have z7:=s1.cell 7;have z8:=s1.cell 8;have z9:=s1.cell 9;have hw1:IntKind.i64.wrap ((ns:Int) - 1)=(ns:Int) - 1:=(by rw [IntKind.wrap_i64];omega);have hq1:(0:Int)≤(ns:Int) - 1:=(by omega);have hq2:(ns:Int) - 1<(ns:Int):=(by omega);have hq4:¬(ns:Int)<1:=(by omega);have hq3:((ns:Int) - 1).toNat=ns - 1:=(by omega);go_simp⟩) HS.out ?_
          simp only [Act.put,sB,sZ,sS]
          refine hTk (i:=8) (d:=54) (v:=O U ((ns:Int) - 1)) rfl rfl (Or.inl ⟨rfl,by rintro W' ⟨s0,s1,s2⟩;have y0:=s0.cell 0;have y1:=s0.cell 1;have z0:=s1.cell 0;have z1:=s1.cell 1;have z2:=s1.cell 2;have z3:=s1.cell 3;have z4:=s1.cell 4;have z5:=s1.cell 5;have z6:=s1.cell 6;have z7:=s1.cell 7;have z8:=s1.cell 8;have z9:=s1.cell 9;have hw1:IntKind.i64.wrap ((ns:Int) - 1)=(ns:Int) - 1:=(by rw [IntKind.wrap_i64];omega);have hq1:(0:Int)≤(ns:Int) - 1:=(by omega);have hq2:(ns:Int) - 1<(ns:Int):=(by omega);have hq4:¬(ns:Int)<1:=(by omega);have hq3:((ns:Int) - 1).toNat=ns - 1:=(by omega);go_simp⟩) HS.out ?_
          simp only [Act.put,sB,sZ,sS]
          refine hTk (i:=9) (d:=55) (v:= .pointer (some ⟨bo,o+(ns - 1),none⟩)) rfl rfl (Or.inl ⟨rfl,by rintro W' ⟨s0,s1,s2⟩;have y0:=s0.cell 0;have y1:=s0.cell 1;have z0:=s1.cell 0;have z1:=s1.cell 1;have z2:=s1.cell 2;have z3:=s1.cell 3;have z4:=s1.cell 4;have z5:=s1.cell 5;have z6:=s1.cell 6;have z7:=s1.cell 7;have z8:=s1.cell 8;have z9:=s1.cell 9;have hw1:IntKind.i64.wrap ((ns:Int) - 1)=(ns:Int) - 1:=(by rw [IntKind.wrap_i64];omega);have hq1:(0:Int)≤(ns:Int) - 1:=(by omega);have hq2:(ns:Int) - 1<(ns:Int):=(by omega);have hq4:¬(ns:Int)<1:=(by omega);have hq3:((ns:Int) - 1).toNat=ns - 1:=(by omega);go_simp⟩) HS.out ?_
          simp only [Act.put,sB,sZ,sS]
          refine hTk (i:=10) (d:=56) (v:=O U la) rfl rfl (Or.inl ⟨rfl,by rintro W' ⟨s0,s1,s2⟩;have y0:=s0.cell 0;have y1:=s0.cell 1;have z0:=s1.cell 0;have z1:=s1.cell 1;have z2:=s1.cell 2;have z3:=s1.cell 3;have z4:=s1.cell 4;have z5:=s1.cell 5;have z6:=s1.cell 6;have z7:=s1.cell 7;have z8:=s1.cell 8;have z9:=s1.cell 9;have hw1:IntKind.i64.wrap ((ns:Int) - 1)=(ns:Int) - 1:=(by rw [IntKind.wrap_i64];omega);have hq1:(0:Int)≤(ns:Int) - 1:=(by omega);have hq2:(ns:Int) - 1<(ns:Int):=(by omega);have hq4:¬(ns:Int)<1:=(by omega);have hq3:((ns:Int) - 1).toNat=ns - 1:=(by omega);go_simp⟩) HS.out ?_
          simp only [Act.put,sB,sZ,sS]
          refine hTk (i:=13) (d:=59) (v:= .slice (some ⟨bo,o,none⟩) ns cs) rfl rfl (Or.inl ⟨rfl,by rintro W' ⟨s0,s1,s2⟩;have y0:=s0.cell 0;have y1:=s0.cell 1;have z0:=s1.cell 0;have z1:=s1.cell 1;have z2:=s1.cell 2;have z3:=s1.cell 3;have z4:=s1.cell 4;have z5:=s1.cell 5;have z6:=s1.cell 6;have z7:=s1.cell 7;have z8:=s1.cell 8;have z9:=s1.cell 9;have hw1:IntKind.i64.wrap ((ns:Int) - 1)=(ns:Int) - 1:=(by rw [IntKind.wrap_i64];omega);have hq1:(0:Int)≤(ns:Int) - 1:=(by omega);have hq2:(ns:Int) - 1<(ns:Int):=(by omega);have hq4:¬(ns:Int)<1:=(by omega);have hq3:((ns:Int) - 1).toNat=ns - 1:=(by omega);go_simp⟩) HS.out ?_
          simp only [Act.put,sB,sZ,sS]
          refine wpAnyH_ready (rs:= [11]) (by kernel_rfl) (by simp) ?_
          refine AllReadyH.cons rfl (fun K hK=> ?_) AllReadyH.nil
          rw [if_pos (by rfl)]
          go_simp
          go_at_call 58
          (with_reducible refine (HZ.out _ hbq).mono ?_)
          rintro e w11 ⟨v1,rfl,ho,hbn⟩
          obtain⟨Az,cz,rfl,hzc,hsz⟩:=Sl.of_own fZl_len ho
          have hsc:Sl w11 w11.heap.size 3 CZn Az zs:=hsz.more (fun x cs h=>h) (Nat.le_refl _)
          replace hbq:=hbq.trans (hbn.mono hbq.size)
          clear hbn ho
          have HS:=Z (HSK.out _ hbq)
          refine hK.out _ _ HS.out (fun _=> ?_)
          clear hK K
          try simp only [Act.put,sB,sZ,sS]
          refine wpAnyH_ready (rs:= [12]) (by kernel_rfl) (by simp) ?_
          refine AllReadyH.cons rfl (fun K hK=> ?_) AllReadyH.nil
          rw [if_pos (by rfl)]
          go_simp
          go_at_call 57
          (with_reducible refine (HNR.out _ hbq Az zs.length cz rfl hsc).mono ?_)
          rintro e w12 ⟨r,k,rfl,_,_,hrun,hbn⟩
          replace hbq:=hbq.trans (hbn.mono hbq.size)
          clear hbn
          have HS:=Z (HSK.out _ hbq)
          refine hK.out _ _ HS.out (fun _=> ?_)
          clear hK K
          try simp only [Act.put,sB,sZ,sS]
          refine wpAnyH_ready (rs:= [14]) (by kernel_rfl) (by simp) ?_
          refine AllReadyH.cons rfl (fun K hK=> ?_) AllReadyH.nil
          rw [if_pos (by rfl)]
          go_simp
          go_at_call 59
          (with_reducible refine (HLG.out _ hbq r k Az zs.length cz hrun).mono ?_)
          rintro e w13 ⟨vl,rfl,hol,hbn⟩
          have hgs:=hbq.size
          replace hbq:=hbq.trans (hbn.mono hbq.size)
          replace hol:=hol.lower (Nat.le_trans (Nat.le_trans HB1.out.size HX5.out.size) hgs)
          clear hbn hgs
          have HS:=Z (HSK.out _ hbq)
          refine hK.out _ _ HS.out (fun _=> ?_)
          clear hK K
          try simp only [Act.put,sB,sZ,sS]
          refine hTk (i:=15) (d:=45) (v:= .tuple #[vl,.bool (legsZ t (adhZ t g) zs stops).isSome]) rfl rfl (Or.inl ⟨rfl,by rintro W' ⟨s0,s1,s2⟩;have y0:=s0.cell 0;have y1:=s0.cell 1;have z0:=s1.cell 0;have z1:=s1.cell 1;have z2:=s1.cell 2;have z3:=s1.cell 3;have z4:=s1.cell 4;have z5:=s1.cell 5;have z6:=s1.cell 6;have z7:=s1.cell 7;have z8:=s1.cell 8;have z9:=s1.cell 9;have hw1:IntKind.i64.wrap ((ns:Int) - 1)=(ns:Int) - 1:=(by rw [IntKind.wrap_i64];omega);have hq1:(0:Int)≤(ns:Int) - 1:=(by omega);have hq2:(ns:Int) - 1<(ns:Int):=(by omega);have hq4:¬(ns:Int)<1:=(by omega);have hq3:((ns:Int) - 1).toNat=ns - 1:=(by omega);go_simp⟩) HS.out ?_
          simp only [Act.put,sB,sZ,sS]
          refine hTk (i:=16) (d:=61) (v:=vl) rfl rfl (Or.inl ⟨rfl,by rintro W' ⟨s0,s1,s2⟩;have y0:=s0.cell 0;have y1:=s0.cell 1;have z0:=s1.cell 0;have z1:=s1.cell 1;have z2:=s1.cell 2;have z3:=s1.cell 3;have z4:=s1.cell 4;have z5:=s1.cell 5;have z6:=s1.cell 6;have z7:=s1.cell 7;have z8:=s1.cell 8;have z9:=s1.cell 9;have hw1:IntKind.i64.wrap ((ns:Int) - 1)=(ns:Int) - 1:=(by rw [IntKind.wrap_i64];omega);have hq1:(0:Int)≤(ns:Int) - 1:=(by omega);have hq2:(ns:Int) - 1<(ns:Int):=(by omega);have hq4:¬(ns:Int)<1:=(by omega);have hq3:((ns:Int) - 1).toNat=ns - 1:=(by omega);go_simp⟩) HS.out ?_
          simp only [Act.put,sB,sZ,sS]
          refine hTk (i:=17) (d:=62) (v:= .bool (legsZ t (adhZ t g) zs stops).isSome) rfl rfl (Or.inl ⟨rfl,by rintro W' ⟨s0,s1,s2⟩;have y0:=s0.cell 0;have y1:=s0.cell 1;have z0:=s1.cell 0;have z1:=s1.cell 1;have z2:=s1.cell 2;have z3:=s1.cell 3;have z4:=s1.cell 4;have z5:=s1.cell 5;have z6:=s1.cell 6;have z7:=s1.cell 7;have z8:=s1.cell 8;have z9:=s1.cell 9;have hw1:IntKind.i64.wrap ((ns:Int) - 1)=(ns:Int) - 1:=(by rw [IntKind.wrap_i64];omega);have hq1:(0:Int)≤(ns:Int) - 1:=(by omega);have hq2:(ns:Int) - 1<(ns:Int):=(by omega);have hq4:¬(ns:Int)<1:=(by omega);have hq3:((ns:Int) - 1).toNat=ns - 1:=(by omega);go_simp⟩) HS.out ?_
          simp only [Act.put,sB,sZ,sS]
          refine hTk (i:=18) (d:=14) (v:=vl) rfl rfl (Or.inl ⟨rfl,by rintro W' ⟨s0,s1,s2⟩;have y0:=s0.cell 0;have y1:=s0.cell 1;have z0:=s1.cell 0;have z1:=s1.cell 1;have z2:=s1.cell 2;have z3:=s1.cell 3;have z4:=s1.cell 4;have z5:=s1.cell 5;have z6:=s1.cell 6;have z7:=s1.cell 7;have z8:=s1.cell 8;have z9:=s1.cell 9;have hw1:IntKind.i64.wrap ((ns:Int) - 1)=(ns:Int) - 1:=(by rw [IntKind.wrap_i64];omega);have hq1:(0:Int)≤(ns:Int) - 1:=(by omega);have hq2:(ns:Int) - 1<(ns:Int):=(by omega);have hq4:¬(ns:Int)<1:=(by omega);have hq3:((ns:Int) - 1).toNat=ns - 1:=(by omega);go_simp⟩) HS.out ?_
          simp only [Act.put,sB,sZ,sS]
          refine hTk (i:=19) (d:=15) (v:= .bool (legsZ t (adhZ t g) zs stops).isSome) rfl rfl (Or.inl ⟨rfl,by rintro W' ⟨s0,s1,s2⟩;have y0:=s0.cell 0;have y1:=s0.cell 1;have z0:=s1.cell 0;have z1:=s1.cell 1;have z2:=s1.cell 2;have z3:=s1.cell 3;have z4:=s1.cell 4;have z5:=s1.cell 5;have z6:=s1.cell 6;have z7:=s1.cell 7;have z8:=s1.cell 8;have z9:=s1.cell 9;have hw1:IntKind.i64.wrap ((ns:Int) - 1)=(ns:Int) - 1:=(by rw [IntKind.wrap_i64];omega);have hq1:(0:Int)≤(ns:Int) - 1:=(by omega);have hq2:(ns:Int) - 1<(ns:Int):=(by omega);have hq4:¬(ns:Int)<1:=(by omega);have hq3:((ns:Int) - 1).toNat=ns - 1:=(by omega);go_simp⟩) HS.out ?_
          simp only [Act.put,sB,sZ,sS]
          refine wpAnyH_done (by kernel_rfl) ?_ _
          have hbz:=HB1.out.trans ((HX5.out.trans (hbq.mono HX5.out.size)).mono HB1.out.size)
          have HBZ:=Z hbz
          have HOL:=Z hol
          have hdz:=HDZ.out
          clear hbz hol HS hrun hsz hsc hzc hbq
          cases hlz:legsZ t (adhZ t g) zs stops with
          | none=>
            rw [hlz] at hdz
            have HDN:=Z hdz
            clear hdz hlz
            simp only [Option.isSome_none]
            go_wp2
            go_ret2
            exact⟨.inr (.inl ⟨HOK.out,HDN.out,rfl⟩),HBZ.out⟩
          | some L=>
            rw [hlz] at hdz
            have HDN:=Z hdz
            have HOL2:=Z (show Own w13 w.heap.size 72 10 fLl vl L from by have:=HOL.out;rw [hlz] at this;exact this)
            clear hdz hlz
            simp only [Option.isSome_some]
            go_wp2
            go_ret2
            exact⟨.inr (.inr ⟨HOK.out,L,vl,HDN.out,rfl,HOL2.out⟩),HBZ.out⟩
  · have HX2:=Z hb2
    have HVW:=Z hvw
    clear hb2 hvw
    go_wp2
    go_ret2
    exact⟨.inl ⟨fun h=>HVW.out ⟨h.v,h.way⟩,rfl⟩,HB1.out.trans (HX2.out.mono HB1.out.size)⟩
end Go.Proofs.YtfhkbbjddjddmaaGreat
