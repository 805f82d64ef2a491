/- Contracts: brief, slow. -/
import Derived.Test.YtfhkbbjddjddmaaGreatMi
import Derived.Test.YtfhkbbjddjddmaaGreatMd
set_option linter.unusedVariables false
set_option linter.unusedSimpArgs false
open Go.Value renaming int→O
open Go.IntKind renaming i64→U
open Go.Lib renaming hid→Z
namespace Go.Proofs.YtfhkbbjddjddmaaGreat
open Go.RowKit
def BrPost (p:Pl) (n ns nt:Nat) (w:World) (e:Ending) (w':World):Prop:=(∃b,e= .returned (.bool b)∧(b=true→ns≤4∧n≤8∧nt≤20))∧Below w.heap.size w w'
def AnyPost (w:World) (e:Ending) (w':World):Prop:=(∃b,e= .returned (.bool b))∧Below w.heap.size w w'
set_option maxRecDepth 100000 in
set_option maxHeartbeats 4000000 in
theorem brief_any (A A2:Option Addr) (c c2:Nat) (p:Pl) (Aw:Option Addr) (cw n:Nat) (t:Tr) (At:Option Addr) (nt ct:Nat) (As:Option Addr) (ns cs:Nat) (stops:List Int) (w:World) (hn:t.grip.length=nt) (hn2:nt≤140737488351232) (hG:Sl w w.heap.size 1 CI At t.grip) (hns:stops.length=ns) (hS:Sl w w.heap.size 1 CI As stops) :
  Calls Tryz.prog 30 #[.agg #[.slice A p.nodes.length c,.slice A2 p.rails.length c2],.slice Aw n cw,.agg #[O U t.mass,O U t.len,O U t.speed,O U t.effort,O U t.brake,O U t.power,O U t.resist,O U t.rise,O U t.back,.slice At nt ct],.slice As ns cs] w (BrPost p n ns nt w):=by
 have hb1:=((Below.refl w.heap.size w).alloc (Nat.le_refl _) (.cells #[.slice A p.nodes.length c,.slice A2 p.rails.length c2] 60)).alloc (by simp) (.cells #[O U t.mass,O U t.len,O U t.speed,O U t.effort,O U t.brake,O U t.power,O U t.resist,O U t.rise,O U t.back,.slice At nt ct] 24)
 obtain⟨q1,q2⟩:=rows2 w #[.slice A p.nodes.length c,.slice A2 p.rails.length c2] #[O U t.mass,O U t.len,O U t.speed,O U t.effort,O U t.brake,O U t.power,O U t.resist,O U t.rise,O U t.back,.slice At nt ct] 60 24
 obtain⟨W1,hW1⟩:∃z,(w.alloc (.cells #[.slice A p.nodes.length c,.slice A2 p.rails.length c2] 60)).alloc (.cells #[O U t.mass,O U t.len,O U t.speed,O U t.effort,O U t.brake,O U t.power,O U t.resist,O U t.rise,O U t.back,.slice At nt ct] 24)=z:=⟨_,rfl⟩
 rw [hW1] at hb1 q1 q2
 obtain⟨B0,hB0⟩:∃B,w.heap.size=B:=⟨_,rfl⟩
 rw [hB0] at q1 q2
 have HB1:=Z hb1;have HNS:=Z hns
 have HBX:=Z hb1
 have HK:=Z (show ∀wx,Below W1.heap.size W1 wx→Rw wx (B0+1) 24 #[O U t.mass,O U t.len,O U t.speed,O U t.effort,O U t.brake,O U t.power,O U t.resist,O U t.rise,O U t.back,.slice At nt ct]∧Sl wx wx.heap.size 1 CI At t.grip∧Sl wx wx.heap.size 1 CI As stops from fun wx h=>by
  have hb:=hb1.trans (h.mono hb1.size)
  have hz:=Nat.le_trans hb1.size h.size
  exact⟨q2.below h q2.lt,(hG.below hb).more (fun _ _ h=>h) hz,(hS.below hb).more (fun _ _ h=>h) hz⟩)
 obtain⟨sb,hsb⟩:∃b,decide (nt≤20)=b:=⟨_,rfl⟩
 have HSH:=Z (show ∀wx,Calls Tryz.prog 13 #[.agg #[O U t.mass,O U t.len,O U t.speed,O U t.effort,O U t.brake,O U t.power,O U t.resist,O U t.rise,O U t.back,.slice At nt ct]] wx fun e w'=>e= .returned (.bool sb)∧Below wx.heap.size wx w' from fun wx=>by have:=short_any At ct nt t wx hn2;rwa [hsb] at this)
 have HSB:=Z hsb
 have HRT:=Z (show ∀wx,Below W1.heap.size W1 wx→Calls Tryz.prog 17 #[.agg #[O U t.mass,O U t.len,O U t.speed,O U t.effort,O U t.brake,O U t.power,O U t.resist,O U t.rise,O U t.back,.slice At nt ct]] wx fun e w'=>e= .returned (.bool (rightB t))∧Below wx.heap.size wx w' from fun wx h=>rTrain_any At ct nt t wx hn hn2 (HK.out wx h).2.1)
 have e:=q1.cell;have f:=q2.cell
 clear hb1 q1 q2 hG hS hn hns hsb hn2
 go_enter Tryz.func30,Tryz.ntmps30
 by_cases c1:(8:Int)<(p.rails.length:Int)
 ·go_wp2
  go_ret
  exact⟨⟨false,rfl,fun h=>by cases h⟩,HBX.out⟩
 by_cases c2_:(10:Int)<(p.nodes.length:Int)
 ·go_wp2
  go_ret
  exact⟨⟨false,rfl,fun h=>by cases h⟩,HBX.out⟩
 by_cases c3:(8:Int)<(n:Int)
 ·go_wp2
  go_ret
  exact⟨⟨false,rfl,fun h=>by cases h⟩,HBX.out⟩
 by_cases c4:(4:Int)<(ns:Int)
 ·go_wp2
  go_ret
  exact⟨⟨false,rfl,fun h=>by cases h⟩,HBX.out⟩
 have hn4:ns≤4:=by omega
 go_wp2_with fail
 (with_reducible refine (HSH.out _).mono ?_)
 rintro e w2 ⟨rfl,hb2⟩
 have HX2:=Z hb2
 have HBX:=Z (HB1.out.trans (hb2.mono HB1.out.size))
 clear e hb2 hW1 hB0 c1 c2_ c4 f
 cases sb with
 | false=>
  go_wp2
  go_ret
  exact⟨⟨false,rfl,fun h=>by cases h⟩,HBX.out⟩
 | true=>
  have HC:=Z (show ns≤4∧n≤8∧nt≤20 from⟨hn4,by omega,of_decide_eq_true HSB.out⟩)
  clear c3
  go_wp2
  go_loopw [9] (fun s9 wr=>∃k:Nat,1≤k∧k≤ns+1∧s9=O U (k:Int)∧Below w2.heap.size w2 wr) (fun s9 _=>ns+1 - (intOf s9).toNat)
  case atStart=>exact⟨1,by omega,by omega,rfl,Below.refl _ _⟩
  case round=>
   obtain⟨k,hk1,hkn,rfl,hbr⟩:=hrel
   have hbb:=HX2.out.trans (hbr.mono HX2.out.size)
   have HBR:=Z hbr;have HBB:=Z hbb
   by_cases hkk:k<ns
   ·have hki:(k:Int)<(ns:Int):=by omega
    obtain⟨b2,o2,e2,g2,c0⟩:=int_at (HK.out _ hbb).2.2 (i:=k) (by have:=HNS.out;omega)
    subst e2
    obtain⟨b3,o3,e3,g3,c1⟩:=int_at (HK.out _ hbb).2.2 (i:=k - 1) (by have:=HNS.out;omega)
    cases e3
    obtain⟨x,hx⟩:∃x,stops[k]'(by have:=HNS.out;omega)=x:=⟨_,rfl⟩
    obtain⟨y,hy⟩:∃y,stops[k - 1]'(by have:=HNS.out;omega)=y:=⟨_,rfl⟩
    rw [hx] at c0
    rw [hy] at c1
    have hw1:IntKind.i64.wrap ((k:Int) - 1)=(k:Int) - 1:=by rw [IntKind.wrap_i64];omega
    have hk2:(0:Int)≤(k:Int) - 1:=by omega
    have hk3:(k:Int) - 1<(ns:Int):=by omega
    have hk4:((k:Int) - 1).toNat=k - 1:=by omega
    have hk0:(0:Int)≤(k:Int):=by omega
    obtain⟨z,hz⟩:∃z,IntKind.i64.wrap (x - y)=z:=⟨_,rfl⟩
    have HKN:=Z hkk
    clear hx hy hbr hbb hkk hkn
    by_cases hzz:6000<z
    ·go_upto_region 6 with (fail)
     go_quiet (fail)
     go_wp2
     go_ret
     exact⟨⟨false,rfl,fun h=>by cases h⟩,bDrewN (HB1.out.trans (HBB.out.mono HB1.out.size)) _⟩
    ·go_upto_region 6 with (fail)
     go_quiet (fail)
     go_wp2
     go_roundw
     case rel=>exact⟨k+1,by omega,by have:=HKN.out;omega,by simp,bDrewN HBR.out _⟩
     case measure=>have:=HKN.out;simp [intOf];omega
   ·have hki:¬(k:Int)<(ns:Int):=by omega
    have f:=(HK.out _ hbb).1.cell
    have HBX:=Z (HB1.out.trans (hbb.mono HB1.out.size))
    clear hbr hbb hkk hkn
    by_cases d1:(200:Int)≤t.effort
    ·by_cases d2:(400:Int)≤t.brake
     ·by_cases d3:(300:Int)≤t.speed
      ·go_wp2
       go_ret
       exact⟨⟨true,rfl,fun _=>HC.out⟩,HBX.out⟩
      ·go_wp2_with fail
       (with_reducible refine (HRT.out _ HBB.out).mono ?_)
       rintro e w9 ⟨rfl,hb9⟩
       have HB9:=Z (HBX.out.trans (hb9.mono HBX.out.size))
       clear hb9 f
       go_wp2
       go_ret
       exact⟨⟨_,rfl,fun _=>HC.out⟩,HB9.out⟩
     ·go_wp2_with fail
      (with_reducible refine (HRT.out _ HBB.out).mono ?_)
      rintro e w9 ⟨rfl,hb9⟩
      have HB9:=Z (HBX.out.trans (hb9.mono HBX.out.size))
      clear hb9 f
      go_wp2
      go_ret
      exact⟨⟨_,rfl,fun _=>HC.out⟩,HB9.out⟩
    ·go_wp2_with fail
     (with_reducible refine (HRT.out _ HBB.out).mono ?_)
     rintro e w9 ⟨rfl,hb9⟩
     have HB9:=Z (HBX.out.trans (hb9.mono HBX.out.size))
     clear hb9 f
     go_wp2
     go_ret
     exact⟨⟨_,rfl,fun _=>HC.out⟩,HB9.out⟩
set_option maxRecDepth 100000 in
set_option maxHeartbeats 4000000 in
theorem slow_any (A A2:Option Addr) (c c2:Nat) (p:Pl) (Aw:Option Addr) (cw n:Nat) (l:List E) (t:Tr) (At:Option Addr) (nt ct:Nat) (st:Int) (As:Option Addr) (ns cs:Nat) (w:World) (hP:PlAt w w.heap.size A c A2 c2 p) (hA:Sl w w.heap.size 2 CE Aw l) (hnl:l.length=n) (hl:n≤2000) (hr:∀e∈l,0≤e.rail∧e.rail<(p.rails.length:Int)) (ht:TrOk t) (hn:t.grip.length=nt) (hG:Sl w w.heap.size 1 CI At t.grip) (h0:0≤st) (h1:st<(nt:Int)) :
  Calls Tryz.prog 34 #[.agg #[.slice A p.nodes.length c,.slice A2 p.rails.length c2],.slice Aw n cw,.agg #[O U t.mass,O U t.len,O U t.speed,O U t.effort,O U t.brake,O U t.power,O U t.resist,O U t.rise,O U t.back,.slice At nt ct],O U st,.slice As ns cs] w (AnyPost w):=by
 have hb1:=((Below.refl w.heap.size w).alloc (Nat.le_refl _) (.cells #[.slice A p.nodes.length c,.slice A2 p.rails.length c2] 60)).alloc (by simp) (.cells #[O U t.mass,O U t.len,O U t.speed,O U t.effort,O U t.brake,O U t.power,O U t.resist,O U t.rise,O U t.back,.slice At nt ct] 24)
 obtain⟨q1,q2⟩:=rows2 w #[.slice A p.nodes.length c,.slice A2 p.rails.length c2] #[O U t.mass,O U t.len,O U t.speed,O U t.effort,O U t.brake,O U t.power,O U t.resist,O U t.rise,O U t.back,.slice At nt ct] 60 24
 have hrc:=hP.rc;have hrm:=hP.rm
 obtain⟨W1,hW1⟩:∃z,(w.alloc (.cells #[.slice A p.nodes.length c,.slice A2 p.rails.length c2] 60)).alloc (.cells #[O U t.mass,O U t.len,O U t.speed,O U t.effort,O U t.brake,O U t.power,O U t.resist,O U t.rise,O U t.back,.slice At nt ct] 24)=z:=⟨_,rfl⟩
 rw [hW1] at hb1 q1 q2
 obtain⟨B0,hB0⟩:∃B,w.heap.size=B:=⟨_,rfl⟩
 rw [hB0] at q1 q2
 have HB1:=Z hb1;have HNL:=Z hnl;have HR:=Z hr
 have HK:=Z (show ∀wx,Below W1.heap.size W1 wx→PlAt wx wx.heap.size A c A2 c2 p∧Sl wx wx.heap.size 2 CE Aw l∧Sl wx wx.heap.size 1 CI At t.grip∧Rw wx B0 60 #[.slice A p.nodes.length c,.slice A2 p.rails.length c2]∧Rw wx (B0+1) 24 #[O U t.mass,O U t.len,O U t.speed,O U t.effort,O U t.brake,O U t.power,O U t.resist,O U t.rise,O U t.back,.slice At nt ct] from fun wx h=>by
  have hb:=hb1.trans (h.mono hb1.size)
  have hz:=Nat.le_trans hb1.size h.size
  exact⟨(hP.below hb).more hz,(hA.below hb).more (fun _ _ h=>h) hz,(hG.below hb).more (fun _ _ h=>h) hz,q1.below h q1.lt,q2.below h q2.lt⟩)
 obtain⟨i,hi⟩:=Int.eq_ofNat_of_zero_le h0
 obtain⟨bg,og,eg,_,c0⟩:=int_at (HK.out _ (Below.refl _ _)).2.2.1 (i:=i) (by omega)
 subst eg
 obtain⟨g,hg⟩:∃g,t.grip[i]'(by omega)=g:=⟨_,rfl⟩
 rw [hg] at c0
 subst hi
 have hin:(i:Int)<(nt:Int):=h1
 have hm1:=ht.m1;have hm2:=ht.m2
 obtain⟨u,hu⟩:∃u,IntKind.i64.wrap (t.mass.tdiv 3)=u:=⟨_,rfl⟩
 have HU:=Z hu
 have e:=q1.cell;have f:=q2.cell
 clear hb1 q1 q2 hP hA hG hnl hr ht hn hg hu
 go_enter Tryz.func34,Tryz.ntmps34
 by_cases d1:g<30
 ·go_wp2
  go_ret
  exact⟨⟨_,rfl⟩,HB1.out⟩
 by_cases d2:100<t.resist
 ·go_wp2
  go_ret
  exact⟨⟨_,rfl⟩,HB1.out⟩
 by_cases d3:100<t.rise
 ·go_wp2
  go_ret
  exact⟨⟨_,rfl⟩,HB1.out⟩
 go_wp2
 clear hW1 hB0 e f c0
 go_loopw [11] (fun s11 wr=>∃k:Nat,k≤n∧s11=O U (k:Int)∧Below W1.heap.size W1 wr) (fun s11 _=>n - (intOf s11).toNat)
 case atStart=>exact⟨0,by omega,rfl,Below.refl _ _⟩
 case round=>
  obtain⟨k,hkn,rfl,hbr⟩:=hrel
  have HBR:=Z hbr
  by_cases hkk:k<n
  ·have hki:(k:Int)<(n:Int):=by omega
   have HK0:=Z (show (0:Int)≤(k:Int) from by omega)
   have HKN:=Z hkk
   obtain⟨hPr,hAr,_,r1,r2⟩:=HK.out _ hbr
   obtain⟨bw,ow,ew,gw,d0, -⟩:=end_at hAr (i:=k) (by have:=HNL.out;omega)
   subst ew
   obtain⟨el,hel⟩:∃el,l[k]'(by have:=HNL.out;omega)=el:=⟨_,rfl⟩
   rw [hel] at d0
   have hrr:=HR.out el (by rw [←hel];exact List.getElem_mem _)
   obtain⟨rl,hrl⟩:=Int.eq_ofNat_of_zero_le hrr.1
   have hrn:rl<p.rails.length:=by have:=hrr.2;omega
   rw [hrl] at d0
   obtain⟨br,or_,A9,c9,eb,hb,hE,hc1,hc2,r0,rr1,rr2,r3,r4⟩:=hPr.rail hrn
   subst eb
   obtain⟨rf,hrf⟩:∃z,p.rails[rl].frm=z:=⟨_,rfl⟩
   obtain⟨rt,hrt⟩:∃z,p.rails[rl].to=z:=⟨_,rfl⟩
   obtain⟨ln9,hl9⟩:∃z,p.rails[rl].shape.length=z:=⟨_,rfl⟩
   obtain⟨lm,hlm⟩:∃z,p.rails[rl].limit=z:=⟨_,rfl⟩
   obtain⟨sl,hsl⟩:∃z,p.rails[rl].slope=z:=⟨_,rfl⟩
   rw [hrf] at r0
   rw [hrt] at rr1
   rw [hl9] at rr2
   rw [hlm] at r3
   rw [hsl] at r4
   have HR0:=Z (show (0:Int)≤(rl:Int) from by omega)
   have HRN:=Z hrn
   have HSK:=Z (show ∀wx,Below wr.heap.size wr wx→Rw wx B0 60 #[.slice A p.nodes.length c,.slice (some ⟨br,or_,none⟩) p.rails.length c2]∧wx.cell? ⟨bw,ow+k * 2,none⟩=some (O U (rl:Int))∧wx.cell? ⟨br,or_+rl * 5,none⟩=some (O U rf)∧wx.cell? ⟨br,or_+rl * 5+1,none⟩=some (O U rt)∧wx.cell? ⟨br,or_+rl * 5+2,none⟩=some (.slice A9 ln9 c9)∧wx.cell? ⟨br,or_+rl * 5+3,none⟩=some (O U lm)∧wx.cell? ⟨br,or_+rl * 5+4,none⟩=some (O U sl) from fun wx h=>
    ⟨r1.below h r1.lt,(h.cell (p:=⟨bw,ow+k * 2,none⟩) gw).trans d0,(h.cell (p:=⟨br,or_+rl * 5,none⟩) hb).trans r0,(h.cell (p:=⟨br,or_+rl * 5+1,none⟩) hb).trans rr1,(h.cell (p:=⟨br,or_+rl * 5+2,none⟩) hb).trans rr2,(h.cell (p:=⟨br,or_+rl * 5+3,none⟩) hb).trans r3,(h.cell (p:=⟨br,or_+rl * 5+4,none⟩) hb).trans r4⟩)
   clear hbr hPr hAr r1 r2 hel hrr hrl hE hc1 hc2 r0 rr1 rr2 r3 r4 hrf hrt hl9 hlm hsl hkk hkn
   go_upto_region 6 with (fail)
   clear hki
   have hbq:Below wr.heap.size wr wr.drew:=(Below.refl _ _).drew
   have HS:=Z (HSK.out _ hbq)
   refine wp_region_held_drew (S:=fun wx=>Rw wx B0 60 #[.slice A p.nodes.length c,.slice (some ⟨br,or_,none⟩) p.rails.length c2]∧wx.cell? ⟨bw,ow+k * 2,none⟩=some (O U (rl:Int))∧wx.cell? ⟨br,or_+rl * 5,none⟩=some (O U rf)∧wx.cell? ⟨br,or_+rl * 5+1,none⟩=some (O U rt)∧wx.cell? ⟨br,or_+rl * 5+2,none⟩=some (.slice A9 ln9 c9)∧wx.cell? ⟨br,or_+rl * 5+3,none⟩=some (O U lm)∧wx.cell? ⟨br,or_+rl * 5+4,none⟩=some (O U sl)) (by kernel_rfl) HS.out (fun _=> ?_)
   obtain⟨wd,hwd⟩:∃z,wr.drew=z:=⟨_,rfl⟩
   rw [hwd] at hbq HS ⊢
   clear hwd
   refine hTk (i:=0) (d:=35) (v:= .pointer (some ⟨B0,1,none⟩)) rfl rfl (Or.inl ⟨rfl,by rintro W' ⟨u0,u1,u2,u3,u4,u5,u6⟩;have y:=u0.cell;have hk0:=HK0.out;have hkn:=HKN.out;have hr0:=HR0.out;have hrn:=HRN.out;go_simp⟩) HS.out ?_
   simp only [Act.put,sB,sZ,sS]
   refine hTk (i:=1) (d:=36) (v:= .slice (some ⟨br,or_,none⟩) p.rails.length c2) rfl rfl (Or.inl ⟨rfl,by rintro W' ⟨u0,u1,u2,u3,u4,u5,u6⟩;have y:=u0.cell;have hk0:=HK0.out;have hkn:=HKN.out;have hr0:=HR0.out;have hrn:=HRN.out;go_simp⟩) HS.out ?_
   simp only [Act.put,sB,sZ,sS]
   refine hTk (i:=2) (d:=37) (v:= .slice (some ⟨bw,ow,none⟩) n cw) rfl rfl (Or.inl ⟨rfl,by rintro W' ⟨u0,u1,u2,u3,u4,u5,u6⟩;have y:=u0.cell;have hk0:=HK0.out;have hkn:=HKN.out;have hr0:=HR0.out;have hrn:=HRN.out;go_simp⟩) HS.out ?_
   simp only [Act.put,sB,sZ,sS]
   refine hTk (i:=3) (d:=38) (v:=O U (k:Int)) rfl rfl (Or.inl ⟨rfl,by rintro W' ⟨u0,u1,u2,u3,u4,u5,u6⟩;have y:=u0.cell;have hk0:=HK0.out;have hkn:=HKN.out;have hr0:=HR0.out;have hrn:=HRN.out;go_simp⟩) HS.out ?_
   simp only [Act.put,sB,sZ,sS]
   refine hTk (i:=4) (d:=39) (v:= .pointer (some ⟨bw,ow+k * 2,none⟩)) rfl rfl (Or.inl ⟨rfl,by rintro W' ⟨u0,u1,u2,u3,u4,u5,u6⟩;have y:=u0.cell;have hk0:=HK0.out;have hkn:=HKN.out;have hr0:=HR0.out;have hrn:=HRN.out;go_simp⟩) HS.out ?_
   simp only [Act.put,sB,sZ,sS]
   refine hTk (i:=5) (d:=40) (v:= .pointer (some ⟨bw,ow+k * 2,none⟩)) rfl rfl (Or.inl ⟨rfl,by rintro W' ⟨u0,u1,u2,u3,u4,u5,u6⟩;have y:=u0.cell;have hk0:=HK0.out;have hkn:=HKN.out;have hr0:=HR0.out;have hrn:=HRN.out;go_simp⟩) HS.out ?_
   simp only [Act.put,sB,sZ,sS]
   refine hTk (i:=6) (d:=41) (v:=O U (rl:Int)) rfl rfl (Or.inl ⟨rfl,by rintro W' ⟨u0,u1,u2,u3,u4,u5,u6⟩;have y:=u0.cell;have hk0:=HK0.out;have hkn:=HKN.out;have hr0:=HR0.out;have hrn:=HRN.out;go_simp⟩) HS.out ?_
   simp only [Act.put,sB,sZ,sS]
   refine hTk (i:=7) (d:=42) (v:= .pointer (some ⟨br,or_+rl * 5,none⟩)) rfl rfl (Or.inl ⟨rfl,by rintro W' ⟨u0,u1,u2,u3,u4,u5,u6⟩;have y:=u0.cell;have hk0:=HK0.out;have hkn:=HKN.out;have hr0:=HR0.out;have hrn:=HRN.out;go_simp⟩) HS.out ?_
   simp only [Act.put,sB,sZ,sS]
   refine hTk (i:=8) (d:=43) (v:= .agg #[O U rf,O U rt,.slice A9 ln9 c9,O U lm,O U sl]) rfl rfl (Or.inl ⟨rfl,by rintro W' ⟨u0,u1,u2,u3,u4,u5,u6⟩;have y:=u0.cell;have hk0:=HK0.out;have hkn:=HKN.out;have hr0:=HR0.out;have hrn:=HRN.out;go_simp⟩) HS.out ?_
   simp only [Act.put,sB,sZ,sS]
   refine wpAnyH_ready (rs:= [9]) (by kernel_rfl) (by simp) ?_
   refine AllReadyH.cons rfl (fun K hK=> ?_) AllReadyH.nil
   rw [if_pos (by rfl)]
   go_simp
   have qx:=Rw.new wd #[O U 0,O U 0,.slice none 0 0,O U 0,O U 0] 75
   have hbs:=hbq.size
   replace hbq:=hbq.alloc hbq.size (.cells #[O U 0,O U 0,.slice none 0 0,O U 0,O U 0] 75)
   obtain⟨Bx,hBx⟩:∃z,wd.heap.size=z:=⟨_,rfl⟩
   obtain⟨we,hwe⟩:∃z,wd.alloc (.cells #[O U 0,O U 0,.slice none 0 0,O U 0,O U 0] 75)=z:=⟨_,rfl⟩
   rw [hBx] at qx hbs ⊢
   rw [hwe] at qx hbq ⊢
   clear hwe hBx
   have HS:=Z (HSK.out _ hbq)
   refine hK.out _ _ HS.out (fun _=> ?_)
   clear hK K
   try simp only [Act.put,sB,sZ,sS]
   refine wpAnyH_ready (rs:= [10]) (by kernel_rfl) (by simp) ?_
   refine AllReadyH.cons rfl (fun K hK=> ?_) AllReadyH.nil
   rw [if_pos (by rfl)]
   have h0:=qx.cell 0;have z0:=qx.frozen 0
   have h1:=qx.cell 1;have z1:=qx.frozen 1
   have h2:=qx.cell 2;have z2:=qx.frozen 2
   have h3:=qx.cell 3;have z3:=qx.frozen 3
   have h4:=qx.cell 4;have z4:=qx.frozen 4
   go_simp
   clear h0 z0 h1 z1 h2 z2 h3 z3 h4 z4
   have qy:Rw (((((we.setCell ⟨Bx,0,none⟩ (O U rf)).setCell ⟨Bx,1,none⟩ (O U rt)).setCell ⟨Bx,2,none⟩ (.slice A9 ln9 c9)).setCell ⟨Bx,3,none⟩ (O U lm)).setCell ⟨Bx,4,none⟩ (O U sl)) Bx 75 #[O U rf,O U rt,.slice A9 ln9 c9,O U lm,O U sl]:=(((((qx.set 0 (O U rf)).set 1 (O U rt)).set 2 (.slice A9 ln9 c9)).set 3 (O U lm)).set 4 (O U sl))
   have hbn:=(((((hbq.setCell (p:=⟨Bx,0,none⟩) (by show wr.heap.size≤Bx;omega) (O U rf)).setCell (p:=⟨Bx,1,none⟩) (by show wr.heap.size≤Bx;omega) (O U rt)).setCell (p:=⟨Bx,2,none⟩) (by show wr.heap.size≤Bx;omega) (.slice A9 ln9 c9)).setCell (p:=⟨Bx,3,none⟩) (by show wr.heap.size≤Bx;omega) (O U lm)).setCell (p:=⟨Bx,4,none⟩) (by show wr.heap.size≤Bx;omega) (O U sl))
   obtain⟨W6,hw⟩:∃z,(((((we.setCell ⟨Bx,0,none⟩ (O U rf)).setCell ⟨Bx,1,none⟩ (O U rt)).setCell ⟨Bx,2,none⟩ (.slice A9 ln9 c9)).setCell ⟨Bx,3,none⟩ (O U lm)).setCell ⟨Bx,4,none⟩ (O U sl))=z:=⟨_,rfl⟩
   rw [hw] at qy hbn ⊢
   clear qx hbq hw
   have HS:=Z (HSK.out _ hbn)
   refine hK.out _ _ HS.out (fun _=> ?_)
   clear hK K
   try simp only [Act.put,sB,sZ,sS]
   refine wpAnyH_done (by kernel_rfl) ?_ _
   have HB6:=Z hbn
   have y:=qy.cell
   clear hbn HS qy hbs
   by_cases d1:lm<300
   ·go_wp2
    go_ret
    exact⟨⟨_,rfl⟩,HB1.out.trans ((HBR.out.trans (HB6.out.mono HBR.out.size)).mono HB1.out.size)⟩
   by_cases d2:15<sl
   ·go_wp2
    go_ret
    exact⟨⟨_,rfl⟩,HB1.out.trans ((HBR.out.trans (HB6.out.mono HBR.out.size)).mono HB1.out.size)⟩
   by_cases d3:sl< -15
   ·go_wp2
    go_ret
    exact⟨⟨_,rfl⟩,HB1.out.trans ((HBR.out.trans (HB6.out.mono HBR.out.size)).mono HB1.out.size)⟩
   have hkn:=HKN.out
   go_wp2
   refine⟨⟨k+1,by omega,by simp,HBR.out.trans (HB6.out.mono HBR.out.size)⟩, ?_⟩
   simp [intOf] <;> omega
  ·have hki:¬(k:Int)<(n:Int):=by omega
   have f:=(HK.out _ hbr).2.2.2.2.cell
   have hu:=HU.out
   have HBX:=Z (HB1.out.trans (hbr.mono HB1.out.size))
   clear hbr hkk hkn
   by_cases e1:t.effort<u
   ·go_wp2
    go_ret
    exact⟨⟨_,rfl⟩,HBX.out⟩
   by_cases e2:t.brake<u
   ·go_wp2
    go_ret
    exact⟨⟨_,rfl⟩,HBX.out⟩
   go_wp2
   go_ret
   exact⟨⟨_,rfl⟩,HBX.out⟩
end Go.Proofs.YtfhkbbjddjddmaaGreat
