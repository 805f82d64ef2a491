/- Contract: the specification's Valid. -/
import Derived.Test.YtfhkbbjddjddmaaGreatJG
import Derived.Deep.Cut
import Derived.Deep.CutRange
import Derived.Deep.DeepCutAuto
set_option linter.unusedVariables false
set_option linter.unusedSimpArgs false
open Go.Value renaming int→O
open Go.IntKind renaming i64→U
open Go.Lib renaming hid→Z
namespace Go.Proofs.YtfhkbbjddjddmaaGreat
open Go.RowKit
theorem info126:(Tryz.prog.info? 126).map (fun i=>(i.zero,i.size,i.bytes))=some (some (.agg #[O U 0,.bool false]),2,16):=by kernel_rfl
def ValidPost (p:Pl) (w:World) (e:Ending) (w':World):Prop:=(∃b,e= .returned (.bool b)∧(b=true ↔ Vld p))∧Below w.heap.size w w'
theorem vfalse {p:Pl} {w w':World} (h:¬Vld p) (hb:Below w.heap.size w w'):ValidPost p w (.returned (.bool false)) w':=⟨⟨false,rfl,(fun h=>by cases h),fun h'=>absurd h' h⟩,hb⟩
theorem not_node {p:Pl} {k:Nat} (hk:k<p.nodes.length) (h:nodeB p.nodes[k]=false):¬Vld p:=fun hv=>by
 have:=List.all_eq_true.1 hv.nodes _ (List.getElem_mem hk);rw [h] at this;cases this
theorem row5 {w:World} {K:Nat} {a b c d e:Value} {t:TypeId} (h:w.heap[K]? = some (.cells #[a,b,c,d,e] t)) :
  w.cell? ⟨K,0,none⟩=some a∧w.cell? ⟨K,1,none⟩=some b∧w.cell? ⟨K,2,none⟩=some c∧w.cell? ⟨K,3,none⟩=some d∧w.cell? ⟨K,4,none⟩=some e:=
 ⟨cell_of_row _ _ 0 _ _ _ h,cell_of_row _ _ 1 _ _ _ h,cell_of_row _ _ 2 _ _ _ h,cell_of_row _ _ 3 _ _ _ h,cell_of_row _ _ 4 _ _ _ h⟩
set_option maxRecDepth 100000 in
set_option maxHeartbeats 100000000 in
theorem Valid_any (A A2:Option Addr) (c c2:Nat) (p:Pl) (w:World) (hP:PlAt w w.heap.size A c A2 c2 p) :
  Calls Tryz.prog 62 #[.agg #[.slice A p.nodes.length c,.slice A2 p.rails.length c2]] w (ValidPost p w):=by
 have hnc:=hP.nc;have hnm:=hP.nm;have hrc:=hP.rc;have hrm:=hP.rm
 have HP:=Z (hP.box (.cells #[.slice A p.nodes.length c,.slice A2 p.rails.length c2] 60))
 have HB:=Z ((Below.refl w.heap.size w).alloc (Nat.le_refl _) (.cells #[.slice A p.nodes.length c,.slice A2 p.rails.length c2] 60))
 clear hP
 by_cases s1:1≤p.nodes.length∧p.nodes.length≤300
 case neg=>
  have HV:=Z (show ¬Vld p from fun h=>by have:=of_decide_eq_true h.sizes;omega)
  have d1:inV (p.nodes.length:Int) 1 300=false:=by simp [inV];omega
  go_enter Tryz.func62,Tryz.ntmps62
  go_wp2_with (go_at_call 89;refine (inV_any _ _ _ _).mono ?_;rintro e w2 ⟨rfl,rfl⟩)
  go_ret
  exact vfalse HV.out HB.out
 have d1:inV (p.nodes.length:Int) 1 300=true:=by simp [inV];omega
 by_cases s2:1≤p.rails.length∧p.rails.length≤400
 case neg=>
  have HV:=Z (show ¬Vld p from fun h=>by have:=of_decide_eq_true h.sizes;omega)
  have d2:inV (p.rails.length:Int) 1 400=false:=by simp [inV];omega
  go_enter Tryz.func62,Tryz.ntmps62
  go_wp2_with (go_at_call 89;refine (inV_any _ _ _ _).mono ?_;rintro e w2 ⟨rfl,rfl⟩)
  go_ret
  exact vfalse HV.out HB.out
 have d2:inV (p.rails.length:Int) 1 400=true:=by simp [inV];omega
 have HS:=Z (show sizesB p=true by simp [sizesB];omega)
 obtain⟨s1a,s1b⟩:=s1
 obtain⟨s2a,s2b⟩:=s2
 obtain⟨W0,hW0⟩:∃W0,w.alloc (.cells #[.slice A p.nodes.length c,.slice A2 p.rails.length c2] 60)=W0:=⟨_,rfl⟩
 have hz0:W0.heap.size=w.heap.size+1:=by rw [←hW0];simp
 have HB0:=Z (show Below w.heap.size w W0 by rw [←hW0];exact HB.out)
 have HP0:=Z (show PlAt W0 W0.heap.size A c A2 c2 p by rw [←hW0];exact HP.out)
 have hbx:W0.cell? ⟨w.heap.size,0,none⟩=some (.slice A p.nodes.length c)∧W0.cell? ⟨w.heap.size,1,none⟩=some (.slice A2 p.rails.length c2):=by
  rw [←hW0];exact⟨cell_new1G _ _ _ _,cell_new1G _ _ _ _⟩
 have HX:=Z hbx
 have hzw:w.heap.size<W0.heap.size:=by omega
 have HZ:=Z hz0
 obtain⟨hbx0,hbx1⟩:=hbx
 clear HP HB hz0
 go_enter Tryz.func62,Tryz.ntmps62
 go_wp2_with (go_at_call 89;refine (inV_any _ _ _ _).mono ?_;rintro e w2 ⟨rfl,rfl⟩)
 clear hW0 d1 d2
 go_loopw [3] (fun i wr=>∃k:Nat,k≤p.nodes.length∧i=O U (k:Int)∧(∀j (hj:j<p.nodes.length),j<k→nodeB p.nodes[j]=true)∧Below W0.heap.size W0 wr) (fun i _=>p.nodes.length - (intOf i).toNat)
 case atStart=>exact⟨0,by omega,rfl,fun j _ h=>absurd h (by omega),Below.refl _ _⟩
 case round=>
  obtain⟨k,hk,rfl,hall,hbw⟩:=hrel
  have HA:=Z hall;clear hall
  have hzr:=hbw.size
  have x0:=(hbw.cell (p:=⟨w.heap.size,0,none⟩) hzw).trans hbx0
  have x1:=(hbw.cell (p:=⟨w.heap.size,1,none⟩) hzw).trans hbx1
  have HBW:=Z hbw
  clear hbw
  by_cases hlt:k<p.nodes.length
  ·obtain⟨b,off,A',c',hA,hb,hE,hc1,hc2,k0,k1,k2,k3,k4⟩:=(HP0.out.below HBW.out).node hlt
   subst hA
   clear hE
   obtain⟨W1,hW1⟩:∃W1,wr.alloc (.cells #[O U p.nodes[k].spot.x,O U p.nodes[k].spot.y,O U p.nodes[k].kind,.slice A' p.nodes[k].ends.length c',O U p.nodes[k].normal] 131)=W1:=⟨_,rfl⟩
   have hy:=row5 (show W1.heap[wr.heap.size]? = some (.cells #[O U p.nodes[k].spot.x,O U p.nodes[k].spot.y,O U p.nodes[k].kind,.slice A' p.nodes[k].ends.length c',O U p.nodes[k].normal] 131) by rw [←hW1];exact heap_alloc_new _ _)
   have HB1:=Z (show Below W0.heap.size W0 W1 by rw [←hW1];exact HBW.out.alloc (by omega) _)
   have hz1:wr.heap.size<W1.heap.size:=by rw [←hW1];simp
   obtain⟨y0,y1,y2,y3,y4⟩:=hy
   generalize hnd:p.nodes[k]=nd at *
   obtain⟨⟨sx,sy⟩,kd,en,nm⟩:=nd
   have HND:=Z hnd
   clear hnd
   simp only at *
   have HSP:=Z (show ∀b,(decide (kd=5) || decide (kd=6))=b→normB ⟨⟨sx,sy⟩,kd,en,nm⟩=if b then inV nm 1 2 else (nm == 0) from fun b hb=>by
    simp only [normB]
    cases b
    ·simp at hb;rw [if_neg (by omega)];rfl
    ·simp at hb;rw [if_pos hb];simp [inV])
   go_upto_region 8 with (fail)
   go_cut [50] (fun s50 wx=>s50= .bool (decide (kd=5) || decide (kd=6))∧wx=W1)
   case first=>
    by_cases q5:kd=5
    ·have e5:(kd == 5)=true:=by simp [q5]
     have HQ:=Z (show (decide (kd=5) || decide (kd=6))=true by simp [q5])
     clear q5
     go_wp2
     go_meet
     exact⟨by rw [HQ.out],rfl⟩
    ·have e5:(kd == 5)=false:=by simp [q5]
     have HQ:=Z (show (decide (kd=5) || decide (kd=6))=(kd == 6) by simp [q5];rfl)
     clear q5
     go_wp2
     go_meet
     exact⟨by rw [HQ.out],rfl⟩
   case rest=>
   obtain⟨rfl,rfl⟩:=hcut
   obtain⟨bs,hbs⟩:∃b,(decide (kd=5) || decide (kd=6))=b:=⟨_,rfl⟩
   have HN1:=Z (HSP.out bs hbs)
   rw [hbs]
   clear hbs HSP
   go_upto_if 50 with (fail)
   go_cut [5] (fun s5 wx=>s5= .bool (normB ⟨⟨sx,sy⟩,kd,en,nm⟩)∧wx=wc)
   case first=>
    cases bs
    ·go_wp2
     go_meet
     exact⟨by rw [HN1.out];rfl,rfl⟩
    ·go_wp2_with (go_at_call 89;refine (inV_any _ _ _ _).mono ?_;rintro e w2 ⟨rfl,rfl⟩)
     go_meet
     exact⟨by rw [HN1.out];rfl,rfl⟩
   case rest=>
   obtain⟨rfl,rfl⟩:=hcut
   obtain⟨v5,hv5⟩:∃v,normB ⟨⟨sx,sy⟩,kd,en,nm⟩=v:=⟨_,rfl⟩
   rw [hv5]
   have HV5:=Z hv5
   clear hv5
   go_upto_region 10 with (fail)
   go_cut [76] (fun s76 wx=>s76= .bool (!nodeB ⟨⟨sx,sy⟩,kd,en,nm⟩)∧Below wc.heap.size wc wx)
   case first=>
    have hbq:Below wc.heap.size wc wc.drew:=(Below.refl _ _).drew
    cases hsp:spotB ⟨sx,sy⟩
    ·have HQ:=Z (show (!nodeB ⟨⟨sx,sy⟩,kd,en,nm⟩)=true by simp [nodeB,hsp])
     first
      | (go_region_with (go_at_call 90;refine (spot_any ⟨sx,sy⟩ _).mono ?_;rintro e w2 ⟨rfl,hb2⟩;rw [hsp];have hbq:=hbq.trans (hb2.mono hbq.size);clear hb2))
      | fail "with"
     all_goals
      go_wp2_with fail
      go_meet
      exact⟨by rw [HQ.out],hbq⟩
    by_cases z0:endsZ kd=0
    ·have z1:(endsZ kd == 0)=true:=by simp [z0]
     have HQ:=Z (show (!nodeB ⟨⟨sx,sy⟩,kd,en,nm⟩)=true by simp [nodeB,kindB,z0])
     clear z0
     first
      | (go_region_with (first
         | (go_at_call 90;refine (spot_any ⟨sx,sy⟩ _).mono ?_;rintro e w2 ⟨rfl,hb2⟩;rw [hsp];have hbq:=hbq.trans (hb2.mono hbq.size);have u2:=(hbq.cell (p:=⟨wr.heap.size,2,none⟩) hz1).trans y2;have u3:=(hbq.cell (p:=⟨wr.heap.size,3,none⟩) hz1).trans y3;clear hb2)
         | (go_at_call 91;refine (ends_any kd _).mono ?_;rintro e w3 ⟨rfl,rfl⟩)))
      | fail "with"
     all_goals
      go_wp2_with fail
      go_meet
      exact⟨by rw [HQ.out],hbq⟩
    have z1:(endsZ kd == 0)=false:=by simp [z0]
    by_cases z2:(en.length:Int)=endsZ kd
    ·have z3:((en.length:Int) != endsZ kd)=false:=by simp [z2]
     have z4:(!((en.length:Int) == endsZ kd))=false:=by simp [z2]
     have HQ:=Z (show (!nodeB ⟨⟨sx,sy⟩,kd,en,nm⟩)= !v5 by simp [nodeB,kindB,HV5.out,hsp,z0,z2])
     clear z0 z2
     first
      | (go_region_held3 (fun w'=>w'.cell? ⟨wr.heap.size,0,none⟩=some (O U sx)∧w'.cell? ⟨wr.heap.size,1,none⟩=some (O U sy)∧w'.cell? ⟨wr.heap.size,2,none⟩=some (O U kd)∧w'.cell? ⟨wr.heap.size,3,none⟩=some (.slice A' en.length c'))
        (exact⟨(hbq.cell (p:=⟨wr.heap.size,0,none⟩) hz1).trans y0,(hbq.cell (p:=⟨wr.heap.size,1,none⟩) hz1).trans y1,(hbq.cell (p:=⟨wr.heap.size,2,none⟩) hz1).trans y2,(hbq.cell (p:=⟨wr.heap.size,3,none⟩) hz1).trans y3⟩)
        ((first
         | (go_at_call 90;refine (spot_any ⟨sx,sy⟩ _).mono ?_;rintro e w2 ⟨rfl,hb2⟩;rw [hsp];replace hbq:=hbq.trans (hb2.mono hbq.size))
         | (go_at_call 91;refine (ends_any kd _).mono ?_;rintro e w3 ⟨rfl,rfl⟩))))
      | fail "held3"
     all_goals
      go_wp2_with fail
      go_meet
      exact⟨by rw [HQ.out],hbq⟩
    ·have z3:((en.length:Int) != endsZ kd)=true:=by simp [z2]
     have z4:(!((en.length:Int) == endsZ kd))=true:=by simp [z2]
     have HQ:=Z (show (!nodeB ⟨⟨sx,sy⟩,kd,en,nm⟩)=true by simp [nodeB,kindB,hsp,z2])
     clear z0 z2
     first
      | (go_region_with (first
         | (go_at_call 90;refine (spot_any ⟨sx,sy⟩ _).mono ?_;rintro e w2 ⟨rfl,hb2⟩;rw [hsp];have hbq:=hbq.trans (hb2.mono hbq.size);have u2:=(hbq.cell (p:=⟨wr.heap.size,2,none⟩) hz1).trans y2;have u3:=(hbq.cell (p:=⟨wr.heap.size,3,none⟩) hz1).trans y3;clear hb2)
         | (go_at_call 91;refine (ends_any kd _).mono ?_;rintro e w3 ⟨rfl,rfl⟩)))
      | fail "with"
     all_goals
      go_wp2_with fail
      go_meet
      exact⟨by rw [HQ.out],hbq⟩
   case rest=>
   obtain⟨rfl,hbq⟩:=hcut
   have HBQ:=Z (HB1.out.trans (hbq.mono HB1.out.size))
   clear hbq
   cases hnb:nodeB ⟨⟨sx,sy⟩,kd,en,nm⟩
   ·have HF:=Z (not_node hlt (show nodeB p.nodes[k]=false by rw [HND.out];exact hnb))
    clear hnb
    go_wp2
    go_ret
    exact vfalse HF.out (HB0.out.trans (HBQ.out.mono (by omega)))
   ·have HT:=Z (show nodeB p.nodes[k]=true by rw [HND.out];exact hnb)
    clear hnb
    go_wp2
    go_roundw
    case rel=>exact⟨k+1,by omega,by go_num,fun j hj hjk=>if h:j=k then by subst h;exact HT.out else HA.out j hj (by omega),HBQ.out⟩
    case measure=>simp [intOf];omega
  ·obtain rfl:k=p.nodes.length:=by omega
   have HNo:=Z (show p.nodes.all nodeB=true from all_yes' fun j hj=>HA.out j hj hj)
   clear HA
   go_wp2
   go_loopw [6] (fun i wr=>∃k:Nat,k≤p.rails.length∧i=O U (k:Int)∧(∀j (hj:j<p.rails.length),j<k→railOk p p.rails[j]=true)∧Below W0.heap.size W0 wr) (fun i _=>p.rails.length - (intOf i).toNat)
   case atStart=>exact⟨0,by omega,rfl,fun j _ h=>absurd h (by omega),HBW.out⟩
   case round=>
    clear x0 x1 HBW hzr
    obtain⟨wq,rfl⟩:∃wq:World,wq=wr:=⟨_,rfl⟩
    obtain⟨k,hk,rfl,hall,hbw⟩:=hrel
    have HA:=Z hall;clear hall
    have hzr:=hbw.size
    have x0:=(hbw.cell (p:=⟨w.heap.size,0,none⟩) hzw).trans hbx0
    have x1:=(hbw.cell (p:=⟨w.heap.size,1,none⟩) hzw).trans hbx1
    have HBW:=Z hbw
    clear hbw
    by_cases hlt:k<p.rails.length
    ·obtain⟨b,off,A',c',hA,hb,hE,hc1,hc2,k0,k1,k2,k3,k4⟩:=(HP0.out.below HBW.out).rail hlt
     subst hA
     have HE:=Z hE
     clear hE
     obtain⟨W1,hW1⟩:∃W1,wq.alloc (.cells #[O U p.rails[k].frm,O U p.rails[k].to,.slice A' p.rails[k].shape.length c',O U p.rails[k].limit,O U p.rails[k].slope] 75)=W1:=⟨_,rfl⟩
     have hy:=row5 (show W1.heap[wq.heap.size]? = some (.cells #[O U p.rails[k].frm,O U p.rails[k].to,.slice A' p.rails[k].shape.length c',O U p.rails[k].limit,O U p.rails[k].slope] 75) by rw [←hW1];exact heap_alloc_new _ _)
     have HB1:=Z (show Below W0.heap.size W0 W1 by rw [←hW1];exact HBW.out.alloc (by omega) _)
     have HB1w:=Z (show Below wq.heap.size wq W1 by rw [←hW1];exact (Below.refl _ _).alloc (Nat.le_refl _) _)
     have hz1:wq.heap.size<W1.heap.size:=by rw [←hW1];simp
     have t0:=(HB1w.out.cell (p:=⟨w.heap.size,0,none⟩) (by simp;omega)).trans x0
     have t1:=(HB1w.out.cell (p:=⟨w.heap.size,1,none⟩) (by simp;omega)).trans x1
     obtain⟨y0,y1,y2,y3,y4⟩:=hy
     obtain⟨fr,hfr⟩:∃x,p.rails[k].frm=x:=⟨_,rfl⟩
     obtain⟨tt,htt⟩:∃x,p.rails[k].to=x:=⟨_,rfl⟩
     obtain⟨sh,hsh⟩:∃x,p.rails[k].shape=x:=⟨_,rfl⟩
     obtain⟨lm,hlm⟩:∃x,p.rails[k].limit=x:=⟨_,rfl⟩
     obtain⟨sl,hsl⟩:∃x,p.rails[k].slope=x:=⟨_,rfl⟩
     have HRN:=Z (show railN p.nodes.length p.rails[k]=decide (0≤fr∧fr<(p.nodes.length:Int)∧0≤tt∧tt<(p.nodes.length:Int)∧sh.length≤30∧1≤lm∧lm≤50000∧ -120≤sl∧sl≤120) by simp only [railN,hfr,htt,hsh,hlm,hsl])
     have HSH:=Z hsh;have HFR:=Z hfr;have HTT:=Z htt
     simp only [hfr,htt,hsh,hlm,hsl] at hW1 y0 y1 y2 y3 y4 k0 k1 k2 k3 k4 hc1 HE
     clear hfr htt hsh hlm hsl
     go_upto_region 16 with (fail)
     go_cut [124] (fun s124 wx=>s124= .bool (!railN p.nodes.length p.rails[k])∧wx=W1)
     case first=>
      by_cases a1:inV fr 0 ((p.nodes.length:Int) - 1)=true
      case neg=>
       have a1':inV fr 0 ((p.nodes.length:Int) - 1)=false:=by simpa using a1
       have HQ:=Z (show (!railN p.nodes.length p.rails[k])=true by rw [HRN.out];simp only [inV] at a1';simp at a1' ⊢;omega)
       go_wp2_with (go_at_call 89;refine (inV_any _ _ _ _).mono ?_;rintro e w2 ⟨rfl,rfl⟩)
       go_meet
       exact⟨by rw [HQ.out],rfl⟩
      by_cases a2:inV tt 0 ((p.nodes.length:Int) - 1)=true
      case neg=>
       have a2':inV tt 0 ((p.nodes.length:Int) - 1)=false:=by simpa using a2
       have HQ:=Z (show (!railN p.nodes.length p.rails[k])=true by rw [HRN.out];simp only [inV] at a2';simp at a2' ⊢;omega)
       go_wp2_with (go_at_call 89;refine (inV_any _ _ _ _).mono ?_;rintro e w2 ⟨rfl,rfl⟩)
       go_meet
       exact⟨by rw [HQ.out],rfl⟩
      by_cases a3:30<sh.length
      case pos=>
       have a3':decide (30<(sh.length:Int))=true:=by simp;omega
       have a3'':decide (30<sh.length)=true:=by simp;omega
       have HQ:=Z (show (!railN p.nodes.length p.rails[k])=true by rw [HRN.out];simp;omega)
       go_wp2_with (go_at_call 89;refine (inV_any _ _ _ _).mono ?_;rintro e w2 ⟨rfl,rfl⟩)
       go_meet
       exact⟨by rw [HQ.out],rfl⟩
      have a3':decide (30<(sh.length:Int))=false:=by simp;omega
      have a3'':decide (30<sh.length)=false:=by simp;omega
      by_cases a4:inV lm 1 50000=true
      case neg=>
       have a4':inV lm 1 50000=false:=by simpa using a4
       have HQ:=Z (show (!railN p.nodes.length p.rails[k])=true by rw [HRN.out];simp only [inV] at a4';simp at a4' ⊢;omega)
       go_wp2_with (go_at_call 89;refine (inV_any _ _ _ _).mono ?_;rintro e w2 ⟨rfl,rfl⟩)
       go_meet
       exact⟨by rw [HQ.out],rfl⟩
      by_cases a5:inV sl (-120) 120=true
      case neg=>
       have a5':inV sl (-120) 120=false:=by simpa using a5
       have HQ:=Z (show (!railN p.nodes.length p.rails[k])=true by rw [HRN.out];simp only [inV] at a5';simp at a5' ⊢;omega)
       go_wp2_with (go_at_call 89;refine (inV_any _ _ _ _).mono ?_;rintro e w2 ⟨rfl,rfl⟩)
       go_meet
       exact⟨by rw [HQ.out],rfl⟩
      have HQ:=Z (show (!railN p.nodes.length p.rails[k])=false by rw [HRN.out];simp only [inV] at a1 a2 a4 a5;simp at a1 a2 a4 a5 ⊢;omega)
      go_wp2_with (go_at_call 89;refine (inV_any _ _ _ _).mono ?_;rintro e w2 ⟨rfl,rfl⟩)
      go_meet
      exact⟨by rw [HQ.out],rfl⟩
     case rest=>
     obtain⟨rfl,rfl⟩:=hcut
     cases hrn:railN p.nodes.length p.rails[k]
     ·have HF:=Z (show ¬Vld p from fun hv=>by have:=(hv.rail hlt).1;simp only [railB,hrn] at this;simp at this)
      clear hrn
      go_wp2
      go_ret
      exact vfalse HF.out (HB0.out.trans (HB1.out.mono (by omega)))
     have HN:=Z hrn
     clear hrn
     have hsh30:sh.length≤30:=by have:=HN.out;rw [HRN.out] at this;have:=of_decide_eq_true this;omega
     go_wp2
     go_loopw [8] (fun i wr=>∃j:Nat,j≤sh.length∧i=O U (j:Int)∧(∀s (hs:s<sh.length),s<j→spotB sh[s]=true)∧Below wc.heap.size wc wr) (fun i _=>sh.length - (intOf i).toNat)
     case atStart=>exact⟨0,by omega,rfl,fun _ _ h=>absurd h (by omega),Below.refl _ _⟩
     case round=>
      obtain⟨j,hj,rfl,hsp,hbr⟩:=hrel
      have HSP:=Z hsp
      have hzr2:=hbr.size
      have z0:=(hbr.cell (p:=⟨wq.heap.size,0,none⟩) hz1).trans y0
      have z1:=(hbr.cell (p:=⟨wq.heap.size,1,none⟩) hz1).trans y1
      have z2:=(hbr.cell (p:=⟨wq.heap.size,2,none⟩) hz1).trans y2
      have u0:=(hbr.cell (p:=⟨w.heap.size,0,none⟩) (by simp;omega)).trans t0
      have u1:=(hbr.cell (p:=⟨w.heap.size,1,none⟩) (by simp;omega)).trans t1
      have HBR:=Z hbr
      clear hsp hbr
      by_cases hjl:j<sh.length
      ·obtain⟨b2,o2,e2,g2,q0,q1⟩:=spot_at (HE.out.below ((HB1w.out.trans (HBR.out.mono HB1w.out.size)).mono hzr)) hjl
       subst e2
       cases hss:spotB sh[j]
       ·have HF:=Z (show ¬Vld p from fun hv=>by
         have:=(hv.rail hlt).1
         simp only [railB,Bool.and_eq_true,List.all_eq_true] at this
         have h2:=this.2 sh[j] (by rw [HSH.out];exact List.getElem_mem hjl)
         rw [hss] at h2;cases h2)
        go_wp2_with fail
        refine (spot_any sh[j] _).mono ?_
        rintro e w2 ⟨rfl,hb2⟩
        rw [hss]
        have HB2:=Z (HB1.out.trans ((HBR.out.trans (hb2.mono hzr2)).mono HB1.out.size))
        clear hb2
        go_wp2
        go_ret
        exact vfalse HF.out (HB0.out.trans (HB2.out.mono (by omega)))
       ·go_wp2_with fail
        refine (spot_any sh[j] _).mono ?_
        rintro e w2 ⟨rfl,hb2⟩
        rw [hss]
        have HB2:=Z (HBR.out.trans (hb2.mono hzr2))
        have HS2:=Z hss
        clear hb2 hss
        go_wp2
        go_roundw
        case rel=>(repeat apply Exists.intro);exact⟨⟨j+1,by omega,by go_num,fun s hs hsj=>if h:s=j then by subst h;exact HS2.out else HSP.out s hs (by omega),HB2.out⟩,rfl⟩
        case measure=>simp [intOf];omega
      ·obtain rfl:j=sh.length:=by omega
       have HRB:=Z (show railB p.nodes.length p.rails[k]=true by
        simp only [railB,HN.out,Bool.true_and]
        rw [HSH.out];exact all_yes' fun s hs=>HSP.out s hs hs)
       clear HSP
       go_wp2_with fail
       have HNP:=Z (show PlAt wr wr.heap.size A c (some ⟨b,off,none⟩) c2 p from ((HP0.out.below (HBW.out.trans ((HB1w.out.trans (HBR.out.mono HB1w.out.size)).mono hzr))).more (by omega)))
       refine (rLine_any A _ c c2 p k _ HNP.out hlt (railB_ix HRB.out).1 (railB_ix HRB.out).2.1 (by have:=(railB_ix HRB.out).2.2;omega)).mono ?_
       rintro e w2 ⟨v,rfl,ho,hb2⟩
       obtain⟨L,hL⟩:∃L,lineOf p p.rails[k]=L:=⟨_,rfl⟩
       have hLR:allR L:=by rw [←hL];exact allR_line (spots_ok HNo.out) HRB.out
       have hLl:L.length≤32:=by rw [←hL];have:=(railB_ix HRB.out).2.2;simp only [lineOf,List.length_cons,List.length_append,List.length_nil];omega
       rw [hL] at ho
       have HLL:=Z hL
       obtain⟨Al,cl,rfl,hl1,hl2,_⟩:=ho.form
       have HS:=Z (show Sl w2 w2.heap.size 2 CS Al L from (ho.sl fS_len rfl).more (fun _ _ h=>h) (Nat.le_refl _))
       have HB2:=Z (HB1.out.trans ((HBR.out.trans (hb2.mono hzr2)).mono HB1.out.size))
       have HLR:=Z hLR
       have hz2:wr.heap.size≤w2.heap.size:=hb2.size
       have hb2b:=bcell (HBR.out.trans (hb2.mono hzr2))
       have v0:=(hb2b.1 w.heap.size 0 (by omega)).trans t0
       have v1:=(hb2b.1 w.heap.size 1 (by omega)).trans t1
       clear ho hb2 hL hLR hb2b z0 z1 z2 u0 u1
       go_wp2
       go_loopw [10] (fun i wr=>∃j:Nat,j+1≤L.length∧i=O U ((j:Int)+1)∧okTo L j∧Below w2.heap.size w2 wr) (fun i _=>L.length - (intOf i).toNat)
       case atStart=>exact⟨0,by have:=congrArg List.length HLL.out;simp only [lineOf,List.length_cons] at this;omega,rfl,fun _ h=>absurd h (by omega),Below.refl _ _⟩
       case round=>
        obtain⟨j,hj,rfl,hok,hbr⟩:=hrel
        have HOK:=Z hok
        have hzr3:=hbr.size
        have HBR2:=Z hbr
        clear hok hbr
        by_cases hjl:j+1<L.length
        ·obtain⟨b2,o2,e2,g2,q0,q1⟩:=spot_at (HS.out.below HBR2.out) (i:=j) (by omega)
         obtain⟨b3,o3,e3,_,q2,q3⟩:=spot_at (HS.out.below HBR2.out) hjl
         subst e2
         injection e3 with e3;injection e3 with e4 e5 _;subst e4;subst e5
         have hra:=HLR.out j (by omega)
         have hrb:=HLR.out (j+1) hjl
         rw [sAt_eq (by omega)] at hra
         rw [sAt_eq hjl] at hrb
         have HD:=Z (show okD (sAt L j) (sAt L (j+1))=inV (far L[j] L[j+1]:Nat) 1 1000000 by
          rw [sAt_eq (by omega),sAt_eq hjl,okD_far (sqd_lt hra hrb)];simp only [inV];rw [Bool.eq_iff_iff];simp;omega)
         generalize hsa:L[j]=sa at *
         generalize hsb:L[j+1]=sb at *
         obtain⟨ax,ay⟩:=sa
         obtain⟨bx,by_⟩:=sb
         simp only at q0 q1 q2 q3
         have HRA:=Z hra;have HRBB:=Z hrb
         clear hra hrb hsa hsb
         have hwr1:IntKind.i64.wrap ((j:Int)+1 - 1)=(j:Int):=by rw [IntKind.wrap_i64];omega
         have hwr2:IntKind.i64.wrap (j:Int)=(j:Int):=by rw [IntKind.wrap_i64];omega
         have hj0:(0:Int)≤(j:Int):=by omega
         have hj1:(j:Int)<(L.length:Int):=by omega
         have hj2:(j:Int)+1<(L.length:Int):=by omega
         have hj3:(0:Int)≤(j:Int)+1:=by omega
         have hj4:((j:Int)+1).toNat=j+1:=by omega
         have hbq:Below wr.heap.size wr wr.drew:=(Below.refl _ _).drew
         obtain⟨F,hF⟩:∃F,far ⟨ax,ay⟩ ⟨bx,by_⟩=F:=⟨_,rfl⟩
         have HFF:=Z hF
         rw [hF] at HD
         clear hF
         have hg2:b2<wr.heap.size:=by omega
         go_upto_region 27 with (fail)
         go_cut [159] (fun s159 wx=>s159= .bool (!inV (F:Nat) 1 1000000)∧Below wr.heap.size wr wx)
         case first=>
          first
           | (go_region_held3 (fun w'=>w'.cell? ⟨b2,o2+j * 2,none⟩=some (O U ax)∧w'.cell? ⟨b2,o2+j * 2+1,none⟩=some (O U ay)∧w'.cell? ⟨b2,o2+(j+1) * 2,none⟩=some (O U bx)∧w'.cell? ⟨b2,o2+(j+1) * 2+1,none⟩=some (O U by_))
             (exact⟨(hbq.cell (p:=⟨b2,o2+j * 2,none⟩) hg2).trans q0,(hbq.cell (p:=⟨b2,o2+j * 2+1,none⟩) hg2).trans q1,(hbq.cell (p:=⟨b2,o2+(j+1) * 2,none⟩) hg2).trans q2,(hbq.cell (p:=⟨b2,o2+(j+1) * 2+1,none⟩) hg2).trans q3⟩)
             ((first
              | (go_at_call 93;refine (Far_any ⟨ax,ay⟩ ⟨bx,by_⟩ _ HRA.out HRBB.out).mono ?_;rintro e w2 ⟨rfl,hb2⟩;rw [HFF.out];replace hbq:=hbq.trans (hb2.mono hbq.size))
              | (go_at_call 89;refine (inV_any _ _ _ _).mono ?_;rintro e w3 ⟨rfl,rfl⟩))))
           | fail "held3"
          all_goals
           go_wp2_with fail
           go_meet
           exact⟨rfl,hbq⟩
         case rest=>
         obtain⟨rfl,hbq⟩:=hcut
         clear hwr1 hwr2 hj4
         have HB3:=Z (HBR2.out.trans (hbq.mono hzr3))
         clear hbq
         cases hd:inV (F:Nat) 1 1000000
         ·have HF:=Z (show ¬Vld p from fun hv=>by
           have h1:=(hv.rail hlt).2
           rw [HLL.out,okL_iff] at h1
           have:=h1 j (by omega)
           rw [HD.out,hd] at this;cases this)
          clear hd
          go_wp2
          go_ret
          exact vfalse HF.out (HB0.out.trans ((HB2.out.trans (HB3.out.mono HB2.out.size)).mono (by omega)))
         ·have HK:=Z (show okTo L (j+1) from fun i hi=>by
           by_cases e:i=j
           ·subst e;rw [HD.out];exact hd
           ·exact HOK.out i (by omega))
          clear hd
          go_wp2
          go_roundw
          case rel=>exact⟨j+1,by omega,by go_num,HK.out,HB3.out⟩
          case measure=>simp [intOf];omega
        ·have hje:L.length=j+1:=by omega
         have HK:=Z (show railOk p p.rails[k]=true by
          simp only [railOk,HRB.out,Bool.true_and]
          rw [HLL.out,okL_iff,hje];exact HOK.out)
         have HB3:=Z (HB2.out.trans (HBR2.out.mono HB2.out.size))
         have hjn:¬((j:Int)+1<(L.length:Int)):=by omega
         clear hje
         go_wp2
         go_roundw
         case rel=>exact⟨k+1,by omega,by go_num,fun i hi hik=>if h:i=k then by subst h;exact HK.out else HA.out i hi (by omega),HB3.out⟩
         case measure=>simp [intOf];omega
    ·obtain rfl:k=p.rails.length:=by omega
     have HRl:=Z (show railsB p=true from all_yes' fun j hj=>HA.out j hj hj)
     clear HA
     obtain⟨i0,hi,hz0,hz1',hz2⟩:=info_parts info126
     go_wp2
     go_loopw [11,12] (fun v i wr=>∃k:Nat,k≤p.nodes.length∧i=O U (k:Int)∧OkTo p k 0∧Own wr W0.heap.size 126 2 fE v (befE p k 0)∧Below W0.heap.size W0 wr) (fun _ i _=>p.nodes.length - (intOf i).toNat)
     case atStart=>exact⟨0,by omega,rfl,OkTo.start p,by rw [befE_zero];exact Own.nil _ _ _ _ _,HBW.out⟩
     case round=>
      clear x0 x1 HBW hzr
      obtain⟨wq2,rfl⟩:∃wq2:World,wq2=wr:=⟨_,rfl⟩
      obtain⟨k,hk,rfl,hok,ho,hbw⟩:=hrel
      have hzr:=hbw.size
      have x0:=(hbw.cell (p:=⟨w.heap.size,0,none⟩) hzw).trans hbx0
      have x1:=(hbw.cell (p:=⟨w.heap.size,1,none⟩) hzw).trans hbx1
      have HBW:=Z hbw;have HOK:=Z hok;have HO:=Z ho
      clear hbw hok ho
      have h4:=Z (ends_le4 HNo.out)
      by_cases hlt:k<p.nodes.length
      ·obtain⟨b,off,A',c',hA,hb,hE,hc1,hc2,k0,k1,k2,k3,k4⟩:=(HP0.out.below HBW.out).node hlt
       subst hA
       have HE:=Z hE
       have he4:=h4.out k hlt
       clear hE k0 k1 k2 k4 k3
       go_wp2
       go_loopw [11,13] (fun v i wr=>∃s:Nat,s≤p.nodes[k].ends.length∧i=O U (s:Int)∧OkTo p k s∧Own wr W0.heap.size 126 2 fE v (befE p k s)∧Below W0.heap.size W0 wr) (fun _ i _=>p.nodes[k].ends.length - (intOf i).toNat)
       case atStart=>exact⟨0,by omega,rfl,HOK.out,HO.out,HBW.out⟩
       case round=>
        clear x0 x1 HBW hzr HOK HO
        obtain⟨wq3,rfl⟩:∃wq3:World,wq3=wr:=⟨_,rfl⟩
        obtain⟨s,hs,rfl,hok,ho,hbw⟩:=hrel
        have hzr:=hbw.size
        have x0:=(hbw.cell (p:=⟨w.heap.size,0,none⟩) hzw).trans hbx0
        have x1:=(hbw.cell (p:=⟨w.heap.size,1,none⟩) hzw).trans hbx1
        have HBW:=Z hbw;have HOK:=Z hok;have HO:=Z ho
        obtain⟨b',off',A'',c'',hA',hb',hE',hc1',hc2',k0,k1,k2,k3,k4⟩:=(HP0.out.below hbw).node hlt
        injection hA' with hA';injection hA' with e1 e2 _;subst e1;subst e2
        have hle:=befE_le h4.out k s
        clear hbw hok ho k0 k1 k2 k4
        by_cases hsl:s<p.nodes[k].ends.length
        ·obtain⟨b3,o3,e3,g3,m0,m1⟩:=end_at hE' hsl
         subst e3
         clear hE'
         obtain⟨⟨er,el⟩,hx⟩:∃x,p.nodes[k].ends[s]=x:=⟨_,rfl⟩
         rw [hx] at m0 m1
         have HX:=Z hx
         clear hx
         simp only at m0 m1
         obtain⟨W1,hW1⟩:∃W1,wq3.alloc (.cells #[O U er,.bool el] 126)=W1:=⟨_,rfl⟩
         have hyy:=show W1.heap[wq3.heap.size]? = some (.cells #[O U er,.bool el] 126) by rw [←hW1];exact heap_alloc_new _ _
         have HYY:=Z hyy
         obtain⟨y0,y1,_,_⟩:=row2 hyy
         have HB1:=Z (show Below wq3.heap.size wq3 W1 by rw [←hW1];exact (Below.refl _ _).alloc (Nat.le_refl _) _)
         have hz1:wq3.heap.size<W1.heap.size:=by rw [←hW1];simp
         have t0:=(HB1.out.cell (p:=⟨w.heap.size,0,none⟩) (by simp;omega)).trans x0
         have t1:=(HB1.out.cell (p:=⟨w.heap.size,1,none⟩) (by simp;omega)).trans x1
         clear hyy
         by_cases r1:0≤er∧er<(p.rails.length:Int)
         case neg=>
          have HF:=Z (show ¬Vld p from fun hv=>not_ok_bad hlt hsl (by rw [HX.out];exact fun h=>r1 ⟨h.1,h.2.1⟩) hv.ends)
          have d1:inV er 0 ((p.rails.length:Int) - 1)=false:=by simp only [inV];simp;omega
          clear r1
          go_wp2_with (go_at_call 89;refine (inV_any _ _ _ _).mono ?_;rintro e w2 ⟨rfl,rfl⟩)
          go_ret
          exact vfalse HF.out (HB0.out.trans ((HBW.out.trans (HB1.out.mono hzr)).mono (by omega)))
         have d1:inV er 0 ((p.rails.length:Int) - 1)=true:=by simp only [inV];simp;omega
         obtain⟨r1a,r1b⟩:=r1
         go_wp2_with (go_at_call 89;refine (inV_any _ _ _ _).mono ?_;rintro e w2 ⟨rfl,rfl⟩)
         have HPA:=Z (show PlAt W1 W1.heap.size _ c _ c2 p from (HP0.out.below (HBW.out.trans (HB1.out.mono hzr))).more (by omega))
         refine (at_any _ _ c c2 p ⟨er,el⟩ _ HPA.out r1a r1b).mono ?_
         rintro e W2 ⟨rfl,hb2⟩
         obtain⟨z,hz⟩:∃z,atZ p ⟨er,el⟩=z:=⟨_,rfl⟩
         rw [hz]
         have HZ2:=Z hz
         have HB2:=Z hb2
         have hz2x:W1.heap.size≤W2.heap.size:=hb2.size
         have HBX:=Z (HBW.out.trans ((HB1.out.trans (hb2.mono (by omega))).mono hzr))
         clear hb2 hz
         by_cases ha:z=(k:Int)
         case neg=>
          have HF:=Z (show ¬Vld p from fun hv=>not_ok_bad hlt hsl (by rw [HX.out];exact fun h=>ha (by rw [←HZ2.out];exact h.2.2)) hv.ends)
          have d2:(z != (k:Int))=true:=by simp [ha]
          have d3:(!(z == (k:Int)))=true:=by simp [ha]
          clear ha
          go_wp2
          go_ret
          exact vfalse HF.out (HB0.out.trans (HBX.out.mono (by omega)))
         have d2:(z != (k:Int))=false:=by simp [ha]
         have d3:(!(z == (k:Int)))=false:=by simp [ha]
         have HOE:=Z (show okE p k ⟨er,el⟩ from⟨r1a,r1b,by rw [HZ2.out];exact ha⟩)
         clear ha
         obtain⟨Av,cv,rfl,hl1,hl2,_⟩:=HO.out.form
         obtain⟨B,hB⟩:∃B,befE p k s=B:=⟨_,rfl⟩
         have HBE:=Z hB
         rw [hB] at hl1 hle
         simp only [hB] at HO
         have hbl:B.length≤1300:=by omega
         have HSl:=Z (show Sl wq3 wq3.heap.size 2 CE Av B from (HO.out.sl fE_len rfl).more (fun _ _ h=>h) (Nat.le_refl _))
         rw [hB]
         clear hB
         go_wp2
         go_loopw [15] (fun i wr=>∃m:Nat,m≤B.length∧i=O U (m:Int)∧(∀t (ht:t<B.length),t<m→B[t]≠⟨er,el⟩)∧Below W2.heap.size W2 wr) (fun i _=>B.length - (intOf i).toNat)
         case atStart=>exact⟨0,by omega,rfl,fun _ _ h=>absurd h (by omega),Below.refl _ _⟩
         case round=>
          obtain⟨m,hm,rfl,hne,hbr⟩:=hrel
          have HNE:=Z hne;have HBR:=Z hbr
          have hzr4:=hbr.size
          have v0:=(hbr.cell (p:=⟨wq3.heap.size,0,none⟩) (by simp;omega)).trans ((HB2.out.cell (p:=⟨wq3.heap.size,0,none⟩) hz1).trans y0)
          have v1:=(hbr.cell (p:=⟨wq3.heap.size,1,none⟩) (by simp;omega)).trans ((HB2.out.cell (p:=⟨wq3.heap.size,1,none⟩) hz1).trans y1)
          have HBW3:=Z (show Below wq3.heap.size wq3 wr from (HB1.out.trans (HB2.out.mono (by omega))).trans (hbr.mono (by omega)))
          clear hne hbr
          by_cases hml:m<B.length
          ·obtain⟨b4,o4,e4,g4,q0,q1⟩:=end_at (HSl.out.below HBW3.out) hml
           obtain⟨⟨cr,cl⟩,hc⟩:∃x,B[m]=x:=⟨_,rfl⟩
           rw [hc] at q0 q1
           have HC:=Z hc
           clear hc
           subst e4
           simp only at q0 q1
           by_cases w0:cr=er
           ·subst w0
            by_cases w1:cl=el
            ·subst w1
             have HF:=Z (show ¬Vld p from fun hv=>not_ok_twice hlt hsl (by rw [HX.out,HBE.out,←HC.out];exact List.getElem_mem hml) hv.ends)
             go_wp2
             go_quiet (fail)
             go_wp2
             go_ret
             exact vfalse HF.out (HB0.out.trans ((HBX.out.trans ((bDrewN HBR.out _).mono (by omega))).mono (by omega)))
            ·have HM:=Z (show B[m]≠⟨cr,el⟩ by rw [HC.out];intro h;injection h;contradiction)
             have n1:(cl == el)=false:=by simpa using w1
             clear w1
             go_wp2
             go_quiet (fail)
             go_wp2
             go_roundw
             case rel=>exact⟨m+1,by omega,by go_num,fun t ht htm=>if h:t=m then by subst h;exact HM.out else HNE.out t ht (by omega),bDrewN HBR.out _⟩
             case measure=>simp [intOf];omega
           ·have HM:=Z (show B[m]≠⟨er,el⟩ by rw [HC.out];intro h;injection h;contradiction)
            have n1:(cr == er)=false:=by simpa using w0
            clear w0
            go_wp2
            go_quiet (fail)
            go_wp2
            go_roundw
            case rel=>exact⟨m+1,by omega,by go_num,fun t ht htm=>if h:t=m then by subst h;exact HM.out else HNE.out t ht (by omega),bDrewN HBR.out _⟩
            case measure=>simp [intOf];omega
          ·obtain rfl:m=B.length:=by omega
           have HST:=Z (HOK.out.step hlt hsl (by rw [HX.out];exact HOE.out) (by
            rw [HX.out,HBE.out];intro hmem
            obtain⟨t,ht,e⟩:=List.getElem_of_mem hmem
            exact HNE.out t ht ht e))
           have HBS:=Z (show befE p k (s+1)=B ++ [⟨er,el⟩] by rw [befE_succ hlt hsl,HBE.out,HX.out])
           have HO1:=Z (show Own wr W0.heap.size 126 2 fE (.slice Av B.length cv) B from HO.out.below HBW3.out (Nat.le_refl _))
           have hzz:W0.heap.size≤wr.heap.size:=by omega
           clear HNE
           go_wp2_with (at_builtin;go_must (refine wpList_app _ rfl (.tmp 214) (.tmp 216) _ rfl W0.heap.size 126 i0 _ 2 16 Tryz.underlying127 hi hz0 hz1' hz2 rfl (by omega) fE_len fE_one (.slice Av B.length cv) B rfl (HO1.out.alloc _) _ _ [(⟨er,el⟩:E)] 1 rfl (Sl.new _ _ (⟨er,el⟩:E) _ rfl) (by unfold maxLen;simp only [List.length_cons,List.length_nil];omega) (by simp only [List.length_cons,List.length_nil];omega) (by simp;omega) (fun _=> .inr ⟨_,rfl⟩) ?_);intro v2 w4 o2 gr2 at2 ne2)
           refine⟨⟨s+1,by omega,by go_num,HST.out,by rw [HBS.out];exact o2,((HBW.out.trans (HBW3.out.mono hzr)).alloc hzz _).grown gr2 (by simp;omega) (fun k hk=>(HO1.out.lt k hk).1)⟩,by simp [intOf];omega⟩
        ·obtain rfl:s=p.nodes[k].ends.length:=by omega
         have HNX:=Z (HOK.out.next hlt)
         have HON:=Z (show Own wq3 W0.heap.size 126 2 fE u11 (befE p (k+1) 0) by rw [←befE_next hlt];exact HO.out)
         clear hE'
         go_wp2
         go_roundw
         case rel=>exact⟨k+1,by omega,by go_num,HNX.out,HON.out,HBW.out⟩
         case measure=>simp [intOf];omega
      ·obtain rfl:k=p.nodes.length:=by omega
       have HAL:=Z (ok_all HOK.out)
       obtain⟨Av,cv,rfl,hl1,hl2,_⟩:=HO.out.form
       have hle:=befE_le h4.out p.nodes.length 0
       obtain⟨B,hB⟩:∃B,befE p p.nodes.length 0=B:=⟨_,rfl⟩
       have HAL2:=Z (show okEnds p ↔ B.length=2 * p.rails.length by rw [←hB];exact HAL.out)
       rw [hB] at hl1 hle
       rw [hB]
       clear hB HO
       by_cases hq:B.length=2 * p.rails.length
       ·have HV:=Z (show Vld p from⟨HS.out,HNo.out,HRl.out,HAL2.out.2 hq⟩)
        have q1:((B.length:Int) == 2 * (p.rails.length:Int))=true:=by simp;omega
        clear hq
        go_wp2
        go_ret
        exact⟨⟨true,rfl,fun _=>HV.out,fun _=>rfl⟩,HB0.out.trans (HBW.out.mono (by omega))⟩
       ·have HF:=Z (show ¬Vld p from fun hv=>hq (HAL2.out.1 hv.ends))
        have q1:((B.length:Int) == 2 * (p.rails.length:Int))=false:=by simp;omega
        clear hq
        go_wp2
        go_ret
        exact vfalse HF.out (HB0.out.trans (HBW.out.mono (by omega)))
end Go.Proofs.YtfhkbbjddjddmaaGreat
