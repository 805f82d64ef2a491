/- Texts B1 B2 B3. -/
import Derived.Test.YtfhkbbjddjddmaaGreatOwn
import Derived.Test.YtfhkbbjddjddmaaGreatLen
import Derived.Test.YtfhkbbjddjddmaaGreatJA
import Derived.Deep.DeepMust
import Derived.Deep.RegionHeld3
import Derived.IntWalk
set_option linter.unusedVariables false
set_option linter.unusedSimpArgs false
open Go.Value renaming int→O
open Go.IntKind renaming i64→U
open Go.Lib renaming hid→Z
namespace Go.Proofs.YtfhkbbjddjddmaaGreat
open Go.RowKit
theorem info129:(Tryz.prog.info? 129).map (fun i=>(i.zero,i.size,i.bytes))=some (some (.agg #[O U 0,O U 0]),2,16):=by kernel_rfl
theorem info3:(Tryz.prog.info? 3).map (fun i=>(i.zero,i.size,i.bytes))=some (some (O U 0),1,8):=by kernel_rfl
def spotOf (p:Pl) (i:Int):S:=((p.nodes[i.toNat]?).map (·.spot)).getD S0
def lineOf (p:Pl) (r:R):List S:=spotOf p r.frm :: (r.shape ++ [spotOf p r.to])
def nodeIx (p:Pl) (i:Int):Prop:=0≤i∧i<p.nodes.length
theorem spotOf_eq {p:Pl} {i:Int} {k:Nat} (hi:i=k) (hk:k<p.nodes.length):spotOf p i=p.nodes[k].spot:=by
  subst hi;simp [spotOf,hk]
set_option maxHeartbeats 1000000 in
set_option maxRecDepth 100000 in
set_option maxHeartbeats 2000000 in
theorem rLine_any (A A2:Option Addr) (c c2:Nat) (p:Pl) (r:Nat) (w:World) (hP:PlAt w w.heap.size A c A2 c2 p) (hr:r<p.rails.length) (h1:nodeIx p p.rails[r].frm) (h2:nodeIx p p.rails[r].to) (hs:p.rails[r].shape.length≤40) :
    Calls Tryz.prog 92 #[.agg #[.slice A p.nodes.length c,.slice A2 p.rails.length c2],O U r] w fun e w'=>
      ∃v,e= .returned v∧Own w' w.heap.size 129 2 fS v (lineOf p p.rails[r])∧Below w.heap.size w w':=by
  obtain⟨i0,hi,hz0,hz1,hz2⟩:=info_parts info129
  have hrc:=hP.rc;have hrm:=hP.rm;have hnc:=hP.nc;have hnm:=hP.nm
  obtain⟨b,off,A',c',rfl,hb,hE,hc1,hc2,k0,k1,k2,k3,k4⟩:=hP.rail hr
  obtain⟨fr,hfr⟩:=Int.eq_ofNat_of_zero_le h1.1
  obtain⟨to,hto⟩:=Int.eq_ofNat_of_zero_le h2.1
  have hfl:fr<p.nodes.length:=by have:=h1.2;omega
  have htl:to<p.nodes.length:=by have:=h2.2;omega
  obtain⟨b2,off2,A3,c3,rfl,hb2,_,_,_,n0,n1,_,_,_⟩:=hP.node hfl
  obtain⟨b2',off2',A3',c3',hA',_,_,_,_,m0,m1,_,_,_⟩:=hP.node htl
  injection hA' with hA';injection hA' with e1 e2 _;subst e1;subst e2
  rw [hfr] at k0
  rw [hto] at k1
  have HF:=Z hfr;have HT:=Z hto;clear hfr hto h1 h2
  go_enter Tryz.func92,Tryz.ntmps92
  have g0:Own (((w.alloc (.cells #[.slice (some ⟨b2,off2,none⟩) p.nodes.length c,.slice (some ⟨b,off,none⟩) p.rails.length c2] 60)).alloc (.cells #[O U fr,O U to,.slice A' p.rails[r].shape.length c',O U p.rails[r].limit,O U p.rails[r].slope] 75)).alloc (.cells #[O U p.nodes[fr].spot.x,O U p.nodes[fr].spot.y] 129)) w.heap.size 129 2 fS (.slice (some ⟨w.heap.size+1+1,0,none⟩) 1 1) [p.nodes[fr].spot]:=by
    have:=Own.built (f:=fS) (size:=2) ((w.alloc (.cells #[.slice (some ⟨b2,off2,none⟩) p.nodes.length c,.slice (some ⟨b,off,none⟩) p.rails.length c2] 60)).alloc (.cells #[O U fr,O U to,.slice A' p.rails[r].shape.length c',O U p.rails[r].limit,O U p.rails[r].slope] 75)) w.heap.size 129 p.nodes[fr].spot #[O U p.nodes[fr].spot.x,O U p.nodes[fr].spot.y] rfl fS_len (by simp;omega)
    simpa using this
  go_wp2_with (first
    | (at_builtin;refine wpList_app _ rfl (.tmp 20) (.tmp 22) _ rfl w.heap.size 129 i0 _ 2 16 Tryz.underlying73 hi hz0 hz1 hz2 rfl (by omega) fS_len fS_one (.slice (some ⟨w.heap.size+1+1,0,none⟩) 1 1) _ rfl g0 w.heap.size A' p.rails[r].shape c' rfl (hE.below (((Below.refl _ _).alloc (Nat.le_refl _) _).alloc (by simp) _ |>.alloc (by simp;omega) _)) (by simp [maxLen];omega) (by simp;omega) (by simp;omega) (fun _=>by cases A' <;> simp) ?_
       intro v1 w1 o1 gr1 at1 ne1
       have hb1:Below (w.heap.size+2) _ w1:=(Below.refl _ _).grown gr1 (by simp) (by intro k hk;have h':w.heap.size+1+1=k:=Option.some.inj hk;omega)
       obtain⟨hc1',hf1'⟩:=bcell hb1
       have hz1':=hb1.size
       simp at hz1'
       have hb0:Below w.heap.size w w1:=((((Below.refl _ _).alloc (Nat.le_refl _) _).alloc (by simp) _).alloc (by simp;omega) _).grown gr1 (by simp;omega) (by intro k hk;have h':w.heap.size+1+1=k:=Option.some.inj hk;omega)
       have q0:=(hb0.cell (p:=⟨b2,off2+to * 5,none⟩) hb2).trans m0
       have q1:=(hb0.cell (p:=⟨b2,off2+to * 5+1,none⟩) hb2).trans m1
       clear gr1 g0)
    | (at_builtin;go_must (refine wpList_app _ rfl (.tmp 24) (.tmp 32) _ rfl w.heap.size 129 i0 _ 2 16 Tryz.underlying73 hi hz0 hz1 hz2 rfl (by omega) fS_len fS_one v1 _ rfl (o1.alloc _) _ _ [p.nodes[to].spot] 1 rfl (Sl.new _ _ p.nodes[to].spot _ rfl) (by simp [maxLen];omega) (by simp;omega) (by simp;omega) (fun _=> .inr ⟨_,rfl⟩) ?_)
       intro v2 w2 o2 gr2 at2 ne2))
  go_ret
  refine⟨v2,rfl, ?_,(hb0.alloc (by omega) _).grown gr2 (by simp;omega) (fun k hk=>(o1.lt k hk).1)⟩
  rw [show lineOf p p.rails[r]= [p.nodes[fr].spot] ++ p.rails[r].shape ++ [p.nodes[to].spot] by simp [lineOf,spotOf_eq HF.out hfl,spotOf_eq HT.out htl]]
  exact o2
set_option maxRecDepth 100000 in
set_option maxHeartbeats 2000000 in
theorem sLine_any (A A2:Option Addr) (c c2:Nat) (p:Pl) (r:Nat) (w:World) (hP:PlAt w w.heap.size A c A2 c2 p) (hr:r<p.rails.length) (h1:nodeIx p p.rails[r].frm) (h2:nodeIx p p.rails[r].to) (hs:p.rails[r].shape.length≤40) :
    Calls Tryz.prog 82 #[.agg #[.slice A p.nodes.length c,.slice A2 p.rails.length c2],O U r] w fun e w'=>
      ∃v,e= .returned v∧Own w' w.heap.size 129 2 fS v (lineOf p p.rails[r])∧Below w.heap.size w w':=by
  obtain⟨i0,hi,hz0,hz1,hz2⟩:=info_parts info129
  have hrc:=hP.rc;have hrm:=hP.rm;have hnc:=hP.nc;have hnm:=hP.nm
  obtain⟨b,off,A',c',rfl,hb,hE,hc1,hc2,k0,k1,k2,k3,k4⟩:=hP.rail hr
  obtain⟨fr,hfr⟩:=Int.eq_ofNat_of_zero_le h1.1
  obtain⟨to,hto⟩:=Int.eq_ofNat_of_zero_le h2.1
  have hfl:fr<p.nodes.length:=by have:=h1.2;omega
  have htl:to<p.nodes.length:=by have:=h2.2;omega
  obtain⟨b2,off2,A3,c3,rfl,hb2,_,_,_,n0,n1,_,_,_⟩:=hP.node hfl
  obtain⟨b2',off2',A3',c3',hA',_,_,_,_,m0,m1,_,_,_⟩:=hP.node htl
  injection hA' with hA';injection hA' with e1 e2 _;subst e1;subst e2
  rw [hfr] at k0
  rw [hto] at k1
  have HF:=Z hfr;have HT:=Z hto;clear hfr hto h1 h2
  go_enter Tryz.func82,Tryz.ntmps82
  have hb21:b2<w.heap.size+1:=by omega
  have hb22:b2<w.heap.size+1+1:=by omega
  have hb23:b2<w.heap.size+1+1+1:=by omega
  have hmk:=fun W:World=>run_mk (P:=Tryz.prog) 73 129 i0 _ 2 Tryz.underlying73 hi hz0 hz1 0 ((p.rails[r].shape.length:Int)+2) 0 (p.rails[r].shape.length+2) rfl rfl (by omega) (by rw [hz2];omega) (by omega) W
  have g0:Own ((((w.alloc (.cells #[.slice (some ⟨b2,off2,none⟩) p.nodes.length c,.slice (some ⟨b,off,none⟩) p.rails.length c2] 60)).alloc (.cells #[O U fr,O U to,.slice A' p.rails[r].shape.length c',O U p.rails[r].limit,O U p.rails[r].slope] 75)).alloc (.cells (madeCells #[O U 0,O U 0] ((p.rails[r].shape.length+2) * 2)) 129)).alloc (.cells #[O U p.nodes[fr].spot.x,O U p.nodes[fr].spot.y] 129)) w.heap.size 129 2 fS (.slice (some ⟨w.heap.size+1+1,0,none⟩) 0 (p.rails[r].shape.length+2)) []:=by
    have:=(Own.made (f:=fS) (size:=2) (base:=w.heap.size) (e:=129) ((w.alloc (.cells #[.slice (some ⟨b2,off2,none⟩) p.nodes.length c,.slice (some ⟨b,off,none⟩) p.rails.length c2] 60)).alloc (.cells #[O U fr,O U to,.slice A' p.rails[r].shape.length c',O U p.rails[r].limit,O U p.rails[r].slope] 75)) (madeCells #[O U 0,O U 0] ((p.rails[r].shape.length+2) * 2)) (p.rails[r].shape.length+2) (by simp;omega) (by simp [maxLen];omega) (size_madeCells _ _)).alloc (.cells #[O U p.nodes[fr].spot.x,O U p.nodes[fr].spot.y] 129)
    simpa using this
  have g1:Sl ((((w.alloc (.cells #[.slice (some ⟨b2,off2,none⟩) p.nodes.length c,.slice (some ⟨b,off,none⟩) p.rails.length c2] 60)).alloc (.cells #[O U fr,O U to,.slice A' p.rails[r].shape.length c',O U p.rails[r].limit,O U p.rails[r].slope] 75)).alloc (.cells (madeCells #[O U 0,O U 0] ((p.rails[r].shape.length+2) * 2)) 129)).alloc (.cells #[O U p.nodes[fr].spot.x,O U p.nodes[fr].spot.y] 129)) (w.heap.size+1+1+1+1) 2 (fun x cs=>cs=fS x) (some ⟨w.heap.size+1+1+1,0,none⟩) [p.nodes[fr].spot]:=by
    have:=Sl.new (f:=fS) (size:=2) (((w.alloc (.cells #[.slice (some ⟨b2,off2,none⟩) p.nodes.length c,.slice (some ⟨b,off,none⟩) p.rails.length c2] 60)).alloc (.cells #[O U fr,O U to,.slice A' p.rails[r].shape.length c',O U p.rails[r].limit,O U p.rails[r].slope] 75)).alloc (.cells (madeCells #[O U 0,O U 0] ((p.rails[r].shape.length+2) * 2)) 129)) 129 p.nodes[fr].spot #[O U p.nodes[fr].spot.x,O U p.nodes[fr].spot.y] rfl
    simpa using this
  go_wp2_with (first
    | (at_builtin;have _t:=hmk;go_must (refine wpList_app _ rfl (.tmp 17) (.tmp 25) _ rfl w.heap.size 129 i0 _ 2 16 Tryz.underlying73 hi hz0 hz1 hz2 rfl (by omega) fS_len fS_one (.slice (some ⟨w.heap.size+1+1,0,none⟩) 0 (p.rails[r].shape.length+2)) [] rfl g0 _ _ [p.nodes[fr].spot] 1 rfl g1 (by simp [maxLen]) (by simp) (by simp;omega) (fun _=> .inr ⟨_,rfl⟩) ?_)
       intro v0 w0 o0 gr0 at0 ne0
       have hbA:Below (w.heap.size+2) _ w0:=(Below.refl _ _).grown gr0 (by simp) (by intro k hk;have h':w.heap.size+1+1=k:=Option.some.inj hk;omega)
       obtain⟨hcA,hfA⟩:=bcell hbA
       have hzA:=hbA.size
       simp at hzA
       have hb00:Below w.heap.size w w0:=(((((Below.refl _ _).alloc (Nat.le_refl _) _).alloc (by simp) _).alloc (by simp;omega) _).alloc (by simp;omega) _).grown gr0 (by simp;omega) (by intro k hk;have h':w.heap.size+1+1=k:=Option.some.inj hk;omega)
       clear gr0 hmk g0 g1)
    | (at_builtin;have _t:=o0;refine wpList_app _ rfl (.tmp 27) (.tmp 29) _ rfl w.heap.size 129 i0 _ 2 16 Tryz.underlying73 hi hz0 hz1 hz2 rfl (by omega) fS_len fS_one v0 _ rfl o0 w.heap.size A' p.rails[r].shape c' rfl (hE.below hb00) (by simp [maxLen];omega) (by simp;omega) (by omega) (fun _=>by cases A' <;> simp) ?_
       intro v1 w1 o1 gr1 at1 ne1
       have hr0:=o0.lt
       go_must (have hbB:Below (w.heap.size+2) _ w1:=(Below.refl _ w0).grown gr1 (by omega) (fun k hk=>own_ge at0 hk (by omega) (by simp)))
       obtain⟨hcB,hfB⟩:=bcell hbB
       have hzB:=hbB.size
       have hb01:Below w.heap.size w w1:=hb00.grown gr1 (by omega) (fun k hk=>(hr0 k hk).1)
       have q0:=(hb01.cell (p:=⟨b2,off2+to * 5,none⟩) hb2).trans m0
       have q1:=(hb01.cell (p:=⟨b2,off2+to * 5+1,none⟩) hb2).trans m1
       clear gr1 o0 hr0)
    | (at_builtin;have _t:=o1;go_must (refine wpList_app _ rfl (.tmp 31) (.tmp 39) _ rfl w.heap.size 129 i0 _ 2 16 Tryz.underlying73 hi hz0 hz1 hz2 rfl (by omega) fS_len fS_one v1 _ rfl (o1.alloc _) _ _ [p.nodes[to].spot] 1 rfl (Sl.new _ _ p.nodes[to].spot _ rfl) (by simp [maxLen];omega) (by simp;omega) (by simp;omega) (fun _=> .inr ⟨_,rfl⟩) ?_)
       intro v2 w2 o2 gr2 at2 ne2))
  go_ret
  refine⟨v2,rfl, ?_,(hb01.alloc (by omega) _).grown gr2 (by simp;omega) (fun k hk=>(o1.lt k hk).1)⟩
  rw [show lineOf p p.rails[r]= [] ++ [p.nodes[fr].spot] ++ p.rails[r].shape ++ [p.nodes[to].spot] by simp [lineOf,spotOf_eq HF.out hfl,spotOf_eq HT.out htl]]
  exact o2
open Go.RowKit
def allR (l:List S):Prop:=∀k,k<l.length→inR (sAt l k)
set_option maxRecDepth 100000 in
set_option maxHeartbeats 2000000 in
theorem rLength_any (A A2:Option Addr) (c c2:Nat) (p:Pl) (r:Nat) (w:World) (hP:PlAt w w.heap.size A c A2 c2 p) (hr:r<p.rails.length) (h1:nodeIx p p.rails[r].frm) (h2:nodeIx p p.rails[r].to) (hs:p.rails[r].shape.length≤40)
    (hR:allR (lineOf p p.rails[r])) :
    Calls Tryz.prog 69 #[.agg #[.slice A p.nodes.length c,.slice A2 p.rails.length c2],O U r] w fun e w'=>
      e= .returned (O U (lenOf (lineOf p p.rails[r]):Nat))∧Below w.heap.size w w':=by
  have hl:(lineOf p p.rails[r]).length=p.rails[r].shape.length+2:=by simp [lineOf]
  obtain⟨L,hL⟩:∃L,lineOf p p.rails[r]=L:=⟨_,rfl⟩
  rw [hL] at hl hR ⊢
  have HL:=Z hL;have hll:L.length≤42:=by omega
  have hl1:1<L.length:=by omega
  clear hL hl
  go_enter Tryz.func69,Tryz.ntmps69
  go_wp2_with fail
  refine (rLine_any A A2 c c2 p r _ ((hP.below ((Below.refl _ _).alloc (Nat.le_refl _) _)).more (by simp)) hr h1 h2 hs).mono ?_
  rintro e w1 ⟨v,rfl,ho,hb1⟩
  rw [HL.out] at ho
  obtain⟨A',c',rfl,hc1,hc2,_⟩:=ho.form
  have hS:=ho.sl fS_len rfl
  have hb0:Below w.heap.size w w1:=((Below.refl _ _).alloc (Nat.le_refl _) _).trans (hb1.mono (by simp))
  obtain⟨B1,hB1⟩:∃B1,w1.heap.size=B1:=⟨_,rfl⟩
  rw [hB1] at hS
  have hB1':B1≤w1.heap.size:=by omega
  have hwB:w.heap.size≤B1:=by have:=hb0.size;omega
  clear hB1 ho hb1 hP
  go_wp2
  go_loopw [6,7] (fun n i wr=>∃k:Nat,k+1≤L.length∧i=O U ((k:Int)+1)∧n=O U (lenTo L k:Nat)∧Below w.heap.size w wr∧Below B1 w1 wr) (fun _ i _=>L.length - (intOf i).toNat)
  case atStart=>exact⟨0,by omega,rfl,rfl,hb0,Below.refl _ _⟩
  case round=>
    obtain⟨k,hk,rfl,rfl,hbw,hb1⟩:=hrel
    by_cases hlt:k+1<L.length
    · have hlen:=lenTo_le L k
      have hfar:=far_lt (sAt L k) (sAt L (k+1))
      obtain⟨b,off,hA,hb,q0,q1⟩:=spot_at hS (i:=k) (by omega)
      obtain⟨b',off',hA',_,q2,q3⟩:=spot_at hS (i:=k+1) (by omega)
      subst hA
      injection hA' with hA';injection hA' with e1 e2 _;subst e1;subst e2
      rw [←sAt_eq (by omega)] at q0 q1
      rw [←sAt_eq hlt] at q2 q3
      have c0:=(hb1.cell (p:=⟨b,off+k * 2,none⟩) hb).trans q0
      have c1:=(hb1.cell (p:=⟨b,off+k * 2+1,none⟩) hb).trans q1
      have c2:=(hb1.cell (p:=⟨b,off+(k+1) * 2,none⟩) hb).trans q2
      have c3:=(hb1.cell (p:=⟨b,off+(k+1) * 2+1,none⟩) hb).trans q3
      have hbs:b<wr.heap.size:=by have:=hb1.size;omega
      clear q0 q1 q2 q3
      have i0:(0:Int)≤(k:Int):=by omega
      have i1:(k:Int)<(L.length:Int):=by omega
      have i2:(0:Int)≤(k:Int)+1:=by omega
      have i3:(k:Int)+1<(L.length:Int):=by omega
      have i4:IntKind.i64.wrap (k:Int)=k:=IntWalk.i64_in _ (by omega)
      have i5:((k:Int)+1).toNat=k+1:=by omega
      have i6:IntKind.i64.wrap ((lenTo L k:Int)+(far (sAt L k) (sAt L (k+1)):Int))=(lenTo L k:Int)+(far (sAt L k) (sAt L (k+1)):Int):=IntWalk.i64_in _ (by omega)
      go_wp2_with fail
      go_region_held3 (fun w'=>w'.cell? ⟨b,off+k * 2,none⟩=some (O U (sAt L k).x)∧w'.cell? ⟨b,off+k * 2+1,none⟩=some (O U (sAt L k).y)∧
          w'.cell? ⟨b,off+(k+1) * 2,none⟩=some (O U (sAt L (k+1)).x)∧w'.cell? ⟨b,off+(k+1) * 2+1,none⟩=some (O U (sAt L (k+1)).y))
        (first|go_keep|(refine⟨?_, ?_, ?_, ?_⟩ <;> (rw [hbf.cell (by simp;omega)];assumption)))
        ((go_at_call 93;refine (Far_any _ _ _ (hR k (by omega)) (hR (k+1) hlt)).mono ?_;rintro e w2 ⟨rfl,hbf⟩))
      go_wp2
      clear i4 i5 i6
      go_roundw
      case rel=>
        have hsz:w.heap.size≤wr.heap.size:=hbw.size
        exact⟨k+1,by omega,by go_num,by rw [show lenTo L (k+1)=lenTo L k+far (sAt L k) (sAt L (k+1)) from rfl,Int.natCast_add],hbw.trans ((Below.refl _ _).drew.trans (hbf.mono (by simp;omega))),hb1.trans ((Below.refl _ _).drew.trans (hbf.mono (by simp;have:=hb1.size;omega)))⟩
      case measure=>simp [intOf];omega
    · obtain rfl:k=L.length - 1:=by omega
      go_wp2
      go_ret
      exact⟨rfl,hbw⟩
open Go.RowKit
def lenRes (L:List S):Value:=if okL L=true then .tuple #[O U (lenOf L:Nat),.bool true] else .tuple #[O U 0,.bool false]
theorem lenRes_yes {L:List S} (h:okTo L (L.length - 1)):lenRes L= .tuple #[O U (lenOf L:Nat),.bool true]:=by rw [lenRes,if_pos ((okL_iff L).2 h)]
theorem lenRes_no {L:List S} {k:Nat} (hk:k+1<L.length) (h:okD (sAt L k) (sAt L (k+1))=false):lenRes L= .tuple #[O U 0,.bool false]:=by
  rw [lenRes,if_neg]
  intro h'
  rw [okL_iff] at h'
  have:=h' k (by omega)
  rw [h] at this;cases this
theorem ret_v {a b:Value} (h:a=b):Ending.returned a= .returned b:=by rw [h]
set_option maxRecDepth 100000 in
set_option maxHeartbeats 2000000 in
theorem sLength_any (A:Option Addr) (L:List S) (cc:Nat) (w:World) (hS:Sl w w.heap.size 2 CS A L) (hll:L.length≤42) (hl1:1<L.length) (hR:allR L) :
    Calls Tryz.prog 81 #[.slice A L.length cc] w fun e w'=>e= .returned (lenRes L)∧Below w.heap.size w w':=by
  go_enter Tryz.func81,Tryz.ntmps81
  go_wp2
  go_loopw [4,5,6,7] (fun n i d o wr=>∃k:Nat,k+1≤L.length∧i=O U ((k:Int)+1)∧n=O U (lenTo L k:Nat)∧okTo L k∧Below w.heap.size w wr) (fun _ i _ _ _=>L.length - (intOf i).toNat)
  case atStart=>exact⟨0,by omega,rfl,rfl,fun j h=>absurd h (by omega),Below.refl _ _⟩
  case round=>
    obtain⟨k,hk,rfl,rfl,hok,hbw⟩:=hrel
    have HO:=Z hok;clear hok
    by_cases hlt:k+1<L.length
    · have hlen:=lenTo_le L k
      have hfar:=far_lt (sAt L k) (sAt L (k+1))
      obtain⟨b,off,hA,hb,q0,q1⟩:=spot_at hS (i:=k) (by omega)
      obtain⟨b',off',hA',_,q2,q3⟩:=spot_at hS (i:=k+1) (by omega)
      subst hA
      injection hA' with hA';injection hA' with e1 e2 _;subst e1;subst e2
      rw [←sAt_eq (by omega)] at q0 q1
      rw [←sAt_eq hlt] at q2 q3
      have c0:=(hbw.cell (p:=⟨b,off+k * 2,none⟩) hb).trans q0
      have c1:=(hbw.cell (p:=⟨b,off+k * 2+1,none⟩) hb).trans q1
      have c2:=(hbw.cell (p:=⟨b,off+(k+1) * 2,none⟩) hb).trans q2
      have c3:=(hbw.cell (p:=⟨b,off+(k+1) * 2+1,none⟩) hb).trans q3
      have hsz:=hbw.size
      have hbs:b<wr.heap.size:=by omega
      clear q0 q1 q2 q3 hS
      have i0:(0:Int)≤(k:Int):=by omega
      have i1:(k:Int)<(L.length:Int):=by omega
      have i2:(0:Int)≤(k:Int)+1:=by omega
      have i3:(k:Int)+1<(L.length:Int):=by omega
      have i4:IntKind.i64.wrap (k:Int)=k:=IntWalk.i64_in _ (by omega)
      have i5:((k:Int)+1).toNat=k+1:=by omega
      have r1:=hR k (by omega)
      have r2:=hR (k+1) hlt
      by_cases hd:okD (sAt L k) (sAt L (k+1))=true
      · have hd':1≤sqd (sAt L k) (sAt L (k+1))∧sqd (sAt L k) (sAt L (k+1))<1000002000001:=by simpa [okD] using hd
        have HD:=Z hd;clear hd
        go_wp2_with fail
        go_region_held3 (fun w'=>w'.cell? ⟨b,off+k * 2,none⟩=some (O U (sAt L k).x)∧w'.cell? ⟨b,off+k * 2+1,none⟩=some (O U (sAt L k).y)∧
            w'.cell? ⟨b,off+(k+1) * 2,none⟩=some (O U (sAt L (k+1)).x)∧w'.cell? ⟨b,off+(k+1) * 2+1,none⟩=some (O U (sAt L (k+1)).y))
          (first|go_keep|(refine⟨?_, ?_, ?_, ?_⟩ <;> (rw [hbf.cell (by simp;omega)];assumption)))
          ((go_at_call 104;refine (Distance_yes _ _ _ r1 r2 hd'.1 hd'.2).mono ?_;rintro e w2 ⟨rfl,hbf⟩))
        go_wp2
        clear i4 i5
        go_roundw
        case rel=>
          exact⟨k+1,by omega,by go_num,by rw [show lenTo L (k+1)=lenTo L k+far (sAt L k) (sAt L (k+1)) from rfl,Int.natCast_add],
            fun j hj=>if h:j=k then by subst h;exact HD.out else HO.out j (by omega),hbw.trans ((Below.refl _ _).drew.trans (hbf.mono (by simp;omega)))⟩
        case measure=>simp [intOf];omega
      · have hd2:okD (sAt L k) (sAt L (k+1))=false:=by simpa using hd
        have hd':sqd (sAt L k) (sAt L (k+1))=0∨1000002000001≤sqd (sAt L k) (sAt L (k+1)):=by simp [okD] at hd;omega
        have HD:=Z (lenRes_no hlt hd2);have HD2:=Z hd';clear hd hd2 hd'
        go_wp2_with fail
        go_region_held3 (fun w'=>w'.cell? ⟨b,off+k * 2,none⟩=some (O U (sAt L k).x)∧w'.cell? ⟨b,off+k * 2+1,none⟩=some (O U (sAt L k).y)∧
            w'.cell? ⟨b,off+(k+1) * 2,none⟩=some (O U (sAt L (k+1)).x)∧w'.cell? ⟨b,off+(k+1) * 2+1,none⟩=some (O U (sAt L (k+1)).y))
          (first|go_keep|(refine⟨?_, ?_, ?_, ?_⟩ <;> (rw [hbf.cell (by simp;omega)];assumption)))
          ((go_at_call 104;refine (Distance_no _ _ _ r1 r2 HD2.out).mono ?_;rintro e w2 ⟨rfl,hbf⟩))
        go_wp2
        go_ret2
        exact⟨ret_v HD.out.symm,hbw.trans ((Below.refl _ _).drew.trans (hbf.mono (by simp;omega)))⟩
    · obtain rfl:k=L.length - 1:=by omega
      have HD:=Z (lenRes_yes HO.out)
      go_wp2
      go_ret2
      exact⟨ret_v HD.out.symm,hbw⟩
end Go.Proofs.YtfhkbbjddjddmaaGreat
