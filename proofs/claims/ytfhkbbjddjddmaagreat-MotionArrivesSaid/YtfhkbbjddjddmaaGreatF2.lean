/- Contract: link. -/
import Derived.Test.YtfhkbbjddjddmaaGreatJD
import Derived.Test.YtfhkbbjddjddmaaGreatJS
import Derived.Outline
import Derived.Test.YtfhkbbjddjddmaaGreatRgo
set_option linter.unusedVariables false
set_option linter.unusedSimpArgs false
open Go.Value renaming int→O
open Go.IntKind renaming i64→U
open Go.Lib renaming hid→Z
namespace Go.Proofs.YtfhkbbjddjddmaaGreat
open Go.RowKit Go.Shelf
attribute [local go_sem] Oper.semAt_some
set_option maxRecDepth 100000 in
set_option maxHeartbeats 12000000 in
theorem link_any (g sb:Nat) (A A2:Option Addr) (c c2:Nat) (p:Pl) (Lv Nv Bv:Value) (w:World) (hV:Vld p)
  (hN:Net w g A c A2 c2 p Lv (.slice (some ⟨sb,0,none⟩) (2 * p.rails.length) (2 * p.rails.length)) Nv Bv) (hS:IRow w sb (slotsOf p)) (hsg:sb≠g) :
  Calls Tryz.prog 120 #[.pointer (some ⟨g,0,none⟩)] w fun e w'=>e= .returned (.tuple #[])∧Gr g w w'∧
   ∃vs us:List Value,Rws (w.heap.size+1) (w.heap.size+2) (w.heap.size+3) (2 * p.rails.length) vs us (nextL p) (befL p (2 * p.rails.length)) w'∧
    Net w' g A c A2 c2 p Lv (.slice (some ⟨sb,0,none⟩) (2 * p.rails.length) (2 * p.rails.length)) (.slice (some ⟨w.heap.size+1,0,none⟩) (2 * p.rails.length) (2 * p.rails.length)) (.slice (some ⟨w.heap.size+2,0,none⟩) (2 * p.rails.length) (2 * p.rails.length)):=by
 obtain⟨i0,hi,hz0,hz1,hz2⟩:=info_parts info22
 have hszs:p.nodes.length≤300∧p.rails.length≤400:=by have:=of_decide_eq_true hV.sizes;omega
 obtain⟨c0,c1,c2',c3,c4,c5⟩:=hN.cell
 have hgl:=hN.lt
 have f4:=hN.frozen 4
 have f5:=hN.frozen 5
 have hmk:=fun W:World=>run_mk (P:=Tryz.prog) 169 22 i0 _ 1 Tryz.underlying169 hi hz0 hz1 (2 * (p.rails.length:Int)) (2 * (p.rails.length:Int)) (2 * p.rails.length) (2 * p.rails.length) (by simp) (by simp) (by omega) (by rw [hz2];omega) (by omega) W
 have hwr:IntKind.i64.wrap (2 * (p.rails.length:Int))=2 * (p.rails.length:Int):=by rw [IntKind.wrap_i64];omega
 obtain⟨M,hM⟩:∃M,2 * p.rails.length=M:=⟨_,rfl⟩
 obtain⟨W1,hW1⟩:∃W1,(((w.setCell ⟨g,4,none⟩ (.slice (some ⟨w.heap.size+1,0,none⟩) (2 * p.rails.length) (2 * p.rails.length))).alloc (.cells #[.pointer (some ⟨g,0,none⟩)] 119)).alloc (.cells (madeCells #[.slice none 0 0] (2 * p.rails.length)) 22)).drew=W1:=⟨_,rfl⟩
 have hN1:Net W1 g A c A2 c2 p Lv (.slice (some ⟨sb,0,none⟩) M M) (.slice (some ⟨w.heap.size+1,0,none⟩) M M) Bv:=by
  rw [←hW1,←hM];exact (((hN.set4 _).alloc _).alloc _).drewN 1
 have hx1:W1.cell? ⟨w.heap.size,0,none⟩=some (.pointer (some ⟨g,0,none⟩)):=by
  rw [←hW1]
  have h1:=cell_made (w.setCell ⟨g,4,none⟩ (.slice (some ⟨w.heap.size+1,0,none⟩) (2 * p.rails.length) (2 * p.rails.length))) (.pointer (some ⟨g,0,none⟩)) 119
  have h2:=((Below.refl (w.heap.size+1) ((w.setCell ⟨g,4,none⟩ (.slice (some ⟨w.heap.size+1,0,none⟩) (2 * p.rails.length) (2 * p.rails.length))).alloc (.cells #[.pointer (some ⟨g,0,none⟩)] 119))).alloc (by simp) (.cells (madeCells #[.slice none 0 0] (2 * p.rails.length)) 22)).cell (p:=⟨w.heap.size,0,none⟩) (by simp)
  exact h2.trans (by simpa using h1)
 have hv1:VRow W1 (w.heap.size+1) (List.replicate M (.slice none 0 0)):=by
  rw [←hW1,←hM]
  have:=VRow.made ((w.setCell ⟨g,4,none⟩ (.slice (some ⟨w.heap.size+1,0,none⟩) (2 * p.rails.length) (2 * p.rails.length))).alloc (.cells #[.pointer (some ⟨g,0,none⟩)] 119)) (2 * p.rails.length)
  simpa using this.drew
 have hg1:Gr g w W1:=by rw [←hW1];exact ((((Gr.refl g w).set (p:=⟨g,4,none⟩) _ (.inl rfl)).alloc _).alloc _).drew
 have hs1:IRow W1 sb (slotsOf p):=by rw [←hW1];exact ((((hS.other (p:=⟨g,4,none⟩) _ hsg).alloc _).alloc _).drew)
 have hz1':W1.heap.size=w.heap.size+2:=by rw [←hW1];simp
 have hsbl:=hS.lt
 have H1:=Z (And.intro hN1 (And.intro hx1 (And.intro hv1 (And.intro hg1 (And.intro hs1 hz1')))))
 have HK:=Z (show (((w.setCell ⟨g,4,none⟩ (.slice (some ⟨w.heap.size+1,0,none⟩) (2 * p.rails.length) (2 * p.rails.length))).alloc (.cells #[.pointer (some ⟨g,0,none⟩)] 119)).alloc (.cells (madeCells #[.slice none 0 0] (2 * p.rails.length)) 22)).drew.cell? ⟨w.heap.size,0,none⟩=some (.pointer (some ⟨g,0,none⟩))∧(((w.setCell ⟨g,4,none⟩ (.slice (some ⟨w.heap.size+1,0,none⟩) (2 * p.rails.length) (2 * p.rails.length))).alloc (.cells #[.pointer (some ⟨g,0,none⟩)] 119)).alloc (.cells (madeCells #[.slice none 0 0] (2 * p.rails.length)) 22)).drew.cell? ⟨g,1,none⟩=some (.slice A2 p.rails.length c2) from by rw [hW1];exact⟨hx1,hN1.cell.2.1⟩)
 have HW:=Z hW1;have HM:=Z hM
 clear hN1 hx1 hv1 hg1 hs1 hz1' hW1 hM hN hS
 refine (callsIn_wide (n:=6)).1 ?_
 refine callsIn_of_wp_marks Tryz.func120 rfl trivial ?_ rfl
 simp only [Tryz.ntmps120,List.size_toArray,List.length_cons,List.length_nil,Nat.reduceAdd,Nat.reduceSub,Array.replicate_succ,Array.replicate_zero,List.push_toArray,List.append_toArray,List.nil_append,List.cons_append]
 gi_wp2
 refine wpIn_wide.2 ?_
 go_region_held3 (fun w'=>w'.cell? ⟨w.heap.size,0,none⟩=some (.pointer (some ⟨g,0,none⟩))∧w'.cell? ⟨g,1,none⟩=some (.slice A2 p.rails.length c2))
  (first|(go_keep;done)|exact HK.out) (fail)
 gi_wp2
 rw [HW.out]
 obtain⟨hN1,hx1,hv1,hg1,hs1,hz1'⟩:=H1.out
 obtain⟨W2,hW2⟩:∃W2,((W1.setCell ⟨g,5,none⟩ (.slice (some ⟨W1.heap.size,0,none⟩) (2 * p.rails.length) (2 * p.rails.length))).alloc (.cells (madeCells #[.slice none 0 0] (2 * p.rails.length)) 22)).drew=W2:=⟨_,rfl⟩
 have hN2:Net W2 g A c A2 c2 p Lv (.slice (some ⟨sb,0,none⟩) M M) (.slice (some ⟨w.heap.size+1,0,none⟩) M M) (.slice (some ⟨w.heap.size+2,0,none⟩) M M):=by
  rw [←hW2,←hz1',HM.out];exact ((hN1.set5 _).alloc _).drewN 1
 have hb12:∀k,k<W1.heap.size→k≠g→W2.heap[k]? = W1.heap[k]?:=fun k hk hkg=>by
  rw [←hW2];exact (Below.heap_alloc _ _ k (by simpa using hk)).trans (Below.heap_setCell _ _ _ k hkg)
 have hx2:W2.cell? ⟨w.heap.size,0,none⟩=some (.pointer (some ⟨g,0,none⟩)):=(World.cell?_of_block (hb12 w.heap.size (by omega) (by omega))).trans hx1
 have hv2:VRow W2 (w.heap.size+1) (List.replicate M (.slice none 0 0)):=(hb12 _ (by omega) (by omega)).trans hv1
 have hu2:VRow W2 (w.heap.size+2) (List.replicate M (.slice none 0 0)):=by
  rw [←hW2,←HM.out]
  have:=VRow.made (W1.setCell ⟨g,5,none⟩ (.slice (some ⟨W1.heap.size,0,none⟩) (2 * p.rails.length) (2 * p.rails.length))) (2 * p.rails.length)
  rw [World.size_setCell,hz1'] at this
  rw [hz1']
  exact this.drew
 have hg2:Gr g w W2:=by rw [←hW2];exact ((hg1.set (p:=⟨g,5,none⟩) _ (.inl rfl)).alloc _).drew
 have hs2:IRow W2 sb (slotsOf p):=(hb12 _ (by omega) hsg).trans hs1
 have hz2':W2.heap.size=w.heap.size+3:=by rw [←hW2];simp [hz1']
 obtain⟨c0,c1,c2',c3,c4,c5⟩:=hN1.cell
 have hgl1:=hN1.lt
 have f4:=hN1.frozen 4
 have f5:=hN1.frozen 5
 have HN2:=Z (And.intro hN2 (And.intro hx2 (And.intro hv2 (And.intro hu2 (And.intro hg2 (And.intro hs2 hz2'))))))
 have HW2:=Z hW2
 have HK2:=Z (show W2.cell? ⟨w.heap.size,0,none⟩=some (.pointer (some ⟨g,0,none⟩))∧W2.cell? ⟨g,1,none⟩=some (.slice A2 p.rails.length c2) from⟨hx2,hN2.cell.2.1⟩)
 have HZ1:=Z hz1'
 clear hN2 hx2 hv2 hu2 hg2 hs2 hz2' hW2 hb12 hN1 hv1 hg1 hs1 H1 HW HK hz1'
 refine wpIn_wide.2 ?_
 go_region_held3 (fun w'=>w'.cell? ⟨w.heap.size,0,none⟩=some (.pointer (some ⟨g,0,none⟩))∧w'.cell? ⟨g,1,none⟩=some (.slice A2 p.rails.length c2))
  (first|(go_keep;done)|(rw [HW2.out];exact HK2.out)) (fail)
 gi_wp2
 rw [HW2.out]
 obtain⟨hN2,hx2,hv2,hu2,hg2,hs2,hz2'⟩:=HN2.out
 have HHD:Hid (Hd (w.heap.size+1) (w.heap.size+2) w.heap.size g sb A c A2 c2 p Lv (.slice (some ⟨w.heap.size+1,0,none⟩) M M) (.slice (some ⟨w.heap.size+2,0,none⟩) M M) W2):=by
  obtain⟨_,_,R2⟩:=(LK.start (p:=p) hv2 hu2 hz2').rw
  exact Z ⟨hx2,by rw [HM.out];exact hN2,hs2,fun j hj=>R2.low (by omega) (by omega) (by omega),hgl,hsbl,R2.bd⟩
 have hMk:M≤800:=by have:=HM.out;omega
 clear hmk hwr hi hz0 hz1 hz2
 clear f4 f5 c0 c1 c2' c3 c4 c5
 clear f4 f5 c0 c1 c2' c3 c4 c5
 refine wpIn_loop (fun a W=>∃(ds:List Deferred) (k:Nat),a={tmps:=LTm g w.heap.size W1.heap.size p.rails.length M A2 c2 k (fun i=>a.tmps.getD i undef),defers:=ds}∧k≤M∧Mk w.heap.size ds W∧LK (w.heap.size+1) (w.heap.size+2) w.heap.size M p W2 k W) (fun a _=>M - (intOf (a.tmps.getD 31 undef)).toNat) ?atStart ?round
 case atStart=>exact⟨[],0,rfl,Nat.zero_le _,Mk.nil _ _,LK.start hv2 hu2 hz2'⟩
 case round=>
  rintro a W ⟨ds,k,ha,hk,hmk,hlk⟩
  obtain⟨u,rfl⟩:∃u,a={tmps:=LTm g w.heap.size W1.heap.size p.rails.length M A2 c2 k u,defers:=ds}:=⟨_,ha⟩
  clear ha hN2 hx2 hv2 hu2 hg2 hs2 HK2 HW2 hx1
  simp only [LTm]
  have hHd:=HHD.out.keep hlk.kt
  have hx:=hHd.x
  have hxl:w.heap.size<W.heap.size:=World.block_lt_of_cell? W _ hHd.x
  have hxl1:w.heap.size<W.heap.size+1:=by omega
  have hxl2:w.heap.size<W.heap.size+1+1:=by omega
  by_cases hlt:k<M
  ·have hlt':(k:Int)<(M:Int):=by omega
   have hB:=hlk.be.size
   gi_wp2
   refine⟨trivial, ?_⟩
   refine CallsIn.mono (callsIn_wide.2 (leaving_any g k _)) ?_
   rintro e w3 ⟨rfl,hw3⟩
   simp only [World.size_alloc]
   have hb3:Below W.heap.size W w3:=by rw [←hw3];exact (((Below.refl _ _).alloc (Nat.le_refl _) _).alloc (by simp) _).alloc (by simp;omega) _
   have hsz3:w3.heap.size=W.heap.size+3:=by rw [←hw3];simp
   have hxs:w3.cell? ⟨W.heap.size,0,none⟩=some (O U (k:Int))∧w3.cell? ⟨W.heap.size+1,0,none⟩=some (.pointer (some ⟨g,0,none⟩))∧w3.cell? ⟨W.heap.size+2,0,none⟩=some (O U (k:Int)):=by
    rw [←hw3];exact three_cells _ _ _ _ _ _ _
   clear hw3
   have hdm3:∀D:Nat,W.heap[D]? = some (.deferred (some []))→w3.heap[D]? = some (.deferred (some [])):=fun D h=>(hb3.block D (Array.getElem?_eq_some_iff.1 h).1).trans h
   obtain⟨vs0,us0,R0⟩:=hlk.rw
   have hk3:KT (w.heap.size+1) (w.heap.size+2) W w3:=KT.of_below hb3 (Nat.le_refl _) R0.nk.lt R0.bk.lt
   have hI0:=hlk.li hk3 hb3 (by omega)
   obtain⟨vs3,us3,R3⟩:=hI0.rw
   have hnt:∀j,W.heap.size≤j→¬Tch (w.heap.size+1) (w.heap.size+2) w3 j:=fun j hj t=>by
    have:=R0.bd j (Tch.of_cells (fun i=>hb3.cell (p:=⟨w.heap.size+1,i,none⟩) R0.nk.lt) (fun i=>hb3.cell (p:=⟨w.heap.size+2,i,none⟩) R0.bk.lt) t)
    omega
   have hHd3:=hHd.keep hk3
   have hLv:=hHd3.lv hxs.2.1 hxs.2.2 (hnt _ (by omega)) (hnt _ (by omega))
   have hseq:=leaving_stops 5 (by omega) _ _ _ _ _ _ _ _ _ _ p _ _ _ k w3 hV (by have:=HM.out;omega) hLv
   gi_wp2
   refine wpIn_rangeFunc_ownG (α:=Mv (2 * p.rails.length)) (w0:=w3) (Kp:=KT (w.heap.size+1) (w.heap.size+2)) (S:=fun xs=>xs.map (·.1)=leaveL p k) (Sp:=fun _=>True) (N:=(leaveL p k).length) (gf:=152) (lb:=#[.pointer (some ⟨W.heap.size+1,0,none⟩),.pointer (some ⟨W.heap.size+2,0,none⟩)]) rfl (by omega) rfl trivial (enters_of Tryz.func152 (by kernel_rfl) rfl) hseq (fun h k=>kt_t h k) (kt_b R3.nk.lt R3.bk.lt) (Below.refl _ _) (fun _=>rfl) (fun pre=>LI (w.heap.size+1) (w.heap.size+2) w.heap.size M p W2 k w3 (pre.map (·.1))) (fun _ _ _=>False) (fun pre=>LI.own (by omega) (by omega) (pre.map (·.1))) (fun c=>fun _ _ _ _ h=>h.elim) hI0 ?a1 ?assign ?body ?done ?stop
   case assign=>
    intro l x W5 K hK
    gi_wp2
    exact hK
   case body=>
    rintro l pre ⟨x,hx0,hxM⟩ W5 hI hlen
    obtain⟨y,hy⟩:=Int.eq_ofNat_of_zero_le hx0
    subst hy
    have hyM:y<M:=by have:=HM.out;omega
    have hHd5:=hHd3.keep hI.k3
    have hx5:=hHd5.x
    obtain⟨_,_,_,_,n4,n5⟩:=hHd5.net.cell
    have hk5:W5.cell? ⟨W.heap.size,0,none⟩=some (O U (k:Int)):=hI.k3.cell hxs.1 (hnt _ (Nat.le_refl _))
    have hnk5:¬Tch (w.heap.size+1) (w.heap.size+2) W5 W.heap.size:=hI.k3.keepsN (by omega) (hnt _ (Nat.le_refl _))
    obtain⟨vs5,us5,R5⟩:=hI.rw
    gi_wp2
    refine wpIn_region_S (S:=fun W'=>W'.cell? ⟨w.heap.size,0,none⟩=some (.pointer (some ⟨g,0,none⟩))∧W'.cell? ⟨g,4,none⟩=some (.slice (some ⟨w.heap.size+1,0,none⟩) M M)∧W'.cell? ⟨W.heap.size,0,none⟩=some (O U (k:Int))) (by kernel_rfl) ?_
    have hkz:(0:Int)≤(k:Int):=by omega
    have HS:=Z (And.intro hx5 (And.intro n4 hk5))
    refine wpS_take (i:=0) (v:=(.pointer (some ⟨g,0,none⟩))) (tame_of (by kernel_rfl)) rfl (by kernel_rfl) (by kernel_rfl) (fun _ _ _ h=>False.elim h) HS.out ⟨rfl, ?gr,fun _=>rfl⟩ ?_
    case gr=>
     rintro W' ⟨s1,s2,s3⟩
     go_simp
    refine wpS_take (i:=1) (v:=(.pointer (some ⟨g,0,none⟩))) (tame_of (by kernel_rfl)) rfl (by kernel_rfl) (by kernel_rfl) (fun _ _ _ h=>False.elim h) HS.out ⟨rfl, ?gr,fun _=>rfl⟩ ?_
    case gr=>
     rintro W' ⟨s1,s2,s3⟩
     go_simp
    refine wpS_take (i:=2) (v:=(.pointer (some ⟨g,4,none⟩))) (tame_of (by kernel_rfl)) rfl (by kernel_rfl) (by kernel_rfl) (fun _ _ _ h=>False.elim h) HS.out ⟨rfl, ?gr,fun _=>rfl⟩ ?_
    case gr=>
     rintro W' ⟨s1,s2,s3⟩
     go_simp
    refine wpS_take (i:=3) (v:=(.slice (some ⟨w.heap.size+1,0,none⟩) M M)) (tame_of (by kernel_rfl)) rfl (by kernel_rfl) (by kernel_rfl) (fun _ _ _ h=>False.elim h) HS.out ⟨rfl, ?gr,fun _=>rfl⟩ ?_
    case gr=>
     rintro W' ⟨s1,s2,s3⟩
     go_simp
    refine wpS_take (i:=4) (v:=(O U (k:Int))) (tame_of (by kernel_rfl)) rfl (by kernel_rfl) (by kernel_rfl) (fun _ _ _ h=>False.elim h) HS.out ⟨rfl, ?gr,fun _=>rfl⟩ ?_
    case gr=>
     rintro W' ⟨s1,s2,s3⟩
     go_simp
    refine wpS_take (i:=5) (v:=(.pointer (some ⟨g,0,none⟩))) (tame_of (by kernel_rfl)) rfl (by kernel_rfl) (by kernel_rfl) (fun _ _ _ h=>False.elim h) HS.out ⟨rfl, ?gr,fun _=>rfl⟩ ?_
    case gr=>
     rintro W' ⟨s1,s2,s3⟩
     go_simp
    refine wpS_take (i:=6) (v:=(.pointer (some ⟨g,0,none⟩))) (tame_of (by kernel_rfl)) rfl (by kernel_rfl) (by kernel_rfl) (fun _ _ _ h=>False.elim h) HS.out ⟨rfl, ?gr,fun _=>rfl⟩ ?_
    case gr=>
     rintro W' ⟨s1,s2,s3⟩
     go_simp
    refine wpS_take (i:=7) (v:=(.pointer (some ⟨g,4,none⟩))) (tame_of (by kernel_rfl)) rfl (by kernel_rfl) (by kernel_rfl) (fun _ _ _ h=>False.elim h) HS.out ⟨rfl, ?gr,fun _=>rfl⟩ ?_
    case gr=>
     rintro W' ⟨s1,s2,s3⟩
     go_simp
    refine wpS_take (i:=8) (v:=(.slice (some ⟨w.heap.size+1,0,none⟩) M M)) (tame_of (by kernel_rfl)) rfl (by kernel_rfl) (by kernel_rfl) (fun _ _ _ h=>False.elim h) HS.out ⟨rfl, ?gr,fun _=>rfl⟩ ?_
    case gr=>
     rintro W' ⟨s1,s2,s3⟩
     go_simp
    refine wpS_take (i:=9) (v:=(O U (k:Int))) (tame_of (by kernel_rfl)) rfl (by kernel_rfl) (by kernel_rfl) (fun _ _ _ h=>False.elim h) HS.out ⟨rfl, ?gr,fun _=>rfl⟩ ?_
    case gr=>
     rintro W' ⟨s1,s2,s3⟩
     go_simp
    refine wpS_take (i:=10) (v:=(.pointer (some ⟨w.heap.size+1,k,none⟩))) (tame_of (by kernel_rfl)) rfl (by kernel_rfl) (by kernel_rfl) (fun _ _ _ h=>False.elim h) HS.out ⟨rfl, ?gr,fun _=>rfl⟩ ?_
    case gr=>
     rintro W' ⟨s1,s2,s3⟩
     go_simp
    refine wpS_take (i:=12) (v:=(O U (y:Int))) (tame_of (by kernel_rfl)) rfl (by kernel_rfl) (by kernel_rfl) (fun _ _ _ h=>False.elim h) HS.out ⟨rfl, ?gr,fun _=>rfl⟩ ?_
    case gr=>
     rintro W' ⟨s1,s2,s3⟩
     go_simp
    obtain⟨v,hv⟩:∃v,vs5[k]? = some v:=⟨_,List.getElem?_eq_getElem (by rw [R5.nl];exact hlt)⟩
    have hrow:W5.cell? ⟨w.heap.size+1,k,none⟩=some v:=(R5.nk.cell k).trans hv
    obtain⟨i3,hi3,hz3,hs3,hb8⟩:=info_parts info3
    have hown:Own W5 (w.heap.size+3) 3 1 fI v (pre.map (·.1)):=by simpa using R5.fo k v hv
    have hvl:=hown.lt
    have hll:(leaveL p k).length≤2:=by unfold leaveL;rw [List.length_map];exact thru_le2 _ _ _
    have hW5z:=hI.k3.size
    obtain⟨Wa,hWa⟩:∃Wa,W5.drew.alloc (.cells #[O U (y:Int)] 3)=Wa:=⟨_,rfl⟩
    have hbA:Below W5.heap.size W5 Wa:=by rw [←hWa];exact (Below.refl _ _).drew.alloc (Nat.le_refl _) _
    have hza:Wa.heap.size=W5.heap.size+1:=by rw [←hWa];simp
    have hca:Wa.cell? ⟨W5.heap.size,0,none⟩=some (O U (y:Int)):=by rw [←hWa];exact cell_made W5.drew (O U (y:Int)) 3
    obtain⟨v',w',hrun,ho',hg',hw'⟩:=run_app1 (P:=Tryz.prog) Wa (w.heap.size+3) 22 22 i3 Tryz.underlying22 hi3 hz3 hs3 hb8 (hown.below hbA (Nat.le_refl _)) W5.heap.size (y:Int) hca (by rw [List.length_map];omega) (by omega)
    have hSa:Wa.cell? ⟨w.heap.size,0,none⟩=some (.pointer (some ⟨g,0,none⟩))∧Wa.cell? ⟨g,4,none⟩=some (.slice (some ⟨w.heap.size+1,0,none⟩) M M)∧Wa.cell? ⟨W.heap.size,0,none⟩=some (O U (k:Int)):=
     ⟨(hbA.cell (p:=⟨w.heap.size,0,none⟩) (by simp;omega)).trans hx5,(hbA.cell (p:=⟨g,4,none⟩) (by simp;omega)).trans n4,(hbA.cell (p:=⟨W.heap.size,0,none⟩) (by simp;omega)).trans hk5⟩
    have hrowA:Wa.cell? ⟨w.heap.size+1,k,none⟩=some v:=(hbA.cell (p:=⟨w.heap.size+1,k,none⟩) R5.nk.lt).trans hrow
    have hfzA:Wa.frozen? ⟨w.heap.size+1,k,none⟩=false:=VRow.frozen (vs:=vs5) ((hbA.block _ R5.nk.lt).trans R5.nk) k
    have hne1:∀j,j<w.heap.size+3→some j≠v.ownBlock:=fun j hj e=>by have:=(hvl j e.symm).1;omega
    have hne2:some W.heap.size≠v.ownBlock:=fun e=>hnk5 (.inr (.inr ⟨_,k,v,.inl rfl,hrow,e.symm⟩))
    have hSw:w'.cell? ⟨w.heap.size,0,none⟩=some (.pointer (some ⟨g,0,none⟩))∧w'.cell? ⟨g,4,none⟩=some (.slice (some ⟨w.heap.size+1,0,none⟩) M M)∧w'.cell? ⟨W.heap.size,0,none⟩=some (O U (k:Int)):=
     ⟨(World.cell?_of_block (hg'.block w.heap.size (by omega) (hne1 _ (by omega)))).trans hSa.1,(World.cell?_of_block (hg'.block g (by omega) (hne1 _ (by omega)))).trans hSa.2.1,(World.cell?_of_block (hg'.block W.heap.size (by omega) hne2)).trans hSa.2.2⟩
    have hrow':w'.cell? ⟨w.heap.size+1,k,none⟩=some v:=(World.cell?_of_block (hg'.block (w.heap.size+1) (by omega) (hne1 _ (by omega)))).trans hrowA
    have hfz':w'.frozen? ⟨w.heap.size+1,k,none⟩=false:=(World.frozen?_of_block (hg'.block (w.heap.size+1) (by omega) (hne1 _ (by omega)))).trans hfzA
    obtain⟨Av,cv,hvf,_,_,_⟩:=ho'.form
    subst hvf
    have HA:=Z hSa;have HSW:=Z hSw;have HRUN:=Z hrun;have HWA:=Z hWa
    have HPU:=Z (And.intro ho' (And.intro hg' hw'));have HBA:=Z hbA
    clear hSa hSw hrun hWa ho' hg' hw' hca hbA
    refine wpS_two (i:=11) (j:=13) (by kernel_rfl) ?_ ?_
    ·refine wpOpIn_value (v:=v) (w':=W5.drew) (tame_of (by kernel_rfl)) rfl rfl rfl ?_ ⟨HS.out, ?_⟩
     ·go_simp
     refine wpS_next (i:=13) (by kernel_rfl) ?_
     refine wpOpIn_value (v:= .slice (some ⟨W5.heap.size,0,none⟩) 1 1) (w':=Wa) (tame_of (by kernel_rfl)) rfl rfl rfl ?_ ⟨HA.out, ?_⟩
     ·rw [←HWA.out];go_simp
     refine wpS_next (i:=14) (by kernel_rfl) ?_
     refine wpOpIn_value (v:= .slice Av (pre.map (·.1) ++ [(y:Int)]).length cv) (w':=w') (tame_of (by kernel_rfl)) rfl rfl rfl ?hap ⟨HSW.out, ?_⟩
     case hap=>
      refine exec_append (s:= .tmp 49) (x:= .tmp 51) (t:=22) (v:=v) (u:= .slice (some ⟨W5.heap.size,0,none⟩) 1 1) (by rfl) ?_ ?_ ?_
      ·go_simp
      ·go_simp
      ·exact HRUN.out
     refine wpS_next (i:=15) (by kernel_rfl) ?_
     refine wpOpIn_value (v:= .pointer (some ⟨w.heap.size+1,k,none⟩)) (w':=w') (tame_of (by kernel_rfl)) rfl rfl rfl ?_ ⟨HSW.out, ?_⟩
     ·go_simp
     refine wpS_next (i:=16) (by kernel_rfl) ?_
     refine wpOpIn_skip (w':=w'.setCell ⟨w.heap.size+1,k,none⟩ (.slice Av (pre.map (·.1) ++ [(y:Int)]).length cv)) (tame_of (by kernel_rfl)) rfl rfl rfl ?_ ⟨?_, ?_⟩
     ·go_simp
     ·have hs:=HSW.out
      exact⟨(World.cell?_of_block (Below.heap_setCell w' ⟨w.heap.size+1,k,none⟩ _ w.heap.size (by simp))).trans hs.1,(World.cell?_of_block (Below.heap_setCell w' ⟨w.heap.size+1,k,none⟩ _ g (by simp;omega))).trans hs.2.1,(World.cell?_of_block (Below.heap_setCell w' ⟨w.heap.size+1,k,none⟩ _ W.heap.size (by simp;omega))).trans hs.2.2⟩
     refine wpS_done (by kernel_rfl) ?_
     gi_wp2
     obtain⟨ho',hg',hw'⟩:=HPU.out
     obtain⟨R8,hkt8,hko8,hbe8⟩:=(R5.below HBA.out (Nat.le_refl _)).push (B:=w.heap.size) hv hg' ho' hw' (by omega)
     obtain⟨Wb,hWb⟩:∃Wb,w'.setCell ⟨w.heap.size+1,k,none⟩ (.slice Av (pre.map (·.1) ++ [(y:Int)]).length cv)=Wb:=⟨_,rfl⟩
     rw [hWb] at R8 hkt8 hko8 hbe8 ⊢
     have hkt:KT (w.heap.size+1) (w.heap.size+2) W5 Wb:=(KT.of_below HBA.out (Nat.le_refl _) R5.nk.lt R5.bk.lt).trans hkt8
     have hHd8:=hHd5.keep hkt
     have x8:=hHd8.x
     obtain⟨_,_,_,_,_,n8⟩:=hHd8.net.cell
     have k8:Wb.cell? ⟨W.heap.size,0,none⟩=some (O U (k:Int)):=hkt.cell hk5 hnk5
     have hnk8:¬Tch (w.heap.size+1) (w.heap.size+2) Wb W.heap.size:=hkt.keepsN (by omega) hnk5
     obtain⟨v2,hv2⟩:∃v2,us5[y]? = some v2:=⟨_,List.getElem?_eq_getElem (by rw [R5.bl];exact hyM)⟩
     have hrow2:Wb.cell? ⟨w.heap.size+2,y,none⟩=some v2:=(R8.bk.cell y).trans hv2
     have hy0:(0:Int)≤(y:Int):=by omega
     have hy1:(y:Int)<(M:Int):=by omega
     have hown2:=R8.ho y v2 hv2
     have HS2:=Z (And.intro x8 (And.intro n8 k8))
     have hl2:(befL p k y ++ ((pre.map (·.1)).filter fun z=>z == (y:Int)).map fun _=>(k:Int)).length≤1000000:=by
      rw [List.length_append,List.length_map]
      have h1:=befL_len p y k
      have h2:=List.length_filter_le (fun z=>z == (y:Int)) (pre.map (·.1))
      rw [List.length_map] at h2
      omega
     have hvl2:=hown2.lt
     have hWbz:=hkt.size
     obtain⟨Wc,hWc⟩:∃Wc,Wb.drew.alloc (.cells #[O U (k:Int)] 3)=Wc:=⟨_,rfl⟩
     have hbC:Below Wb.heap.size Wb Wc:=by rw [←hWc];exact (Below.refl _ _).drew.alloc (Nat.le_refl _) _
     have hzc:Wc.heap.size=Wb.heap.size+1:=by rw [←hWc];simp
     have hcc:Wc.cell? ⟨Wb.heap.size,0,none⟩=some (O U (k:Int)):=by rw [←hWc];exact cell_made Wb.drew (O U (k:Int)) 3
     obtain⟨v2',w2',hrun2,ho2,hg2',hw2⟩:=run_app1 (P:=Tryz.prog) Wc (w.heap.size+3) 22 22 i3 Tryz.underlying22 hi3 hz3 hs3 hb8 (hown2.below hbC (Nat.le_refl _)) Wb.heap.size (k:Int) hcc hl2 (by omega)
     have hSc:Wc.cell? ⟨w.heap.size,0,none⟩=some (.pointer (some ⟨g,0,none⟩))∧Wc.cell? ⟨g,5,none⟩=some (.slice (some ⟨w.heap.size+2,0,none⟩) M M)∧Wc.cell? ⟨W.heap.size,0,none⟩=some (O U (k:Int)):=
      ⟨(hbC.cell (p:=⟨w.heap.size,0,none⟩) (by simp;omega)).trans x8,(hbC.cell (p:=⟨g,5,none⟩) (by simp;omega)).trans n8,(hbC.cell (p:=⟨W.heap.size,0,none⟩) (by simp;omega)).trans k8⟩
     have hrowC:Wc.cell? ⟨w.heap.size+2,y,none⟩=some v2:=(hbC.cell (p:=⟨w.heap.size+2,y,none⟩) R8.bk.lt).trans hrow2
     have hfzC:Wc.frozen? ⟨w.heap.size+2,y,none⟩=false:=VRow.frozen (vs:=us5) ((hbC.block _ R8.bk.lt).trans R8.bk) y
     have hne3:∀j,j<w.heap.size+3→some j≠v2.ownBlock:=fun j hj e=>by have:=(hvl2 j e.symm).1;omega
     have hne4:some W.heap.size≠v2.ownBlock:=fun e=>hnk8 (.inr (.inr ⟨_,y,v2,.inr rfl,hrow2,e.symm⟩))
     have hSw2:w2'.cell? ⟨w.heap.size,0,none⟩=some (.pointer (some ⟨g,0,none⟩))∧w2'.cell? ⟨g,5,none⟩=some (.slice (some ⟨w.heap.size+2,0,none⟩) M M)∧w2'.cell? ⟨W.heap.size,0,none⟩=some (O U (k:Int)):=
      ⟨(World.cell?_of_block (hg2'.block w.heap.size (by omega) (hne3 _ (by omega)))).trans hSc.1,(World.cell?_of_block (hg2'.block g (by omega) (hne3 _ (by omega)))).trans hSc.2.1,(World.cell?_of_block (hg2'.block W.heap.size (by omega) hne4)).trans hSc.2.2⟩
     have hrow2':w2'.cell? ⟨w.heap.size+2,y,none⟩=some v2:=(World.cell?_of_block (hg2'.block (w.heap.size+2) (by omega) (hne3 _ (by omega)))).trans hrowC
     have hfz2':w2'.frozen? ⟨w.heap.size+2,y,none⟩=false:=(World.frozen?_of_block (hg2'.block (w.heap.size+2) (by omega) (hne3 _ (by omega)))).trans hfzC
     obtain⟨Av2,cv2,hvf2,_,_,_⟩:=ho2.form
     obtain⟨n2,hn2⟩:∃n2,(befL p k y ++ ((pre.map (·.1)).filter fun z=>z == (y:Int)).map (fun _=>(k:Int)) ++ [(k:Int)]).length=n2:=⟨_,rfl⟩
     rw [hn2] at hvf2
     subst hvf2
     have HC:=Z hSc;have HSW2:=Z hSw2;have HRUN2:=Z hrun2;have HWC:=Z hWc;have HBC:=Z hbC
     have HPU2:=Z (And.intro ho2 (And.intro hg2' hw2))
     have H8:=Z (And.intro R8 (And.intro hko8 (And.intro hbe8 (And.intro hkt hown2))))
     clear hSc hSw2 hrun2 hWc ho2 hg2' hw2 hcc hbC R8 hko8 hbe8 hkt hown2 hl2 ho' hg' hw' hkt8 hrow hrowA hrow' hfzA hfz' hx5 n4 n5 hk5 hx
     refine wpIn_region_S (S:=fun W'=>W'.cell? ⟨w.heap.size,0,none⟩=some (.pointer (some ⟨g,0,none⟩))∧W'.cell? ⟨g,5,none⟩=some (.slice (some ⟨w.heap.size+2,0,none⟩) M M)∧W'.cell? ⟨W.heap.size,0,none⟩=some (O U (k:Int))) (by kernel_rfl) ?_
     refine wpS_take (i:=0) (v:=(.pointer (some ⟨g,0,none⟩))) (tame_of (by kernel_rfl)) rfl (by kernel_rfl) (by kernel_rfl) (fun _ _ _ h=>False.elim h) HS2.out ⟨rfl, ?gr,fun _=>rfl⟩ ?_
     case gr=>
      rintro W' ⟨s1,s2,s3⟩
      go_simp
     refine wpS_take (i:=1) (v:=(.pointer (some ⟨g,0,none⟩))) (tame_of (by kernel_rfl)) rfl (by kernel_rfl) (by kernel_rfl) (fun _ _ _ h=>False.elim h) HS2.out ⟨rfl, ?gr,fun _=>rfl⟩ ?_
     case gr=>
      rintro W' ⟨s1,s2,s3⟩
      go_simp
     refine wpS_take (i:=2) (v:=(.pointer (some ⟨g,5,none⟩))) (tame_of (by kernel_rfl)) rfl (by kernel_rfl) (by kernel_rfl) (fun _ _ _ h=>False.elim h) HS2.out ⟨rfl, ?gr,fun _=>rfl⟩ ?_
     case gr=>
      rintro W' ⟨s1,s2,s3⟩
      go_simp
     refine wpS_take (i:=3) (v:=(.slice (some ⟨w.heap.size+2,0,none⟩) M M)) (tame_of (by kernel_rfl)) rfl (by kernel_rfl) (by kernel_rfl) (fun _ _ _ h=>False.elim h) HS2.out ⟨rfl, ?gr,fun _=>rfl⟩ ?_
     case gr=>
      rintro W' ⟨s1,s2,s3⟩
      go_simp
     refine wpS_take (i:=4) (v:=(O U (y:Int))) (tame_of (by kernel_rfl)) rfl (by kernel_rfl) (by kernel_rfl) (fun _ _ _ h=>False.elim h) HS2.out ⟨rfl, ?gr,fun _=>rfl⟩ ?_
     case gr=>
      rintro W' ⟨s1,s2,s3⟩
      go_simp
     refine wpS_take (i:=5) (v:=(.pointer (some ⟨g,0,none⟩))) (tame_of (by kernel_rfl)) rfl (by kernel_rfl) (by kernel_rfl) (fun _ _ _ h=>False.elim h) HS2.out ⟨rfl, ?gr,fun _=>rfl⟩ ?_
     case gr=>
      rintro W' ⟨s1,s2,s3⟩
      go_simp
     refine wpS_take (i:=6) (v:=(.pointer (some ⟨g,0,none⟩))) (tame_of (by kernel_rfl)) rfl (by kernel_rfl) (by kernel_rfl) (fun _ _ _ h=>False.elim h) HS2.out ⟨rfl, ?gr,fun _=>rfl⟩ ?_
     case gr=>
      rintro W' ⟨s1,s2,s3⟩
      go_simp
     refine wpS_take (i:=7) (v:=(.pointer (some ⟨g,5,none⟩))) (tame_of (by kernel_rfl)) rfl (by kernel_rfl) (by kernel_rfl) (fun _ _ _ h=>False.elim h) HS2.out ⟨rfl, ?gr,fun _=>rfl⟩ ?_
     case gr=>
      rintro W' ⟨s1,s2,s3⟩
      go_simp
     refine wpS_take (i:=8) (v:=(.slice (some ⟨w.heap.size+2,0,none⟩) M M)) (tame_of (by kernel_rfl)) rfl (by kernel_rfl) (by kernel_rfl) (fun _ _ _ h=>False.elim h) HS2.out ⟨rfl, ?gr,fun _=>rfl⟩ ?_
     case gr=>
      rintro W' ⟨s1,s2,s3⟩
      go_simp
     refine wpS_take (i:=9) (v:=(O U (y:Int))) (tame_of (by kernel_rfl)) rfl (by kernel_rfl) (by kernel_rfl) (fun _ _ _ h=>False.elim h) HS2.out ⟨rfl, ?gr,fun _=>rfl⟩ ?_
     case gr=>
      rintro W' ⟨s1,s2,s3⟩
      go_simp
     refine wpS_take (i:=10) (v:=(.pointer (some ⟨w.heap.size+2,y,none⟩))) (tame_of (by kernel_rfl)) rfl (by kernel_rfl) (by kernel_rfl) (fun _ _ _ h=>False.elim h) HS2.out ⟨rfl, ?gr,fun _=>rfl⟩ ?_
     case gr=>
      rintro W' ⟨s1,s2,s3⟩
      go_simp
     refine wpS_take (i:=12) (v:=(O U (k:Int))) (tame_of (by kernel_rfl)) rfl (by kernel_rfl) (by kernel_rfl) (fun _ _ _ h=>False.elim h) HS2.out ⟨rfl, ?gr,fun _=>rfl⟩ ?_
     case gr=>
      rintro W' ⟨s1,s2,s3⟩
      go_simp
     refine wpS_two (i:=11) (j:=13) (by kernel_rfl) ?_ ?_
     ·refine wpOpIn_value (v:=v2) (w':=Wb.drew) (tame_of (by kernel_rfl)) rfl rfl rfl ?_ ⟨HS2.out, ?_⟩
      ·go_simp
      refine wpS_next (i:=13) (by kernel_rfl) ?_
      refine wpOpIn_value (v:= .slice (some ⟨Wb.heap.size,0,none⟩) 1 1) (w':=Wc) (tame_of (by kernel_rfl)) rfl rfl rfl ?_ ⟨HC.out, ?_⟩
      ·rw [←HWC.out];go_simp
      refine wpS_next (i:=14) (by kernel_rfl) ?_
      refine wpOpIn_value (v:= .slice Av2 n2 cv2) (w':=w2') (tame_of (by kernel_rfl)) rfl rfl rfl ?hap ⟨HSW2.out, ?_⟩
      case hap=>
       refine exec_append (s:= .tmp 65) (x:= .tmp 67) (t:=22) (v:=v2) (u:= .slice (some ⟨Wb.heap.size,0,none⟩) 1 1) (by rfl) ?_ ?_ ?_
       ·go_simp
       ·go_simp
       ·exact HRUN2.out
      refine wpS_next (i:=15) (by kernel_rfl) ?_
      refine wpOpIn_value (v:= .pointer (some ⟨w.heap.size+2,y,none⟩)) (w':=w2') (tame_of (by kernel_rfl)) rfl rfl rfl ?_ ⟨HSW2.out, ?_⟩
      ·go_simp
      refine wpS_next (i:=16) (by kernel_rfl) ?_
      refine wpOpIn_skip (w':=w2'.setCell ⟨w.heap.size+2,y,none⟩ (.slice Av2 n2 cv2)) (tame_of (by kernel_rfl)) rfl rfl rfl ?_ ⟨?_, ?_⟩
      ·go_simp
      ·have hs:=HSW2.out
       exact⟨(World.cell?_of_block (Below.heap_setCell w2' ⟨w.heap.size+2,y,none⟩ _ w.heap.size (by simp))).trans hs.1,(World.cell?_of_block (Below.heap_setCell w2' ⟨w.heap.size+2,y,none⟩ _ g (by simp;omega))).trans hs.2.1,(World.cell?_of_block (Below.heap_setCell w2' ⟨w.heap.size+2,y,none⟩ _ W.heap.size (by simp;omega))).trans hs.2.2⟩
      refine wpS_done (by kernel_rfl) ?_
      gi_wp2
      obtain⟨R8,hko8,hbe8,hkt,hown2⟩:=H8.out
      obtain⟨ho2,hg2',hw2⟩:=HPU2.out
      obtain⟨R9,hkt9,hko9,hbe9⟩:=(R8.below HBC.out (Nat.le_refl _)).swap.push (B:=w.heap.size) hv2 hg2' ho2 hw2 (by omega)
      have hend:=LI.step hI (hkt.trans ((KT.of_below HBC.out (Nat.le_refl _) R8.nk.lt R8.bk.lt).trans hkt9.swap)) ((keepsOthers_below HBA.out).trans (hko8.trans ((keepsOthers_below HBC.out).trans hko9))) ((HBA.out.mono (by omega)).trans (hbe8.trans ((HBC.out.mono (by omega)).trans hbe9))) R9.swap
      rw [hsz3] at hend
      have h3:LI (w.heap.size+1) (w.heap.size+2) w.heap.size M p W2 k w3 ((pre ++ [(⟨(y:Int),hx0,hxM⟩:Mv (2 * p.rails.length))]).map (fun z:Mv (2 * p.rails.length)=>z.1)) (w2'.setCell ⟨w.heap.size+2,y,none⟩ (.slice Av2 n2 cv2)):=by rw [List.map_append];exact hend.2.2
      exact⟨hend.1,hend.2.1,h3⟩
     ·refine wpOpIn_value (v:= .slice (some ⟨Wb.heap.size,0,none⟩) 1 1) (w':=Wc) (tame_of (by kernel_rfl)) rfl rfl rfl ?_ ⟨HC.out, ?_⟩
      ·rw [←HWC.out];go_simp
      refine wpS_next (i:=11) (by kernel_rfl) ?_
      refine wpOpIn_value (v:=v2) (w':=Wc) (tame_of (by kernel_rfl)) rfl rfl rfl ?_ ⟨HC.out, ?_⟩
      ·go_simp
      refine wpS_next (i:=14) (by kernel_rfl) ?_
      refine wpOpIn_value (v:= .slice Av2 n2 cv2) (w':=w2') (tame_of (by kernel_rfl)) rfl rfl rfl ?hap ⟨HSW2.out, ?_⟩
      case hap=>
       refine exec_append (s:= .tmp 65) (x:= .tmp 67) (t:=22) (v:=v2) (u:= .slice (some ⟨Wb.heap.size,0,none⟩) 1 1) (by rfl) ?_ ?_ ?_
       ·go_simp
       ·go_simp
       ·exact HRUN2.out
      refine wpS_next (i:=15) (by kernel_rfl) ?_
      refine wpOpIn_value (v:= .pointer (some ⟨w.heap.size+2,y,none⟩)) (w':=w2') (tame_of (by kernel_rfl)) rfl rfl rfl ?_ ⟨HSW2.out, ?_⟩
      ·go_simp
      refine wpS_next (i:=16) (by kernel_rfl) ?_
      refine wpOpIn_skip (w':=w2'.setCell ⟨w.heap.size+2,y,none⟩ (.slice Av2 n2 cv2)) (tame_of (by kernel_rfl)) rfl rfl rfl ?_ ⟨?_, ?_⟩
      ·go_simp
      ·have hs:=HSW2.out
       exact⟨(World.cell?_of_block (Below.heap_setCell w2' ⟨w.heap.size+2,y,none⟩ _ w.heap.size (by simp))).trans hs.1,(World.cell?_of_block (Below.heap_setCell w2' ⟨w.heap.size+2,y,none⟩ _ g (by simp;omega))).trans hs.2.1,(World.cell?_of_block (Below.heap_setCell w2' ⟨w.heap.size+2,y,none⟩ _ W.heap.size (by simp;omega))).trans hs.2.2⟩
      refine wpS_done (by kernel_rfl) ?_
      gi_wp2
      obtain⟨R8,hko8,hbe8,hkt,hown2⟩:=H8.out
      obtain⟨ho2,hg2',hw2⟩:=HPU2.out
      obtain⟨R9,hkt9,hko9,hbe9⟩:=(R8.below HBC.out (Nat.le_refl _)).swap.push (B:=w.heap.size) hv2 hg2' ho2 hw2 (by omega)
      have hend:=LI.step hI (hkt.trans ((KT.of_below HBC.out (Nat.le_refl _) R8.nk.lt R8.bk.lt).trans hkt9.swap)) ((keepsOthers_below HBA.out).trans (hko8.trans ((keepsOthers_below HBC.out).trans hko9))) ((HBA.out.mono (by omega)).trans (hbe8.trans ((HBC.out.mono (by omega)).trans hbe9))) R9.swap
      rw [hsz3] at hend
      have h3:LI (w.heap.size+1) (w.heap.size+2) w.heap.size M p W2 k w3 ((pre ++ [(⟨(y:Int),hx0,hxM⟩:Mv (2 * p.rails.length))]).map (fun z:Mv (2 * p.rails.length)=>z.1)) (w2'.setCell ⟨w.heap.size+2,y,none⟩ (.slice Av2 n2 cv2)):=by rw [List.map_append];exact hend.2.2
      exact⟨hend.1,hend.2.1,h3⟩
    ·refine wpOpIn_value (v:= .slice (some ⟨W5.heap.size,0,none⟩) 1 1) (w':=Wa) (tame_of (by kernel_rfl)) rfl rfl rfl ?_ ⟨HA.out, ?_⟩
     ·rw [←HWA.out];go_simp
     refine wpS_next (i:=11) (by kernel_rfl) ?_
     refine wpOpIn_value (v:=v) (w':=Wa) (tame_of (by kernel_rfl)) rfl rfl rfl ?_ ⟨HA.out, ?_⟩
     ·go_simp
     refine wpS_next (i:=14) (by kernel_rfl) ?_
     refine wpOpIn_value (v:= .slice Av (pre.map (·.1) ++ [(y:Int)]).length cv) (w':=w') (tame_of (by kernel_rfl)) rfl rfl rfl ?hap ⟨HSW.out, ?_⟩
     case hap=>
      refine exec_append (s:= .tmp 49) (x:= .tmp 51) (t:=22) (v:=v) (u:= .slice (some ⟨W5.heap.size,0,none⟩) 1 1) (by rfl) ?_ ?_ ?_
      ·go_simp
      ·go_simp
      ·exact HRUN.out
     refine wpS_next (i:=15) (by kernel_rfl) ?_
     refine wpOpIn_value (v:= .pointer (some ⟨w.heap.size+1,k,none⟩)) (w':=w') (tame_of (by kernel_rfl)) rfl rfl rfl ?_ ⟨HSW.out, ?_⟩
     ·go_simp
     refine wpS_next (i:=16) (by kernel_rfl) ?_
     refine wpOpIn_skip (w':=w'.setCell ⟨w.heap.size+1,k,none⟩ (.slice Av (pre.map (·.1) ++ [(y:Int)]).length cv)) (tame_of (by kernel_rfl)) rfl rfl rfl ?_ ⟨?_, ?_⟩
     ·go_simp
     ·have hs:=HSW.out
      exact⟨(World.cell?_of_block (Below.heap_setCell w' ⟨w.heap.size+1,k,none⟩ _ w.heap.size (by simp))).trans hs.1,(World.cell?_of_block (Below.heap_setCell w' ⟨w.heap.size+1,k,none⟩ _ g (by simp;omega))).trans hs.2.1,(World.cell?_of_block (Below.heap_setCell w' ⟨w.heap.size+1,k,none⟩ _ W.heap.size (by simp;omega))).trans hs.2.2⟩
     refine wpS_done (by kernel_rfl) ?_
     gi_wp2
     obtain⟨ho',hg',hw'⟩:=HPU.out
     obtain⟨R8,hkt8,hko8,hbe8⟩:=(R5.below HBA.out (Nat.le_refl _)).push (B:=w.heap.size) hv hg' ho' hw' (by omega)
     obtain⟨Wb,hWb⟩:∃Wb,w'.setCell ⟨w.heap.size+1,k,none⟩ (.slice Av (pre.map (·.1) ++ [(y:Int)]).length cv)=Wb:=⟨_,rfl⟩
     rw [hWb] at R8 hkt8 hko8 hbe8 ⊢
     have hkt:KT (w.heap.size+1) (w.heap.size+2) W5 Wb:=(KT.of_below HBA.out (Nat.le_refl _) R5.nk.lt R5.bk.lt).trans hkt8
     have hHd8:=hHd5.keep hkt
     have x8:=hHd8.x
     obtain⟨_,_,_,_,_,n8⟩:=hHd8.net.cell
     have k8:Wb.cell? ⟨W.heap.size,0,none⟩=some (O U (k:Int)):=hkt.cell hk5 hnk5
     have hnk8:¬Tch (w.heap.size+1) (w.heap.size+2) Wb W.heap.size:=hkt.keepsN (by omega) hnk5
     obtain⟨v2,hv2⟩:∃v2,us5[y]? = some v2:=⟨_,List.getElem?_eq_getElem (by rw [R5.bl];exact hyM)⟩
     have hrow2:Wb.cell? ⟨w.heap.size+2,y,none⟩=some v2:=(R8.bk.cell y).trans hv2
     have hy0:(0:Int)≤(y:Int):=by omega
     have hy1:(y:Int)<(M:Int):=by omega
     have hown2:=R8.ho y v2 hv2
     have HS2:=Z (And.intro x8 (And.intro n8 k8))
     have hl2:(befL p k y ++ ((pre.map (·.1)).filter fun z=>z == (y:Int)).map fun _=>(k:Int)).length≤1000000:=by
      rw [List.length_append,List.length_map]
      have h1:=befL_len p y k
      have h2:=List.length_filter_le (fun z=>z == (y:Int)) (pre.map (·.1))
      rw [List.length_map] at h2
      omega
     have hvl2:=hown2.lt
     have hWbz:=hkt.size
     obtain⟨Wc,hWc⟩:∃Wc,Wb.drew.alloc (.cells #[O U (k:Int)] 3)=Wc:=⟨_,rfl⟩
     have hbC:Below Wb.heap.size Wb Wc:=by rw [←hWc];exact (Below.refl _ _).drew.alloc (Nat.le_refl _) _
     have hzc:Wc.heap.size=Wb.heap.size+1:=by rw [←hWc];simp
     have hcc:Wc.cell? ⟨Wb.heap.size,0,none⟩=some (O U (k:Int)):=by rw [←hWc];exact cell_made Wb.drew (O U (k:Int)) 3
     obtain⟨v2',w2',hrun2,ho2,hg2',hw2⟩:=run_app1 (P:=Tryz.prog) Wc (w.heap.size+3) 22 22 i3 Tryz.underlying22 hi3 hz3 hs3 hb8 (hown2.below hbC (Nat.le_refl _)) Wb.heap.size (k:Int) hcc hl2 (by omega)
     have hSc:Wc.cell? ⟨w.heap.size,0,none⟩=some (.pointer (some ⟨g,0,none⟩))∧Wc.cell? ⟨g,5,none⟩=some (.slice (some ⟨w.heap.size+2,0,none⟩) M M)∧Wc.cell? ⟨W.heap.size,0,none⟩=some (O U (k:Int)):=
      ⟨(hbC.cell (p:=⟨w.heap.size,0,none⟩) (by simp;omega)).trans x8,(hbC.cell (p:=⟨g,5,none⟩) (by simp;omega)).trans n8,(hbC.cell (p:=⟨W.heap.size,0,none⟩) (by simp;omega)).trans k8⟩
     have hrowC:Wc.cell? ⟨w.heap.size+2,y,none⟩=some v2:=(hbC.cell (p:=⟨w.heap.size+2,y,none⟩) R8.bk.lt).trans hrow2
     have hfzC:Wc.frozen? ⟨w.heap.size+2,y,none⟩=false:=VRow.frozen (vs:=us5) ((hbC.block _ R8.bk.lt).trans R8.bk) y
     have hne3:∀j,j<w.heap.size+3→some j≠v2.ownBlock:=fun j hj e=>by have:=(hvl2 j e.symm).1;omega
     have hne4:some W.heap.size≠v2.ownBlock:=fun e=>hnk8 (.inr (.inr ⟨_,y,v2,.inr rfl,hrow2,e.symm⟩))
     have hSw2:w2'.cell? ⟨w.heap.size,0,none⟩=some (.pointer (some ⟨g,0,none⟩))∧w2'.cell? ⟨g,5,none⟩=some (.slice (some ⟨w.heap.size+2,0,none⟩) M M)∧w2'.cell? ⟨W.heap.size,0,none⟩=some (O U (k:Int)):=
      ⟨(World.cell?_of_block (hg2'.block w.heap.size (by omega) (hne3 _ (by omega)))).trans hSc.1,(World.cell?_of_block (hg2'.block g (by omega) (hne3 _ (by omega)))).trans hSc.2.1,(World.cell?_of_block (hg2'.block W.heap.size (by omega) hne4)).trans hSc.2.2⟩
     have hrow2':w2'.cell? ⟨w.heap.size+2,y,none⟩=some v2:=(World.cell?_of_block (hg2'.block (w.heap.size+2) (by omega) (hne3 _ (by omega)))).trans hrowC
     have hfz2':w2'.frozen? ⟨w.heap.size+2,y,none⟩=false:=(World.frozen?_of_block (hg2'.block (w.heap.size+2) (by omega) (hne3 _ (by omega)))).trans hfzC
     obtain⟨Av2,cv2,hvf2,_,_,_⟩:=ho2.form
     obtain⟨n2,hn2⟩:∃n2,(befL p k y ++ ((pre.map (·.1)).filter fun z=>z == (y:Int)).map (fun _=>(k:Int)) ++ [(k:Int)]).length=n2:=⟨_,rfl⟩
     rw [hn2] at hvf2
     subst hvf2
     have HC:=Z hSc;have HSW2:=Z hSw2;have HRUN2:=Z hrun2;have HWC:=Z hWc;have HBC:=Z hbC
     have HPU2:=Z (And.intro ho2 (And.intro hg2' hw2))
     have H8:=Z (And.intro R8 (And.intro hko8 (And.intro hbe8 (And.intro hkt hown2))))
     clear hSc hSw2 hrun2 hWc ho2 hg2' hw2 hcc hbC R8 hko8 hbe8 hkt hown2 hl2 ho' hg' hw' hkt8 hrow hrowA hrow' hfzA hfz' hx5 n4 n5 hk5 hx
     refine wpIn_region_S (S:=fun W'=>W'.cell? ⟨w.heap.size,0,none⟩=some (.pointer (some ⟨g,0,none⟩))∧W'.cell? ⟨g,5,none⟩=some (.slice (some ⟨w.heap.size+2,0,none⟩) M M)∧W'.cell? ⟨W.heap.size,0,none⟩=some (O U (k:Int))) (by kernel_rfl) ?_
     refine wpS_take (i:=0) (v:=(.pointer (some ⟨g,0,none⟩))) (tame_of (by kernel_rfl)) rfl (by kernel_rfl) (by kernel_rfl) (fun _ _ _ h=>False.elim h) HS2.out ⟨rfl, ?gr,fun _=>rfl⟩ ?_
     case gr=>
      rintro W' ⟨s1,s2,s3⟩
      go_simp
     refine wpS_take (i:=1) (v:=(.pointer (some ⟨g,0,none⟩))) (tame_of (by kernel_rfl)) rfl (by kernel_rfl) (by kernel_rfl) (fun _ _ _ h=>False.elim h) HS2.out ⟨rfl, ?gr,fun _=>rfl⟩ ?_
     case gr=>
      rintro W' ⟨s1,s2,s3⟩
      go_simp
     refine wpS_take (i:=2) (v:=(.pointer (some ⟨g,5,none⟩))) (tame_of (by kernel_rfl)) rfl (by kernel_rfl) (by kernel_rfl) (fun _ _ _ h=>False.elim h) HS2.out ⟨rfl, ?gr,fun _=>rfl⟩ ?_
     case gr=>
      rintro W' ⟨s1,s2,s3⟩
      go_simp
     refine wpS_take (i:=3) (v:=(.slice (some ⟨w.heap.size+2,0,none⟩) M M)) (tame_of (by kernel_rfl)) rfl (by kernel_rfl) (by kernel_rfl) (fun _ _ _ h=>False.elim h) HS2.out ⟨rfl, ?gr,fun _=>rfl⟩ ?_
     case gr=>
      rintro W' ⟨s1,s2,s3⟩
      go_simp
     refine wpS_take (i:=4) (v:=(O U (y:Int))) (tame_of (by kernel_rfl)) rfl (by kernel_rfl) (by kernel_rfl) (fun _ _ _ h=>False.elim h) HS2.out ⟨rfl, ?gr,fun _=>rfl⟩ ?_
     case gr=>
      rintro W' ⟨s1,s2,s3⟩
      go_simp
     refine wpS_take (i:=5) (v:=(.pointer (some ⟨g,0,none⟩))) (tame_of (by kernel_rfl)) rfl (by kernel_rfl) (by kernel_rfl) (fun _ _ _ h=>False.elim h) HS2.out ⟨rfl, ?gr,fun _=>rfl⟩ ?_
     case gr=>
      rintro W' ⟨s1,s2,s3⟩
      go_simp
     refine wpS_take (i:=6) (v:=(.pointer (some ⟨g,0,none⟩))) (tame_of (by kernel_rfl)) rfl (by kernel_rfl) (by kernel_rfl) (fun _ _ _ h=>False.elim h) HS2.out ⟨rfl, ?gr,fun _=>rfl⟩ ?_
     case gr=>
      rintro W' ⟨s1,s2,s3⟩
      go_simp
     refine wpS_take (i:=7) (v:=(.pointer (some ⟨g,5,none⟩))) (tame_of (by kernel_rfl)) rfl (by kernel_rfl) (by kernel_rfl) (fun _ _ _ h=>False.elim h) HS2.out ⟨rfl, ?gr,fun _=>rfl⟩ ?_
     case gr=>
      rintro W' ⟨s1,s2,s3⟩
      go_simp
     refine wpS_take (i:=8) (v:=(.slice (some ⟨w.heap.size+2,0,none⟩) M M)) (tame_of (by kernel_rfl)) rfl (by kernel_rfl) (by kernel_rfl) (fun _ _ _ h=>False.elim h) HS2.out ⟨rfl, ?gr,fun _=>rfl⟩ ?_
     case gr=>
      rintro W' ⟨s1,s2,s3⟩
      go_simp
     refine wpS_take (i:=9) (v:=(O U (y:Int))) (tame_of (by kernel_rfl)) rfl (by kernel_rfl) (by kernel_rfl) (fun _ _ _ h=>False.elim h) HS2.out ⟨rfl, ?gr,fun _=>rfl⟩ ?_
     case gr=>
      rintro W' ⟨s1,s2,s3⟩
      go_simp
     refine wpS_take (i:=10) (v:=(.pointer (some ⟨w.heap.size+2,y,none⟩))) (tame_of (by kernel_rfl)) rfl (by kernel_rfl) (by kernel_rfl) (fun _ _ _ h=>False.elim h) HS2.out ⟨rfl, ?gr,fun _=>rfl⟩ ?_
     case gr=>
      rintro W' ⟨s1,s2,s3⟩
      go_simp
     refine wpS_take (i:=12) (v:=(O U (k:Int))) (tame_of (by kernel_rfl)) rfl (by kernel_rfl) (by kernel_rfl) (fun _ _ _ h=>False.elim h) HS2.out ⟨rfl, ?gr,fun _=>rfl⟩ ?_
     case gr=>
      rintro W' ⟨s1,s2,s3⟩
      go_simp
     refine wpS_two (i:=11) (j:=13) (by kernel_rfl) ?_ ?_
     ·refine wpOpIn_value (v:=v2) (w':=Wb.drew) (tame_of (by kernel_rfl)) rfl rfl rfl ?_ ⟨HS2.out, ?_⟩
      ·go_simp
      refine wpS_next (i:=13) (by kernel_rfl) ?_
      refine wpOpIn_value (v:= .slice (some ⟨Wb.heap.size,0,none⟩) 1 1) (w':=Wc) (tame_of (by kernel_rfl)) rfl rfl rfl ?_ ⟨HC.out, ?_⟩
      ·rw [←HWC.out];go_simp
      refine wpS_next (i:=14) (by kernel_rfl) ?_
      refine wpOpIn_value (v:= .slice Av2 n2 cv2) (w':=w2') (tame_of (by kernel_rfl)) rfl rfl rfl ?hap ⟨HSW2.out, ?_⟩
      case hap=>
       refine exec_append (s:= .tmp 65) (x:= .tmp 67) (t:=22) (v:=v2) (u:= .slice (some ⟨Wb.heap.size,0,none⟩) 1 1) (by rfl) ?_ ?_ ?_
       ·go_simp
       ·go_simp
       ·exact HRUN2.out
      refine wpS_next (i:=15) (by kernel_rfl) ?_
      refine wpOpIn_value (v:= .pointer (some ⟨w.heap.size+2,y,none⟩)) (w':=w2') (tame_of (by kernel_rfl)) rfl rfl rfl ?_ ⟨HSW2.out, ?_⟩
      ·go_simp
      refine wpS_next (i:=16) (by kernel_rfl) ?_
      refine wpOpIn_skip (w':=w2'.setCell ⟨w.heap.size+2,y,none⟩ (.slice Av2 n2 cv2)) (tame_of (by kernel_rfl)) rfl rfl rfl ?_ ⟨?_, ?_⟩
      ·go_simp
      ·have hs:=HSW2.out
       exact⟨(World.cell?_of_block (Below.heap_setCell w2' ⟨w.heap.size+2,y,none⟩ _ w.heap.size (by simp))).trans hs.1,(World.cell?_of_block (Below.heap_setCell w2' ⟨w.heap.size+2,y,none⟩ _ g (by simp;omega))).trans hs.2.1,(World.cell?_of_block (Below.heap_setCell w2' ⟨w.heap.size+2,y,none⟩ _ W.heap.size (by simp;omega))).trans hs.2.2⟩
      refine wpS_done (by kernel_rfl) ?_
      gi_wp2
      obtain⟨R8,hko8,hbe8,hkt,hown2⟩:=H8.out
      obtain⟨ho2,hg2',hw2⟩:=HPU2.out
      obtain⟨R9,hkt9,hko9,hbe9⟩:=(R8.below HBC.out (Nat.le_refl _)).swap.push (B:=w.heap.size) hv2 hg2' ho2 hw2 (by omega)
      have hend:=LI.step hI (hkt.trans ((KT.of_below HBC.out (Nat.le_refl _) R8.nk.lt R8.bk.lt).trans hkt9.swap)) ((keepsOthers_below HBA.out).trans (hko8.trans ((keepsOthers_below HBC.out).trans hko9))) ((HBA.out.mono (by omega)).trans (hbe8.trans ((HBC.out.mono (by omega)).trans hbe9))) R9.swap
      rw [hsz3] at hend
      have h3:LI (w.heap.size+1) (w.heap.size+2) w.heap.size M p W2 k w3 ((pre ++ [(⟨(y:Int),hx0,hxM⟩:Mv (2 * p.rails.length))]).map (fun z:Mv (2 * p.rails.length)=>z.1)) (w2'.setCell ⟨w.heap.size+2,y,none⟩ (.slice Av2 n2 cv2)):=by rw [List.map_append];exact hend.2.2
      exact⟨hend.1,hend.2.1,h3⟩
     ·refine wpOpIn_value (v:= .slice (some ⟨Wb.heap.size,0,none⟩) 1 1) (w':=Wc) (tame_of (by kernel_rfl)) rfl rfl rfl ?_ ⟨HC.out, ?_⟩
      ·rw [←HWC.out];go_simp
      refine wpS_next (i:=11) (by kernel_rfl) ?_
      refine wpOpIn_value (v:=v2) (w':=Wc) (tame_of (by kernel_rfl)) rfl rfl rfl ?_ ⟨HC.out, ?_⟩
      ·go_simp
      refine wpS_next (i:=14) (by kernel_rfl) ?_
      refine wpOpIn_value (v:= .slice Av2 n2 cv2) (w':=w2') (tame_of (by kernel_rfl)) rfl rfl rfl ?hap ⟨HSW2.out, ?_⟩
      case hap=>
       refine exec_append (s:= .tmp 65) (x:= .tmp 67) (t:=22) (v:=v2) (u:= .slice (some ⟨Wb.heap.size,0,none⟩) 1 1) (by rfl) ?_ ?_ ?_
       ·go_simp
       ·go_simp
       ·exact HRUN2.out
      refine wpS_next (i:=15) (by kernel_rfl) ?_
      refine wpOpIn_value (v:= .pointer (some ⟨w.heap.size+2,y,none⟩)) (w':=w2') (tame_of (by kernel_rfl)) rfl rfl rfl ?_ ⟨HSW2.out, ?_⟩
      ·go_simp
      refine wpS_next (i:=16) (by kernel_rfl) ?_
      refine wpOpIn_skip (w':=w2'.setCell ⟨w.heap.size+2,y,none⟩ (.slice Av2 n2 cv2)) (tame_of (by kernel_rfl)) rfl rfl rfl ?_ ⟨?_, ?_⟩
      ·go_simp
      ·have hs:=HSW2.out
       exact⟨(World.cell?_of_block (Below.heap_setCell w2' ⟨w.heap.size+2,y,none⟩ _ w.heap.size (by simp))).trans hs.1,(World.cell?_of_block (Below.heap_setCell w2' ⟨w.heap.size+2,y,none⟩ _ g (by simp;omega))).trans hs.2.1,(World.cell?_of_block (Below.heap_setCell w2' ⟨w.heap.size+2,y,none⟩ _ W.heap.size (by simp;omega))).trans hs.2.2⟩
      refine wpS_done (by kernel_rfl) ?_
      gi_wp2
      obtain⟨R8,hko8,hbe8,hkt,hown2⟩:=H8.out
      obtain⟨ho2,hg2',hw2⟩:=HPU2.out
      obtain⟨R9,hkt9,hko9,hbe9⟩:=(R8.below HBC.out (Nat.le_refl _)).swap.push (B:=w.heap.size) hv2 hg2' ho2 hw2 (by omega)
      have hend:=LI.step hI (hkt.trans ((KT.of_below HBC.out (Nat.le_refl _) R8.nk.lt R8.bk.lt).trans hkt9.swap)) ((keepsOthers_below HBA.out).trans (hko8.trans ((keepsOthers_below HBC.out).trans hko9))) ((HBA.out.mono (by omega)).trans (hbe8.trans ((HBC.out.mono (by omega)).trans hbe9))) R9.swap
      rw [hsz3] at hend
      have h3:LI (w.heap.size+1) (w.heap.size+2) w.heap.size M p W2 k w3 ((pre ++ [(⟨(y:Int),hx0,hxM⟩:Mv (2 * p.rails.length))]).map (fun z:Mv (2 * p.rails.length)=>z.1)) (w2'.setCell ⟨w.heap.size+2,y,none⟩ (.slice Av2 n2 cv2)):=by rw [List.map_append];exact hend.2.2
      exact⟨hend.1,hend.2.1,h3⟩
   case done=>
    rintro D xs W5 hD hxs' hI hd
    rw [hxs'] at hI
    have hHd5:=hHd3.keep hI.k3
    have hx5:=hHd5.x
    obtain⟨_,_,_,_,n4,_⟩:=hHd5.net.cell
    have hk5:W5.cell? ⟨W.heap.size,0,none⟩=some (O U (k:Int)):=hI.k3.cell hxs.1 (hnt _ (Nat.le_refl _))
    have hnk5:¬Tch (w.heap.size+1) (w.heap.size+2) W5 W.heap.size:=hI.k3.keepsN (by omega) (hnt _ (Nat.le_refl _))
    obtain⟨vs5,us5,R5⟩:=hI.rw
    obtain⟨v,hv⟩:∃v,vs5[k]? = some v:=⟨_,List.getElem?_eq_getElem (by rw [R5.nl];exact hlt)⟩
    have hrow:=(R5.nk.cell k).trans hv
    have hown:Own W5 (w.heap.size+3) 3 1 fI v (leaveL p k):=by simpa using R5.fo k v hv
    have hvl:=hown.lt
    have hll:(leaveL p k).length≤2:=by unfold leaveL;rw [List.length_map];exact thru_le2 _ _ _
    have hsrt:=sort_any (base:=w.heap.size+3) W5.drew hown (by omega)
    have hks:∀W6,W5.drew.grownBy W6 v.ownBlock→W6.cell? ⟨w.heap.size,0,none⟩=some (.pointer (some ⟨g,0,none⟩))∧W6.cell? ⟨g,4,none⟩=some (.slice (some ⟨w.heap.size+1,0,none⟩) M M)∧W6.cell? ⟨W.heap.size,0,none⟩=some (O U (k:Int))∧W6.cell? ⟨w.heap.size+1,k,none⟩=some v:=fun W6 hg6=>by
     have hW5:W5.drew.heap.size=W5.heap.size:=rfl
     have hz5:=hI.k3.size
     refine⟨(World.cell?_of_block (hg6.block w.heap.size (by omega) fun e=>by have:=(hvl _ e.symm).1;omega)).trans hx5,(World.cell?_of_block (hg6.block g (by omega) fun e=>by have:=(hvl _ e.symm).1;omega)).trans n4,(World.cell?_of_block (hg6.block W.heap.size (by omega) fun e=>hnk5 (.inr (.inr ⟨_,k,v,.inl rfl,hrow,e.symm⟩)))).trans hk5,(World.cell?_of_block (hg6.block (w.heap.size+1) (by omega) fun e=>by have:=(hvl _ e.symm).1;omega)).trans hrow⟩
    have hkz:(0:Int)≤(k:Int):=by omega
    have HD:=Z (And.intro hD (And.intro hI (And.intro hd (And.intro R5 (And.intro hv (And.intro hown hvl))))))
    have HKS:=Z hks
    have HSRT:=Z hsrt
    clear hD hI hd R5 hv hown hvl hks hHd5 hHd3 hI0 R3 R0 hLv hseq hHd hk3 hnt hxs hsrt hb3 hnk5
    gi_wp2
    refine wpIn_wide.2 ?_
    go_region_held3 (fun w'=>w'.cell? ⟨w.heap.size,0,none⟩=some (.pointer (some ⟨g,0,none⟩))∧w'.cell? ⟨g,4,none⟩=some (.slice (some ⟨w.heap.size+1,0,none⟩) M M)∧w'.cell? ⟨W.heap.size,0,none⟩=some (O U (k:Int))∧w'.cell? ⟨w.heap.size+1,k,none⟩=some v)
     (first|exact⟨hx5,n4,hk5,hrow⟩|exact HKS.out _ hg6)
     ((go_at_call 83;refine HSRT.out.mono ?_;rintro e W6 ⟨rfl,hg6,ho6⟩))
    gi_wp2
    obtain⟨hD,hI,hd,R5,hv,hown,hvl⟩:=HD.out
    obtain⟨hlk6,hdm6⟩:=hI.done R5 hv ⟨hg6.os,hg6.tape,hg6.output,hg6.size,hg6.block⟩ ho6 (by omega)
    have hmk3:Mk w.heap.size ds w3:=hmk.keep fun D h=>hdm3 D h
    refine⟨⟨_,k+1,rfl,by omega,hmk3.more (fun D h=>hdm6 D (hI.dm D h)) hD (by omega) (hdm6 D hd),hlk6⟩, ?_⟩
    simp [intOf]
    omega
   case stop=>exact fun _ _ _ _ _ _ h _=>h.elim
  ·obtain rfl:k=M:=by omega
   gi_wp2
   obtain⟨Ds,rfl,hn,hd⟩:=hmk
   refine leaves_marks (v:=undef) rfl Ds W hn (fun D hD=>(hd D hD).2) ?_
   intro W' hb hs h1 h2 h3
   have hbel:Below w.heap.size W W':=⟨h1,h2,h3,by omega,fun j hj=>hb j fun D hD e=>by have:=(hd D hD).1;omega⟩
   obtain⟨_,_,_,_,hg2,_,_⟩:=HN2.out
   obtain⟨vs,us,R⟩:=hlk.rw
   have R':=R.of_blocks (W':=W') fun j t=>hb j fun D hD e=>by
    obtain⟨c,e',h3⟩:=R.cells t
    rw [e,(hd D hD).2] at h3;cases h3
   refine⟨_,results_none rfl _ _ _,rfl,(hg2.below hlk.be (Nat.le_refl _)).below hbel (Nat.le_refl _),vs,us, ?_, ?_⟩
   ·rw [HM.out]
    refine {R' with fo:=fun j v hv=> ?_}
    have hj:j<k:=by rw [←R'.nl];exact (List.getElem?_eq_some_iff.1 hv).1
    have:=R'.fo j v hv
    rw [if_pos hj] at this
    exact this
   ·have:=hHd.net.below hbel hgl
    rw [HM.out] at this ⊢
    exact this
end Go.Proofs.YtfhkbbjddjddmaaGreat
