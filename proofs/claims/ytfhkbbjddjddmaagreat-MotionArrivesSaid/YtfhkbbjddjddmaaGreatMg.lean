/- Texts M31 M32. -/
import Derived.Test.YtfhkbbjddjddmaaGreatMf
import Derived.Test.YtfhkbbjddjddmaaGreatRgo
set_option linter.unusedVariables false
set_option linter.unusedSimpArgs false
open Go.Value renaming int→O
open Go.IntKind renaming i64→U
open Go.Lib renaming hid→Z
namespace Go.Proofs.YtfhkbbjddjddmaaGreat
open Go.RowKit Go.Shelf Go.Lib Go.BigFrame
attribute [local go_sem] Oper.semAt_some
theorem Rw.ne_def {W:World} {g D:Nat} {t:TypeId} {cs:Array Value} (h:Rw W g t cs) (hD:W.heap[D]? = some (.deferred (some []))):D≠g:=fun e=>by
 rw [e,show W.heap[g]? = _ from h] at hD;cases hD
theorem exec_store_row {P:Program} {o:Oper} {a:Act} {w:World} (ty:TypeId) (x y:Operand) (ho:o.op= .store ty x y)
  (g:Nat) (hx:a.eval x= .pointer (some ⟨g,0,none⟩)) (cs':Array Value) (hy:a.eval y= .agg cs') (t:TypeId) (cs:Array Value) (hg:Rw w g t cs)
  (hi:(P.info? ty).map (·.size)=some cs'.size) (hs:cs.size=cs'.size) (h1:cs'.all (·.oneCell')=true):(execOp a.eval o).run P w= .ok .skip (w.setRow g cs'):=by
 unfold execOp
 have hr:=run_storeVar_row (P:=P) w g t ty cs cs' hg hi hs h1
 simp only [ho,hx,hy,Instr.storeAt,Instr.sureAddr,Sem.run_bind,Sem.run_pure,Result.andThen_ok,hr]
theorem keeps_setRow {w:World} {g:Nat} {t:TypeId} {cs:Array Value} (h:Rw w g t cs) (cs':Array Value):KeepsOthers w (w.setRow g cs'):=
 ⟨(below_setRow (Below.refl 0 w) (Nat.zero_le g) cs').size,fun k o ho hc=>by
  by_cases e:k=g
  ·subst e
   rw [show w.heap[k]? = _ from h] at ho
   cases ho
   simp [Obj.isCells] at hc
  ·exact (setRow_other w g k cs' e).trans ho⟩
set_option maxRecDepth 100000 in
set_option maxHeartbeats 4000000 in
theorem choose_any (r k:Nat) (t:Tr) (a_:Int) (A:Option Addr) (n c:Nat) (Az:Option Addr) (nz cz:Nat) (zs:List Zn) (x:Pt) (s:Int) (w:World) (hR:RunAt w r k t a_ A n c Az nz cz zs) (hAz:∀ad,Az=some ad→ad.block<w.heap.size) (ht:TrOk t) (ha:0≤a_) (hz:ZsOk zs) (hx:PtOk t zs x) (hy:x.y≤10050000000000000) (s0:0≤s) (s1:s≤3000000000000) :
  Calls Tryz.prog 108 #[.pointer (some ⟨r,0,none⟩),.agg #[O U x.m,O U x.y,O U (x.z:Int)],O U s] w fun e w'=>e= .returned (.tuple #[.agg (chO1 t a_ zs x (chZ t a_ zs s x 9 (-1))),.agg (chO2 t a_ zs x (chZ t a_ zs s x 9 (-1))),.bool (chZ t a_ zs s x 9 (-1)).isSome])∧Below w.heap.size w w':=by
 have hb1:=(((((Below.refl w.heap.size w).alloc (Nat.le_refl _) (.cells #[.pointer (some ⟨r,0,none⟩)] 98)).alloc (by simp) (.cells #[O U x.m,O U x.y,O U (x.z:Int)] 102)).alloc (by simp;omega) (.cells #[O U s] 3)).alloc (by simp;omega) (.cells #[O U 0,O U 0,O U 0,O U 0,O U 0,O U 0] 87)).alloc (by simp;omega) (.cells #[O U 0,O U 0,O U 0] 102)
 obtain⟨q1,q2,q3,q4,q5⟩:=rows5 w #[.pointer (some ⟨r,0,none⟩)] #[O U x.m,O U x.y,O U (x.z:Int)] #[O U s] #[O U 0,O U 0,O U 0,O U 0,O U 0,O U 0] #[O U 0,O U 0,O U 0] 98 102 3 87 102
 have hR1:=hR.below hb1
 have hz0:(((((w.alloc (.cells #[.pointer (some ⟨r,0,none⟩)] 98)).alloc (.cells #[O U x.m,O U x.y,O U (x.z:Int)] 102)).alloc (.cells #[O U s] 3)).alloc (.cells #[O U 0,O U 0,O U 0,O U 0,O U 0,O U 0] 87)).alloc (.cells #[O U 0,O U 0,O U 0] 102)).heap.size=w.heap.size+5:=by simp
 obtain⟨W0,hW0⟩:∃z,((((w.alloc (.cells #[.pointer (some ⟨r,0,none⟩)] 98)).alloc (.cells #[O U x.m,O U x.y,O U (x.z:Int)] 102)).alloc (.cells #[O U s] 3)).alloc (.cells #[O U 0,O U 0,O U 0,O U 0,O U 0,O U 0] 87)).alloc (.cells #[O U 0,O U 0,O U 0] 102)=z:=⟨_,rfl⟩
 rw [hW0] at hb1 q1 q2 q3 q4 q5 hR1 hz0
 have hb2:=(Below.refl W0.heap.size W0).alloc (Nat.le_refl _) (.cells #[.bool false] 4)
 have q6:=Rw.new W0 #[.bool false] 4
 have hz1:(W0.alloc (.cells #[.bool false] 4)).heap.size=w.heap.size+6:=by simp [hz0]
 obtain⟨W1,hW1⟩:∃z,W0.alloc (.cells #[.bool false] 4)=z:=⟨_,rfl⟩
 rw [hW1] at hb2 q6 hz1
 obtain⟨B,hB⟩:∃B,w.heap.size=B:=⟨_,rfl⟩
 have hlt:r<B∧k<B:=⟨by rw [←hB];exact hR.r.lt,by rw [←hB];exact hR.e.lt⟩
 rw [hB] at hb1 q1 q2 q3 q4 q5 hz0 hz1 hAz
 rw [hz0] at q6
 have HB1:=Z (hb1.trans (hb2.mono (by omega)))
 have HQ1:=Z (show Rw W1 B 98 #[.pointer (some ⟨r,0,none⟩)]∧Rw W1 (B+1) 102 #[O U x.m,O U x.y,O U (x.z:Int)]∧Rw W1 (B+2) 3 #[O U s]∧Rw W1 (B+3) 87 #[O U 0,O U 0,O U 0,O U 0,O U 0,O U 0]∧Rw W1 (B+4) 102 #[O U 0,O U 0,O U 0]∧Rw W1 (B+5) 4 #[.bool false] from⟨q1.below hb2 q1.lt,q2.below hb2 q2.lt,q3.below hb2 q3.lt,q4.below hb2 q4.lt,q5.below hb2 q5.lt,q6⟩)
 have HR1:=Z (hR1.below hb2)
 have HZ1:=Z hz1;have HLT:=Z hlt;have HAZ:=Z hAz
 have HBE:=Z hB
 clear hb1 hb2 q1 q2 q3 q4 q5 q6 hz1 hR hR1 hlt hAz
 obtain⟨g,hg⟩:∃g,zs[x.z]'hx.z=g:=⟨_,rfl⟩
 have hg? : zs[x.z]? = some g:=by rw [List.getElem?_eq_getElem hx.z,hg]
 have hgs:=hz.sl g (List.mem_of_getElem? hg?)
 have hzsl:zslp zs x.z=g.sl:=by unfold zslp;rw [hg?]
 have HG:=Z hg;have HGS:=Z hgs;have HZS:=Z hzsl
 clear hg hg? hgs hzsl
 obtain⟨R,hRes⟩:∃R,chZ t a_ zs s x 9 (-1)=R:=⟨_,rfl⟩
 rw [hRes]
 have HRES:=Z hRes
 clear hRes
 refine (callsIn_wide (n:=8)).1 ?_
 refine callsIn_of_wp_marks Tryz.func108 rfl trivial ?_ rfl
 simp only [Tryz.ntmps108,List.size_toArray,List.length_cons,List.length_nil,Nat.reduceAdd,Nat.reduceSub,Array.replicate_succ,Array.replicate_zero,List.push_toArray,List.append_toArray,List.nil_append,List.cons_append]
 gi_wp2
 refine wpIn_wide.2 ?_
 apply wp_scope_straight
 refine (wpIn_wide (n:=8)).1 ?_
 gi_wp2
 refine wpIn_wide.2 ?_
 apply wp_label
 gi_wp2
 clear hz0 hW0 hW1
 refine wpIn_loop (fun a W=>∃(ds:List Deferred) (i:Nat) (tr:Int),a={tmps:=FCa r B x s tr i (fun i=>a.tmps.getD i undef),defers:=ds}∧i≤9∧chZ t a_ zs s x (9 - i) tr=R∧Mks (B+6) ds W∧Below (B+6) W1 W) (fun a _=>9 - (intOf (a.tmps.getD 14 undef)).toNat) ?atStart ?round
 case atStart=>exact⟨[],0, -1,rfl,by omega,HRES.out,Mks.nil _ _,Below.refl _ _⟩
 case round=>
  rintro a2 W ⟨ds,i,tr,ha2,hi,hch,hmk,hbw⟩
  obtain⟨u,rfl⟩:∃u,a2={tmps:=FCa r B x s tr i u,defers:=ds}:=⟨_,ha2⟩
  clear ha2
  simp only [FCa]
  have HM:=Z hmk;have HW:=Z hbw;have HCH:=Z hch
  have HRO:=Z (show ∀wx,Below W.heap.size W wx→Rw wx B 98 #[.pointer (some ⟨r,0,none⟩)]∧Rw wx (B+1) 102 #[O U x.m,O U x.y,O U (x.z:Int)]∧Rw wx (B+2) 3 #[O U s]∧Rw wx (B+3) 87 #[O U 0,O U 0,O U 0,O U 0,O U 0,O U 0]∧Rw wx (B+4) 102 #[O U 0,O U 0,O U 0]∧Rw wx (B+5) 4 #[.bool false]∧RunAt wx r k t a_ A n c Az nz cz zs from fun wx h=>by
   have hz1:=HZ1.out
   have hs:=hbw.size
   have hb:=hbw.trans (h.mono (by omega))
   obtain⟨q1,q2,q3,q4,q5,q6⟩:=HQ1.out
   exact⟨q1.below hb (by omega),q2.below hb (by omega),q3.below hb (by omega),q4.below hb (by omega),q5.below hb (by omega),q6.below hb (by omega),HR1.out.below (hz1 ▸ hb)⟩)
  have HBW:=Z (show B+6≤W.heap.size from by have:=hbw.size;have:=HZ1.out;omega)
  clear hmk hbw hch
  by_cases hi9:i<9
  ·have hi9':(i:Int)<9:=by omega
   gi_wp2
   obtain⟨n',hn'⟩:∃n',8 - i=n':=⟨_,rfl⟩
   have hdm:(4:Int) - (i:Int)=(n':Int) - 4:=by omega
   have hgs:=HGS.out
   have hsn:nextZ t a_ x.m ((n':Int) - 4) g.sl=chQ t a_ zs x n':=by unfold chQ;rw [HZS.out]
   have hsf:fsZ t a_ x.m ((n':Int) - 4) g.sl=chF t a_ zs x n':=by unfold chF;rw [HZS.out]
   have hfk:=fs_ok ht (d:=(n':Int) - 4) (sl:=g.sl) ha hx.m0 hx.m1 (by omega) (by omega) hgs.1 hgs.2
   have hqb:=next_bd hfk (by have:=hx.m1;have:=ht.m2;omega)
   rw [hsn] at hqb
   obtain⟨q,hq⟩:∃q,chQ t a_ zs x n'=q:=⟨_,rfl⟩
   obtain⟨F,hF⟩:∃F,chF t a_ zs x n'=F:=⟨_,rfl⟩
   rw [hq] at hsn hqb
   rw [hF] at hsf
   have HQ:=Z hq;have HFF2:=Z hF;have HQB:=Z hqb;have HNI:=Z hn'
   have HST:=Z (show ∀wx,Below W.heap.size W wx→Calls Tryz.prog 71 #[.pointer (some ⟨k,0,none⟩),O U x.m,O U ((n':Int) - 4),O U g.sl] wx fun e w'=>e= .returned (.agg #[O U F.p,O U F.b,O U F.d,O U F.h,O U x.m,O U q])∧Below wx.heap.size wx w' from fun wx h=>by
    have:=step_any A c n k t a_ x.m ((n':Int) - 4) g.sl wx (HRO.out wx h).2.2.2.2.2.2.e ht ha hx.m0 hx.m1 (by omega) (by omega) hgs.1 hgs.2
    rwa [hsn,hsf] at this)
   have HSL:=Z (show ∀wx,Below W.heap.size W wx→Calls Tryz.prog 103 #[.pointer (some ⟨r,0,none⟩),.agg #[O U x.m,O U x.y,O U (x.z:Int)]] wx fun e w'=>e= .returned (O U g.sl)∧Below wx.heap.size wx w' from fun wx h=>slope_any wx r k t a_ A n c Az nz cz zs x.m x.y (x.z:Int) (HRO.out wx h).2.2.2.2.2.2 ht x.z g rfl hx.z HG.out (by have:=hz.ln;have:=(HRO.out wx h).2.2.2.2.2.2.zl;omega))
   have hwd:IntKind.i64.wrap (4 - (i:Int))=(n':Int) - 4:=by rw [IntKind.wrap_i64];omega
   clear hsn hsf hfk hqb hq hF hgs hn' hdm
   refine wpIn_wide.2 ?_
   refine Code.wp_mono (Q:=fun e a' w'=>e= .normal∧∃(sb:Nat),a'={tmps:=FCb r B sb x s tr i (fun i=>a'.tmps.getD i undef),defers:=ds}∧W.heap.size≤sb∧Rw w' sb 87 #[O U F.p,O U F.b,O U F.d,O U F.h,O U x.m,O U q]∧Below W.heap.size W w') (fun e a' w' h=> ?rest) ?reg
   case reg=>
    have hbq:Below W.heap.size W W.drew:=(Below.refl _ _).drew
    have HSK:=Z (show ∀wx,Below W.heap.size W wx→Rw wx B 98 #[.pointer (some ⟨r,0,none⟩)]∧Rw wx (B+1) 102 #[O U x.m,O U x.y,O U (x.z:Int)]∧Rw wx r 147 #[.pointer (some ⟨k,0,none⟩),O U (10 * t.mass),.slice Az nz cz] from fun wx h=>⟨(HRO.out wx h).1,(HRO.out wx h).2.1,(HRO.out wx h).2.2.2.2.2.2.r⟩)
    have HS:=Z (HSK.out _ hbq)
    refine wp_region_noPanic ?_
    refine wp_region_held_drew (S:=fun wx=>Rw wx B 98 #[.pointer (some ⟨r,0,none⟩)]∧Rw wx (B+1) 102 #[O U x.m,O U x.y,O U (x.z:Int)]∧Rw wx r 147 #[.pointer (some ⟨k,0,none⟩),O U (10 * t.mass),.slice Az nz cz]) (by kernel_rfl) HS.out (fun _=> ?_)
    have hrl:r<B:=HLT.out.1
    have hBW:=HBW.out
    obtain⟨wd,hwd2⟩:∃z,W.drew=z:=⟨_,rfl⟩
    rw [hwd2] at hbq HS ⊢
    clear hwd2
    refine hTk (i:=0) (d:=17) (v:= .pointer (some ⟨r,0,none⟩)) rfl rfl (Or.inl ⟨rfl,by rintro W' ⟨s0,s1,s2⟩;have y0:=s0.cell 0;have z0:=s1.cell 0;have z1:=s1.cell 1;have z2:=s1.cell 2;have k0:=s2.cell 0;go_simp⟩) HS.out ?_
    simp only [Act.put,sB,sZ,sS]
    refine hTk (i:=1) (d:=18) (v:= .pointer (some ⟨r,0,none⟩)) rfl rfl (Or.inl ⟨rfl,by rintro W' ⟨s0,s1,s2⟩;have y0:=s0.cell 0;have z0:=s1.cell 0;have z1:=s1.cell 1;have z2:=s1.cell 2;have k0:=s2.cell 0;go_simp⟩) HS.out ?_
    simp only [Act.put,sB,sZ,sS]
    refine hTk (i:=2) (d:=19) (v:= .pointer (some ⟨r,0,none⟩)) rfl rfl (Or.inl ⟨rfl,by rintro W' ⟨s0,s1,s2⟩;have y0:=s0.cell 0;have z0:=s1.cell 0;have z1:=s1.cell 1;have z2:=s1.cell 2;have k0:=s2.cell 0;go_simp⟩) HS.out ?_
    simp only [Act.put,sB,sZ,sS]
    refine hTk (i:=3) (d:=20) (v:= .pointer (some ⟨k,0,none⟩)) rfl rfl (Or.inl ⟨rfl,by rintro W' ⟨s0,s1,s2⟩;have y0:=s0.cell 0;have z0:=s1.cell 0;have z1:=s1.cell 1;have z2:=s1.cell 2;have k0:=s2.cell 0;go_simp⟩) HS.out ?_
    simp only [Act.put,sB,sZ,sS]
    refine hTk (i:=4) (d:=21) (v:= .pointer (some ⟨B+1,0,none⟩)) rfl rfl (Or.inl ⟨rfl,by rintro W' ⟨s0,s1,s2⟩;have y0:=s0.cell 0;have z0:=s1.cell 0;have z1:=s1.cell 1;have z2:=s1.cell 2;have k0:=s2.cell 0;go_simp⟩) HS.out ?_
    simp only [Act.put,sB,sZ,sS]
    refine hTk (i:=5) (d:=22) (v:= .pointer (some ⟨B+1,0,none⟩)) rfl rfl (Or.inl ⟨rfl,by rintro W' ⟨s0,s1,s2⟩;have y0:=s0.cell 0;have z0:=s1.cell 0;have z1:=s1.cell 1;have z2:=s1.cell 2;have k0:=s2.cell 0;go_simp⟩) HS.out ?_
    simp only [Act.put,sB,sZ,sS]
    refine hTk (i:=6) (d:=23) (v:=O U x.m) rfl rfl (Or.inl ⟨rfl,by rintro W' ⟨s0,s1,s2⟩;have y0:=s0.cell 0;have z0:=s1.cell 0;have z1:=s1.cell 1;have z2:=s1.cell 2;have k0:=s2.cell 0;go_simp⟩) HS.out ?_
    simp only [Act.put,sB,sZ,sS]
    refine hTk (i:=7) (d:=24) (v:=O U (i:Int)) rfl rfl (Or.inl ⟨rfl,by rintro W' ⟨s0,s1,s2⟩;have y0:=s0.cell 0;have z0:=s1.cell 0;have z1:=s1.cell 1;have z2:=s1.cell 2;have k0:=s2.cell 0;go_simp⟩) HS.out ?_
    simp only [Act.put,sB,sZ,sS]
    refine hTk (i:=8) (d:=25) (v:=((O U ((n':Int) - 4)))) rfl rfl (Or.inl ⟨rfl,by rintro W' ⟨s0,s1,s2⟩;have y0:=s0.cell 0;have z0:=s1.cell 0;have z1:=s1.cell 1;have z2:=s1.cell 2;have k0:=s2.cell 0;go_simp⟩) HS.out ?_
    simp only [Act.put,sB,sZ,sS]
    refine hTk (i:=9) (d:=26) (v:= .pointer (some ⟨r,0,none⟩)) rfl rfl (Or.inl ⟨rfl,by rintro W' ⟨s0,s1,s2⟩;have y0:=s0.cell 0;have z0:=s1.cell 0;have z1:=s1.cell 1;have z2:=s1.cell 2;have k0:=s2.cell 0;go_simp⟩) HS.out ?_
    simp only [Act.put,sB,sZ,sS]
    refine hTk (i:=10) (d:=27) (v:= .agg #[O U x.m,O U x.y,O U (x.z:Int)]) rfl rfl (Or.inl ⟨rfl,by rintro W' ⟨s0,s1,s2⟩;have y0:=s0.cell 0;have z0:=s1.cell 0;have z1:=s1.cell 1;have z2:=s1.cell 2;have k0:=s2.cell 0;go_simp⟩) HS.out ?_
    simp only [Act.put,sB,sZ,sS]
    refine wpAnyH_ready (rs:= [11,13]) (by kernel_rfl) (by simp) ?_
    refine AllReadyH.cons rfl (fun K hK=> ?_) (AllReadyH.cons rfl (fun K hK=> ?_) AllReadyH.nil)
    ·rw [if_pos (by rfl)]
     go_simp
     go_at_call 103
     (with_reducible refine (HSL.out _ hbq).mono ?_)
     rintro e w5 ⟨rfl,hbn⟩
     replace hbq:=hbq.trans (hbn.mono hbq.size)
     clear hbn
     have HS:=Z (HSK.out _ hbq)
     refine hK.out _ _ HS.out (fun _=> ?_)
     clear hK K
     try simp only [Act.put,sB,sZ,sS]
     refine wpAnyH_ready (rs:= [12,13]) (by kernel_rfl) (by simp) ?_
     refine AllReadyH.cons rfl (fun K hK=> ?_) (AllReadyH.cons rfl (fun K hK=> ?_) AllReadyH.nil)
     ·rw [if_pos (by rfl)]
      go_simp
      go_at_call 71
      (with_reducible refine (HST.out _ hbq).mono ?_)
      rintro e w6 ⟨rfl,hbn⟩
      replace hbq:=hbq.trans (hbn.mono hbq.size)
      clear hbn
      have HS:=Z (HSK.out _ hbq)
      refine hK.out _ _ HS.out (fun _=> ?_)
      clear hK K
      try simp only [Act.put,sB,sZ,sS]
      refine wpAnyH_ready (rs:= [13]) (by kernel_rfl) (by simp) ?_
      refine AllReadyH.cons rfl (fun K hK=> ?_) AllReadyH.nil
      rw [if_pos (by rfl)]
      go_simp
      have hA:=Rw.new w6 #[O U 0,O U 0,O U 0,O U 0,O U 0,O U 0] 87
      have hsA:W.heap.size≤w6.heap.size:=hbq.size
      replace hbq:=hbq.alloc hbq.size (.cells #[O U 0,O U 0,O U 0,O U 0,O U 0,O U 0] 87)
      obtain⟨wa,hwa⟩:∃z,w6.alloc (.cells #[O U 0,O U 0,O U 0,O U 0,O U 0,O U 0] 87)=z:=⟨_,rfl⟩
      obtain⟨sb,hsb⟩:∃z,w6.heap.size=z:=⟨_,rfl⟩
      rw [hwa] at hA hbq ⊢
      rw [hsb] at hA hsA ⊢
      clear hwa hsb
      have HS:=Z (HSK.out _ hbq)
      refine hK.out _ _ HS.out (fun _=> ?_)
      clear hK K
      try simp only [Act.put,sB,sZ,sS]
      refine wpAnyH_ready (rs:= [14]) (by kernel_rfl) (by simp) ?_
      refine AllReadyH.cons rfl (fun K hK=> ?_) AllReadyH.nil
      rw [if_pos (by rfl)]
      refine wp_store_row 87 _ _ rfl sb rfl #[O U F.p,O U F.b,O U F.d,O U F.h,O U x.m,O U q] rfl 87 _ hA (by kernel_rfl) rfl (by simp [Value.oneCell']) ?_
      have hrs:=hA.setRow #[O U F.p,O U F.b,O U F.d,O U F.h,O U x.m,O U q]
      have hbs:=below_setRow hbq hsA #[O U F.p,O U F.b,O U F.d,O U F.h,O U x.m,O U q]
      have HS:=Z (HSK.out _ hbs)
      refine hK.out _ _ HS.out (fun _=> ?_)
      clear hK K
      try simp only [Act.put,sB,sZ,sS]
      refine wpAnyH_done (by kernel_rfl) ?_ _
      refine NoPanic.normal ?_
      exact⟨rfl,sb,rfl,hsA,hrs,hbs⟩
     ·rw [if_pos (by rfl)]
      go_simp
      have hA:=Rw.new w5 #[O U 0,O U 0,O U 0,O U 0,O U 0,O U 0] 87
      have hsA:W.heap.size≤w5.heap.size:=hbq.size
      replace hbq:=hbq.alloc hbq.size (.cells #[O U 0,O U 0,O U 0,O U 0,O U 0,O U 0] 87)
      obtain⟨wa,hwa⟩:∃z,w5.alloc (.cells #[O U 0,O U 0,O U 0,O U 0,O U 0,O U 0] 87)=z:=⟨_,rfl⟩
      obtain⟨sb,hsb⟩:∃z,w5.heap.size=z:=⟨_,rfl⟩
      rw [hwa] at hA hbq ⊢
      rw [hsb] at hA hsA ⊢
      clear hwa hsb
      have HS:=Z (HSK.out _ hbq)
      refine hK.out _ _ HS.out (fun _=> ?_)
      clear hK K
      try simp only [Act.put,sB,sZ,sS]
      refine wpAnyH_ready (rs:= [12]) (by kernel_rfl) (by simp) ?_
      refine AllReadyH.cons rfl (fun K hK=> ?_) AllReadyH.nil
      rw [if_pos (by rfl)]
      go_simp
      go_at_call 71
      (with_reducible refine (HST.out _ hbq).mono ?_)
      rintro e w6 ⟨rfl,hbn⟩
      replace hA:=hA.below hbn hA.lt
      replace hbq:=hbq.trans (hbn.mono hbq.size)
      clear hbn
      have HS:=Z (HSK.out _ hbq)
      refine hK.out _ _ HS.out (fun _=> ?_)
      clear hK K
      try simp only [Act.put,sB,sZ,sS]
      refine wpAnyH_ready (rs:= [14]) (by kernel_rfl) (by simp) ?_
      refine AllReadyH.cons rfl (fun K hK=> ?_) AllReadyH.nil
      rw [if_pos (by rfl)]
      refine wp_store_row 87 _ _ rfl sb rfl #[O U F.p,O U F.b,O U F.d,O U F.h,O U x.m,O U q] rfl 87 _ hA (by kernel_rfl) rfl (by simp [Value.oneCell']) ?_
      have hrs:=hA.setRow #[O U F.p,O U F.b,O U F.d,O U F.h,O U x.m,O U q]
      have hbs:=below_setRow hbq hsA #[O U F.p,O U F.b,O U F.d,O U F.h,O U x.m,O U q]
      have HS:=Z (HSK.out _ hbs)
      refine hK.out _ _ HS.out (fun _=> ?_)
      clear hK K
      try simp only [Act.put,sB,sZ,sS]
      refine wpAnyH_done (by kernel_rfl) ?_ _
      refine NoPanic.normal ?_
      exact⟨rfl,sb,rfl,hsA,hrs,hbs⟩
    ·rw [if_pos (by rfl)]
     go_simp
     have hA:=Rw.new wd #[O U 0,O U 0,O U 0,O U 0,O U 0,O U 0] 87
     have hsA:W.heap.size≤wd.heap.size:=hbq.size
     replace hbq:=hbq.alloc hbq.size (.cells #[O U 0,O U 0,O U 0,O U 0,O U 0,O U 0] 87)
     obtain⟨wa,hwa⟩:∃z,wd.alloc (.cells #[O U 0,O U 0,O U 0,O U 0,O U 0,O U 0] 87)=z:=⟨_,rfl⟩
     obtain⟨sb,hsb⟩:∃z,wd.heap.size=z:=⟨_,rfl⟩
     rw [hwa] at hA hbq ⊢
     rw [hsb] at hA hsA ⊢
     clear hwa hsb
     have HS:=Z (HSK.out _ hbq)
     refine hK.out _ _ HS.out (fun _=> ?_)
     clear hK K
     try simp only [Act.put,sB,sZ,sS]
     refine wpAnyH_ready (rs:= [11]) (by kernel_rfl) (by simp) ?_
     refine AllReadyH.cons rfl (fun K hK=> ?_) AllReadyH.nil
     rw [if_pos (by rfl)]
     go_simp
     go_at_call 103
     (with_reducible refine (HSL.out _ hbq).mono ?_)
     rintro e w5 ⟨rfl,hbn⟩
     replace hA:=hA.below hbn hA.lt
     replace hbq:=hbq.trans (hbn.mono hbq.size)
     clear hbn
     have HS:=Z (HSK.out _ hbq)
     refine hK.out _ _ HS.out (fun _=> ?_)
     clear hK K
     try simp only [Act.put,sB,sZ,sS]
     refine wpAnyH_ready (rs:= [12]) (by kernel_rfl) (by simp) ?_
     refine AllReadyH.cons rfl (fun K hK=> ?_) AllReadyH.nil
     rw [if_pos (by rfl)]
     go_simp
     go_at_call 71
     (with_reducible refine (HST.out _ hbq).mono ?_)
     rintro e w6 ⟨rfl,hbn⟩
     replace hA:=hA.below hbn hA.lt
     replace hbq:=hbq.trans (hbn.mono hbq.size)
     clear hbn
     have HS:=Z (HSK.out _ hbq)
     refine hK.out _ _ HS.out (fun _=> ?_)
     clear hK K
     try simp only [Act.put,sB,sZ,sS]
     refine wpAnyH_ready (rs:= [14]) (by kernel_rfl) (by simp) ?_
     refine AllReadyH.cons rfl (fun K hK=> ?_) AllReadyH.nil
     rw [if_pos (by rfl)]
     refine wp_store_row 87 _ _ rfl sb rfl #[O U F.p,O U F.b,O U F.d,O U F.h,O U x.m,O U q] rfl 87 _ hA (by kernel_rfl) rfl (by simp [Value.oneCell']) ?_
     have hrs:=hA.setRow #[O U F.p,O U F.b,O U F.d,O U F.h,O U x.m,O U q]
     have hbs:=below_setRow hbq hsA #[O U F.p,O U F.b,O U F.d,O U F.h,O U x.m,O U q]
     have HS:=Z (HSK.out _ hbs)
     refine hK.out _ _ HS.out (fun _=> ?_)
     clear hK K
     try simp only [Act.put,sB,sZ,sS]
     refine wpAnyH_done (by kernel_rfl) ?_ _
     refine NoPanic.normal ?_
     exact⟨rfl,sb,rfl,hsA,hrs,hbs⟩
   case rest=>
    obtain⟨rfl,sb,ha',hsb,hrs,hb5⟩:=h
    obtain⟨u5,rfl⟩:∃u5,a'={tmps:=FCb r B sb x s tr i u5,defers:=ds}:=⟨_,ha'⟩
    clear ha'
    simp only [FCb]
    obtain⟨w5,hw5⟩:∃z,w'=z:=⟨_,rfl⟩
    rw [hw5] at hrs hb5 ⊢
    clear hw5
    have HB5:=Z hb5
    have HSB:=Z hsb
    have HR5:=Z (show ∀wx,Below w5.heap.size w5 wx→Rw wx sb 87 #[O U F.p,O U F.b,O U F.d,O U F.h,O U x.m,O U q]∧Rw wx B 98 #[.pointer (some ⟨r,0,none⟩)]∧Rw wx (B+1) 102 #[O U x.m,O U x.y,O U (x.z:Int)]∧Rw wx (B+2) 3 #[O U s]∧Rw wx (B+3) 87 #[O U 0,O U 0,O U 0,O U 0,O U 0,O U 0]∧Rw wx (B+4) 102 #[O U 0,O U 0,O U 0]∧Rw wx (B+5) 4 #[.bool false]∧RunAt wx r k t a_ A n c Az nz cz zs from fun wx h=>by
     obtain⟨q1,q2,q3,q4,q5,q6,q7⟩:=HRO.out wx (hb5.trans (h.mono hb5.size))
     exact⟨hrs.below h hrs.lt,q1,q2,q3,q4,q5,q6,q7⟩)
    have hsbl:=hrs.lt
    have HSBL:=Z hsbl
    have HMV:=Z (show ∀wx,Below w5.heap.size w5 wx→q≤25000 * t.mass→Calls Tryz.prog 87 #[.pointer (some ⟨r,0,none⟩),.agg #[O U x.m,O U x.y,O U (x.z:Int)],O U q] wx fun e w'=>e= .returned (.agg #[O U q,O U (x.y+q),O U ((zadv zs (10 * t.mass) (x.y+q) zs.length x.z:Nat):Int)])∧Below wx.heap.size wx w' from fun wx h hqq=>
     moved_any wx r k t a_ A n c Az nz cz zs x.m x.y q x.z (HR5.out wx h).2.2.2.2.2.2.2 ht hx.z (by have:=hz.ln;have:=(HR5.out wx h).2.2.2.2.2.2.2.zl;omega) hx.y0 (by omega) HQB.out.1 (by have:=HQB.out.2;omega) hz.fr)
    have HLE:=Z (show ∀tr':Int,chZ t a_ zs s x (9 - (i+1)) tr'=R→∀W',Below (B+6) W W'→Mks (B+6) ds W'→chZ t a_ zs s x (9 - (i+1)) tr'=R∧Mks (B+6) ds W'∧Below (B+6) W1 W' from fun tr' h W' hb hm=>⟨h,hm,HW.out.trans hb⟩)
    have hwi:IntKind.i64.wrap ((i:Int)+1)=((i+1:Nat):Int):=by rw [IntKind.wrap_i64];omega
    have hbq:Below w5.heap.size w5 w5.drew:=(Below.refl _ _).drew
    have HSK:=Z (show ∀wx,Below w5.heap.size w5 wx→Rw wx B 98 #[.pointer (some ⟨r,0,none⟩)]∧Rw wx r 147 #[.pointer (some ⟨k,0,none⟩),O U (10 * t.mass),.slice Az nz cz]∧Rw wx sb 87 #[O U F.p,O U F.b,O U F.d,O U F.h,O U x.m,O U q] from fun wx h=>⟨(HR5.out wx h).2.1,(HR5.out wx h).2.2.2.2.2.2.2.r,(HR5.out wx h).1⟩)
    have HPO:=Z (show ∀wx,Below w5.heap.size w5 wx→Calls Tryz.prog 72 #[.pointer (some ⟨k,0,none⟩),O U q] wx fun e w'=>e= .returned (.bool (decide (q≤25000 * t.mass)))∧wx=w' from fun wx h=>possible_any A c n k t a_ q wx (HR5.out wx h).2.2.2.2.2.2.2.e ht)
    clear hrs hb5 hsb hwd
    by_cases hqt:q=tr
    ·have hqe:(q == tr)=true:=by rw [hqt];exact beq_self_eq_true _
     have hchn:chZ t a_ zs s x (9 - (i+1)) tr=R:=by
      rw [←HCH.out,show 9 - i=n'+1 from by have:=HNI.out;omega,chZ_skip (.inl (by rw [HQ.out];exact hqt)),show 9 - (i+1)=n' from by have:=HNI.out;omega]
     have HCN:=Z hchn
     clear hqt hchn hsbl
     gi_wp2
     refine wpIn_wide.2 ?_
     have HS:=Z (HSK.out _ hbq)
     refine wp_region_noPanic ?_
     refine wp_region_held_drew (S:=fun wx=>Rw wx B 98 #[.pointer (some ⟨r,0,none⟩)]∧Rw wx r 147 #[.pointer (some ⟨k,0,none⟩),O U (10 * t.mass),.slice Az nz cz]∧Rw wx sb 87 #[O U F.p,O U F.b,O U F.d,O U F.h,O U x.m,O U q]) (by kernel_rfl) HS.out (fun _=> ?_)
     refine hTk (i:=0) (d:=30) (v:= .pointer (some ⟨sb,5,none⟩)) rfl rfl (Or.inl ⟨rfl,by rintro W' ⟨s0,s1,s2⟩;have y0:=s0.cell 0;have z0:=s1.cell 0;have k5:=s2.cell 5;go_simp⟩) HS.out ?_
     simp only [Act.put,sB,sZ,sS]
     refine hTk (i:=1) (d:=31) (v:=O U q) rfl rfl (Or.inl ⟨rfl,by rintro W' ⟨s0,s1,s2⟩;have y0:=s0.cell 0;have z0:=s1.cell 0;have k5:=s2.cell 5;go_simp⟩) HS.out ?_
     simp only [Act.put,sB,sZ,sS]
     refine hTk (i:=2) (d:=32) (v:=O U tr) rfl rfl (Or.inl ⟨rfl,by rintro W' ⟨s0,s1,s2⟩;have y0:=s0.cell 0;have z0:=s1.cell 0;have k5:=s2.cell 5;go_simp⟩) HS.out ?_
     simp only [Act.put,sB,sZ,sS]
     refine hTk (i:=3) (d:=33) (v:= .bool true) rfl rfl (Or.inl ⟨rfl,by rintro W' ⟨s0,s1,s2⟩;have y0:=s0.cell 0;have z0:=s1.cell 0;have k5:=s2.cell 5;go_simp⟩) HS.out ?_
     simp only [Act.put,sB,sZ,sS]
     refine hTk (i:=4) (d:=34) (v:= .bool true) rfl rfl (Or.inl ⟨rfl,by rintro W' ⟨s0,s1,s2⟩;have y0:=s0.cell 0;have z0:=s1.cell 0;have k5:=s2.cell 5;go_simp⟩) HS.out ?_
     simp only [Act.put,sB,sZ,sS]
     refine hTk (i:=5) (d:=35) (v:=undef) rfl rfl (Or.inr ⟨rfl,rfl⟩) HS.out ?_
     simp only [Act.put,sB,sZ,sS]
     refine hTk (i:=6) (d:=36) (v:=undef) rfl rfl (Or.inr ⟨rfl,rfl⟩) HS.out ?_
     simp only [Act.put,sB,sZ,sS]
     refine hTk (i:=7) (d:=37) (v:=undef) rfl rfl (Or.inr ⟨rfl,rfl⟩) HS.out ?_
     simp only [Act.put,sB,sZ,sS]
     refine hTk (i:=8) (d:=38) (v:=undef) rfl rfl (Or.inr ⟨rfl,rfl⟩) HS.out ?_
     simp only [Act.put,sB,sZ,sS]
     refine hTk (i:=9) (d:=39) (v:=undef) rfl rfl (Or.inr ⟨rfl,rfl⟩) HS.out ?_
     simp only [Act.put,sB,sZ,sS]
     refine hTk (i:=10) (d:=40) (v:=undef) rfl rfl (Or.inr ⟨rfl,rfl⟩) HS.out ?_
     simp only [Act.put,sB,sZ,sS]
     refine hTk (i:=11) (d:=41) (v:=undef) rfl rfl (Or.inr ⟨rfl,rfl⟩) HS.out ?_
     simp only [Act.put,sB,sZ,sS]
     refine hTk (i:=12) (d:=42) (v:=undef) rfl rfl (Or.inr ⟨rfl,rfl⟩) HS.out ?_
     simp only [Act.put,sB,sZ,sS]
     refine hTk (i:=13) (d:=43) (v:= .bool true) rfl rfl (Or.inl ⟨rfl,by rintro W' ⟨s0,s1,s2⟩;have y0:=s0.cell 0;have z0:=s1.cell 0;have k5:=s2.cell 5;go_simp⟩) HS.out ?_
     simp only [Act.put,sB,sZ,sS]
     refine wpAnyH_done (by kernel_rfl) ?_ _
     refine NoPanic.normal ?_
     have HBQ:=Z hbq
     clear hbq HS
     gi_wp2
     have hb56:Below (B+6) W w5.drew:=(HB5.out.mono HBW.out).trans (HBQ.out.mono (by have:=HB5.out.size;have:=HBW.out;omega))
     refine⟨⟨ds,i+1,tr,rfl,by omega,HLE.out tr HCN.out _ hb56 (HM.out.below (HB5.out.trans (HBQ.out.mono HB5.out.size)))⟩, ?_⟩
     show 9 - (((i+1:Nat):Int)).toNat<9 - ((i:Int)).toNat
     omega
    ·have hqe:(q == tr)=false:=by rw [beq_eq_false_iff_ne];exact hqt
     by_cases hqp:q≤25000 * t.mass
     ·have hpd:decide (q≤25000 * t.mass)=true:=decide_eq_true hqp
      have hnn:¬(chQ t a_ zs x n'=tr∨¬chQ t a_ zs x n'≤25000 * t.mass):=by
       rw [HQ.out]
       rintro (h|h)
       ·exact hqt h
       ·exact h hqp
      have HNN:=Z hnn;have HQP:=Z hqp
      clear hqt hnn hqp hsbl
      gi_wp2
      refine wpIn_wide.2 ?_
      have HS:=Z (HSK.out _ hbq)
      refine wp_region_noPanic ?_
      refine wp_region_held_drew (S:=fun wx=>Rw wx B 98 #[.pointer (some ⟨r,0,none⟩)]∧Rw wx r 147 #[.pointer (some ⟨k,0,none⟩),O U (10 * t.mass),.slice Az nz cz]∧Rw wx sb 87 #[O U F.p,O U F.b,O U F.d,O U F.h,O U x.m,O U q]) (by kernel_rfl) HS.out (fun _=> ?_)
      refine hTk (i:=0) (d:=30) (v:= .pointer (some ⟨sb,5,none⟩)) rfl rfl (Or.inl ⟨rfl,by rintro W' ⟨s0,s1,s2⟩;have y0:=s0.cell 0;have z0:=s1.cell 0;have k5:=s2.cell 5;go_simp⟩) HS.out ?_
      simp only [Act.put,sB,sZ,sS]
      refine hTk (i:=1) (d:=31) (v:=O U q) rfl rfl (Or.inl ⟨rfl,by rintro W' ⟨s0,s1,s2⟩;have y0:=s0.cell 0;have z0:=s1.cell 0;have k5:=s2.cell 5;go_simp⟩) HS.out ?_
      simp only [Act.put,sB,sZ,sS]
      refine hTk (i:=2) (d:=32) (v:=O U tr) rfl rfl (Or.inl ⟨rfl,by rintro W' ⟨s0,s1,s2⟩;have y0:=s0.cell 0;have z0:=s1.cell 0;have k5:=s2.cell 5;go_simp⟩) HS.out ?_
      simp only [Act.put,sB,sZ,sS]
      refine hTk (i:=3) (d:=33) (v:= .bool false) rfl rfl (Or.inl ⟨rfl,by rintro W' ⟨s0,s1,s2⟩;have y0:=s0.cell 0;have z0:=s1.cell 0;have k5:=s2.cell 5;go_simp⟩) HS.out ?_
      simp only [Act.put,sB,sZ,sS]
      refine hTk (i:=4) (d:=34) (v:= .bool false) rfl rfl (Or.inl ⟨rfl,by rintro W' ⟨s0,s1,s2⟩;have y0:=s0.cell 0;have z0:=s1.cell 0;have k5:=s2.cell 5;go_simp⟩) HS.out ?_
      simp only [Act.put,sB,sZ,sS]
      refine hTk (i:=5) (d:=35) (v:= .pointer (some ⟨r,0,none⟩)) rfl rfl (Or.inl ⟨rfl,by rintro W' ⟨s0,s1,s2⟩;have y0:=s0.cell 0;have z0:=s1.cell 0;have k5:=s2.cell 5;go_simp⟩) HS.out ?_
      simp only [Act.put,sB,sZ,sS]
      refine hTk (i:=6) (d:=36) (v:= .pointer (some ⟨r,0,none⟩)) rfl rfl (Or.inl ⟨rfl,by rintro W' ⟨s0,s1,s2⟩;have y0:=s0.cell 0;have z0:=s1.cell 0;have k5:=s2.cell 5;go_simp⟩) HS.out ?_
      simp only [Act.put,sB,sZ,sS]
      refine hTk (i:=7) (d:=37) (v:= .pointer (some ⟨r,0,none⟩)) rfl rfl (Or.inl ⟨rfl,by rintro W' ⟨s0,s1,s2⟩;have y0:=s0.cell 0;have z0:=s1.cell 0;have k5:=s2.cell 5;go_simp⟩) HS.out ?_
      simp only [Act.put,sB,sZ,sS]
      refine hTk (i:=8) (d:=38) (v:= .pointer (some ⟨k,0,none⟩)) rfl rfl (Or.inl ⟨rfl,by rintro W' ⟨s0,s1,s2⟩;have y0:=s0.cell 0;have z0:=s1.cell 0;have k5:=s2.cell 5;go_simp⟩) HS.out ?_
      simp only [Act.put,sB,sZ,sS]
      refine hTk (i:=9) (d:=39) (v:= .pointer (some ⟨sb,5,none⟩)) rfl rfl (Or.inl ⟨rfl,by rintro W' ⟨s0,s1,s2⟩;have y0:=s0.cell 0;have z0:=s1.cell 0;have k5:=s2.cell 5;go_simp⟩) HS.out ?_
      simp only [Act.put,sB,sZ,sS]
      refine hTk (i:=10) (d:=40) (v:=O U q) rfl rfl (Or.inl ⟨rfl,by rintro W' ⟨s0,s1,s2⟩;have y0:=s0.cell 0;have z0:=s1.cell 0;have k5:=s2.cell 5;go_simp⟩) HS.out ?_
      simp only [Act.put,sB,sZ,sS]
      refine wpAnyH_ready (rs:= [11]) (by kernel_rfl) (by simp) ?_
      refine AllReadyH.cons rfl (fun K hK=> ?_) AllReadyH.nil
      rw [if_pos (by rfl)]
      go_simp
      go_at_call 72
      (with_reducible refine (HPO.out _ hbq).mono ?_)
      rintro e w6 ⟨rfl,rfl⟩
      rw [hpd]
      refine hK.out _ _ HS.out (fun _=> ?_)
      clear hK K
      try simp only [Act.put,sB,sZ,sS]
      refine hTk (i:=12) (d:=42) (v:= .bool false) rfl rfl (Or.inl ⟨rfl,by rintro W' ⟨s0,s1,s2⟩;have y0:=s0.cell 0;have z0:=s1.cell 0;have k5:=s2.cell 5;go_simp⟩) HS.out ?_
      simp only [Act.put,sB,sZ,sS]
      refine hTk (i:=13) (d:=43) (v:= .bool false) rfl rfl (Or.inl ⟨rfl,by rintro W' ⟨s0,s1,s2⟩;have y0:=s0.cell 0;have z0:=s1.cell 0;have k5:=s2.cell 5;go_simp⟩) HS.out ?_
      simp only [Act.put,sB,sZ,sS]
      refine wpAnyH_done (by kernel_rfl) ?_ _
      refine NoPanic.normal ?_
      have HBQ:=Z hbq
      clear HS
      have p5:=(HR5.out _ hbq)
      have c5:=p5.1.cell 5
      have b0:=p5.2.1.cell 0
      have x0:=p5.2.2.1.cell 0;have x1:=p5.2.2.1.cell 1;have x2:=p5.2.2.1.cell 2
      clear hbq p5
      gi_wp2
      refine⟨trivial,CallsIn.mono (callsIn_wide.2 (HMV.out _ HBQ.out HQP.out)) ?_⟩
      rintro e w7 ⟨rfl,hb7⟩
      obtain⟨zv,hzv⟩:∃z,zadv zs (10 * t.mass) (x.y+q) zs.length x.z=z:=⟨_,rfl⟩
      rw [hzv]
      have hmv:movP t zs x q=⟨q,x.y+q,zv⟩:=by unfold movP;rw [hzv]
      have hyo:=movP_ok hx HQB.out.1 HQP.out (by have:=HQB.out.2;omega)
      rw [hmv] at hyo
      have HMVE:=Z hmv;have HYO:=Z hyo
      have hb57:Below w5.heap.size w5 w7:=HBQ.out.trans (hb7.mono HBQ.out.size)
      have hn8:=Rw.new w7 #[O U q,O U (x.y+q),O U (zv:Int)] 102
      have hb8:=hb57.alloc hb57.size (.cells #[O U q,O U (x.y+q),O U (zv:Int)] 102)
      have b0:=(HR5.out _ hb8).2.1.cell 0
      have n0:=hn8.cell 0;have n1:=hn8.cell 1;have n2:=hn8.cell 2
      have hz8:(w7.alloc (.cells #[O U q,O U (x.y+q),O U (zv:Int)] 102)).heap.size=w7.heap.size+1:=by simp
      have HN8:=Z hn8;have HB8:=Z hb8;have HZ8:=Z hz8
      have HB57:=Z hb57
      clear c5 x0 x1 x2 hb7 hzv hmv hyo hn8 hb8 hz8 hb57
      gi_wp2
      have hn8:=HN8.out;have hb8:=HB8.out;have hz8:=HZ8.out
      obtain⟨W8,hW8⟩:∃z,w7.alloc (.cells #[O U q,O U (x.y+q),O U (zv:Int)] 102)=z:=⟨_,rfl⟩
      obtain⟨nb,hnb⟩:∃z,w7.heap.size=z:=⟨_,rfl⟩
      rw [hW8] at hn8 hb8 hz8 b0 n0 n1 n2 ⊢
      rw [hnb] at hn8 hz8 n0 n1 n2 ⊢
      have hst:Calls Tryz.prog 78 #[.pointer (some ⟨r,0,none⟩),.agg #[O U q,O U (x.y+q),O U (zv:Int)]] W8 (fun e w'=>e= .returned (.func (.func 102) #[] #[.pointer (some ⟨W8.heap.size,0,none⟩),.pointer (some ⟨W8.heap.size+1,0,none⟩)])∧(W8.alloc (.cells #[.pointer (some ⟨r,0,none⟩)] 98)).alloc (.cells (fPt ⟨q,x.y+q,zv⟩).toArray 102)=w'):=stopping_any r ⟨q,x.y+q,zv⟩ W8
      have hnbw:w5.heap.size≤nb:=by rw [←hnb];exact HB57.out.size
      have HNBW:=Z hnbw
      clear HN8 HB8 HZ8 hW8 hnb HMV HPO
      refine⟨trivial,CallsIn.mono (callsIn_wide.2 hst) ?_⟩
      rintro e w3 ⟨rfl,hw3⟩
      have p8:=HR5.out _ hb8
      have hlt:=HLT.out
      have hBW:=HBW.out
      have hw5:=HB5.out.size
      have hS3:=StopAt.made (L:=B+5) ⟨q,x.y+q,zv⟩ p8.2.2.2.2.2.2.2 (fun ad e=>by have:=HAZ.out ad e;omega) (by omega) (by omega) (by omega) (fun ad e=>by have:=HAZ.out ad e;omega)
      have hb3:=((Below.refl W8.heap.size W8).alloc (Nat.le_refl _) (.cells #[.pointer (some ⟨r,0,none⟩)] 98)).alloc (by simp) (.cells (fPt ⟨q,x.y+q,zv⟩).toArray 102)
      have hz3:((W8.alloc (.cells #[.pointer (some ⟨r,0,none⟩)] 98)).alloc (.cells (fPt ⟨q,x.y+q,zv⟩).toArray 102)).heap.size=nb+3:=by simp [hz8]
      rw [hw3] at hS3 hb3 hz3
      clear hw3 hst
      have hb53:=hb8.trans (hb3.mono hb8.size)
      have hn3:=hn8.below hb3 (by omega)
      have hseq:=stopping_seq 7 (by omega) (B+5) W8.heap.size (W8.heap.size+1) r k t a_ A n c Az nz cz zs ⟨q,x.y+q,zv⟩ w3 hS3 ht ha hz HYO.out (by have:=HQB.out.2;show x.y+q≤_;omega) (by omega)
      have HSTP:=Z hseq;have HZW:=Z (And.intro hz3 hz8);have HN3:=Z hn3;have HB53:=Z hb53
      have HR3:=Z (HR5.out _ hb53)
      have HFF:=Z (show ∀(W':World) (d:Nat),Below (B+6) w3 W'→(∀D:Nat,D<W.heap.size→w3.heap[D]? = some (.deferred (some []))→W'.heap[D]? = some (.deferred (some [])))→d=w3.heap.size→W'.heap[d]? = some (.deferred (some []))→Mks (B+6) ({target:= .collected d,args:=#[]} :: ds) W'∧Below (B+6) W1 W' from fun W' d hbx hkp hd hdef=>by
       have hWw:Below (B+6) W w3:=(HB5.out.mono hBW).trans (hb53.mono (by omega))
       have hkk:∀D:Nat,W.heap[D]? = some (.deferred (some []))→w3.heap[D]? = some (.deferred (some [])):=fun D hD=>by
        have hl:=(Array.getElem?_eq_some_iff.1 hD).1
        exact (hb53.block D (by omega)).trans ((HB5.out.block D hl).trans hD)
       exact⟨HM.out.more (fun D hD=>hkp D (Array.getElem?_eq_some_iff.1 hD).1 (hkk D hD)) (by omega) (by omega) hdef,HW.out.trans (hWw.trans hbx)⟩)
      clear hseq hS3 hb3 hz3 hn3 hb53 hn8 hb8 hz8 b0 n0 n1 n2 p8 hnbw hlt hBW hw5
      gi_wp2
      have hz3:=HZW.out.1;have hz8:=HZW.out.2;have hlt:=HLT.out;have hBW:=HBW.out;have hw5:=HB5.out.size;have hnbw:=HNBW.out
      refine wpIn_rangeX (α:={x:Pt // PtOk t zs x}) (w0:=w3) (Kp:=KF (· = B+5)) (b2:=W8.heap.size+1) (S:=fun xs=>xs.map (·.1)=ptsL t a_ zs 36000 ⟨q,x.y+q,zv⟩) (Sp:=fun pre=>pre≠ []∧∃s,pre.map (·.1) ++ s=ptsL t a_ zs 36000 ⟨q,x.y+q,zv⟩) (N:=36001) (gf:=102) (lb:=#[.pointer (some ⟨W8.heap.size,0,none⟩),.pointer (some ⟨W8.heap.size+1,0,none⟩)]) rfl (by omega) rfl trivial (enters_of Tryz.func102 (by kernel_rfl) rfl) HSTP.out (fun h k=>KF.trans h k) KF.put (Below.refl _ _) (by omega) (fun _=>rfl)
       (fun pre W=>ChI W8.heap.size (B+5) w3 t zs s (vals pre) W) (fun c pre W=>ChE W8.heap.size (B+3) w3 t zs s #[O U F.p,O U F.b,O U F.d,O U F.h,O U x.m,O U q] #[O U q,O U (x.y+q),O U (zv:Int)] c (vals pre) W) (ChI.own (by omega) (by omega)) (fun c=>ChE.own (by omega) (by omega) c) (fun s' _ _ h hg=>ChI.gi (l:=vals s') h (by omega) (by omega) hg (by omega) (by omega)) (fun c s' _ _ h hg=>ChE.gi (l:=vals s') h (by omega) (by omega) hg (by omega) (by omega)) ⟨BX.refl _ _ _,HR3.out.2.2.2.2.2.2.1,by simp [vals]⟩
       (fun p W=>ChB W8.heap.size (B+5) w3 t zs s (vals p.1) p.2.1.1 (fun yb=>p.2.2={tmps:=FCd r B sb nb yb x s q i (fun i=>p.2.2.tmps.getD i undef),defers:= []}) W) (ChB.own (β:=List {x:Pt // PtOk t zs x} × {x:Pt // PtOk t zs x} × Act) (f:=fun p=>vals p.1) (g:=fun p=>p.2.1.1) (by omega) (by omega)) ?assign ?body ?done ?stop
      case assign=>
       intro l pre X W' K hI hlen hK
       obtain⟨y,hy⟩:∃y,X.1=y:=⟨_,rfl⟩
       have hba:=(Below.refl W'.heap.size W').alloc (Nat.le_refl _) (.cells (fPt y).toArray 102)
       have hnw:=Rw.new W' (fPt y).toArray 102
       have HI:=Z hI;have HK:=Z hK;have HBA:=Z hba;have HNW:=Z hnw
       clear hI hK hba hnw hz3 hz8 hlt hBW hw5 hnbw
       rw [hy]
       gi_wp2
       have hz3:=HZW.out.1;have hz8:=HZW.out.2
       exact HK.out _ _ (KeepsOthers.alloc _ _) (KF.of_below HBA.out) ⟨HI.out.below HBA.out (by omega),W'.heap.size,by rw [hy];exact HNW.out,rfl⟩
      case body=>
       rintro l pre X a1 W' hb hlen
       obtain⟨hci,yb,hyb,ha⟩:=hb
       replace ha:a1={tmps:=FCd r B sb nb yb x s q i (fun i=>a1.tmps.getD i undef),defers:= []}:=ha
       replace hci:ChI W8.heap.size (B+5) w3 t zs s (vals pre) W':=hci
       obtain⟨u2,rfl⟩:∃u2,a1={tmps:=FCd r B sb nb yb x s q i u2,defers:= []}:=⟨_,ha⟩
       clear ha
       obtain⟨y,hy⟩:∃y,X.1=y:=⟨_,rfl⟩
       have hyo:=X.2
       replace hyb:Rw W' yb 102 (fPt X.1).toArray:=hyb
       rw [hy] at hyb hyo
       have hsb2:=HSB.out;have hsbl2:=HSBL.out
       have hbx:=hci.bx
       have HRW:=Z (show ∀wx,Below W'.heap.size W' wx→Rw wx B 98 #[.pointer (some ⟨r,0,none⟩)]∧Rw wx (B+2) 3 #[O U s]∧Rw wx yb 102 #[O U y.m,O U y.y,O U (y.z:Int)]∧Rw wx sb 87 #[O U F.p,O U F.b,O U F.d,O U F.h,O U x.m,O U q]∧Rw wx nb 102 #[O U q,O U (x.y+q),O U (zv:Int)]∧Rw wx (B+3) 87 #[O U 0,O U 0,O U 0,O U 0,O U 0,O U 0]∧Rw wx (B+4) 102 #[O U 0,O U 0,O U 0]∧Rw wx (B+5) 4 #[.bool false]∧RunAt wx r k t a_ A n c Az nz cz zs from fun wx h=>by
        obtain⟨p1,p2,p3,p4,p5,p6,p7,p8⟩:=HR3.out
        have g1:=hbx.row p2 (by omega) (by omega)
        have g2:=hbx.row p4 (by omega) (by omega)
        have g3:=hbx.row p1 (by omega) (by omega)
        have g4:=hbx.row HN3.out (by omega) (by omega)
        have g5:=hbx.row p5 (by omega) (by omega)
        have g6:=hbx.row p6 (by omega) (by omega)
        have g7:=hbx.run p8 ⟨by omega,by omega⟩ ⟨by omega,by omega⟩ (fun ad e=>by have:=HAZ.out ad e;omega)
        exact⟨g1.below h g1.lt,g2.below h g2.lt,hyb.below h hyb.lt,g3.below h g3.lt,g4.below h g4.lt,g5.below h g5.lt,g6.below h g6.lt,hci.rl.below h hci.rl.lt,g7.below h⟩)
       obtain⟨gy,hgy⟩:∃g,zs[y.z]'hyo.z=g:=⟨_,rfl⟩
       have hgy? : zs[y.z]? = some gy:=by rw [List.getElem?_eq_getElem hyo.z,hgy]
       have hly:=hz.lm gy (List.mem_of_getElem? hgy?)
       have hfe:fstB t zs y=decide ((gy.lim+1) * t.mass≤y.m):=by unfold fstB zlim;rw [hgy?]
       have HBY:=Z (show ∀wx,Below W'.heap.size W' wx→Calls Tryz.prog 80 #[.pointer (some ⟨r,0,none⟩),.agg #[O U y.m,O U y.y,O U (y.z:Int)],O U s] wx fun e w'=>e= .returned (.bool (byd t s y))∧Below wx.heap.size wx w' from fun wx h=>beyond_any wx r k t a_ A n c Az nz cz zs y.m y.y (y.z:Int) s (HRW.out wx h).2.2.2.2.2.2.2.2 ht (by omega) (by omega))
       have HFS:=Z (show ∀wx,Below W'.heap.size W' wx→Calls Tryz.prog 136 #[.pointer (some ⟨r,0,none⟩),.agg #[O U y.m,O U y.y,O U (y.z:Int)]] wx fun e w'=>e= .returned (.bool (fstB t zs y))∧Below wx.heap.size wx w' from fun wx h=>by
        have:=fast_any wx r k t a_ A n c Az nz cz zs y.m y.y (y.z:Int) (HRW.out wx h).2.2.2.2.2.2.2.2 ht y.z gy rfl hyo.z hgy (by have:=hz.ln;have:=(HRW.out wx h).2.2.2.2.2.2.2.2.zl;omega) hly.1 hly.2
        rwa [←hfe] at this)
       obtain⟨p1,p2,p3,p4,p5,p6,p7,p8,p9⟩:=HRW.out _ (Below.refl _ _)
       have g0:=p1.cell 0;have h0:=p2.cell 0;have c0:=p3.cell 0;have c1:=p3.cell 1;have c2:=p3.cell 2
       have HCI:=Z hci;have HYE:=Z hy
       clear hci hyb hy hyo hbx hgy hgy? hly hfe p1 p2 p3 p4 p5 p6 p7 p8 p9 hz3 hz8 hlt hBW hw5 hnbw hsb2 hsbl2
       simp only [FCd]
       gi_wp2
       refine⟨trivial,CallsIn.mono (CallsIn.inRound l (callsIn_wide.2 (HBY.out _ (Below.refl _ _)))) ?_⟩
       rintro e w8 ⟨rfl,hb8⟩
       have HB8:=Z hb8
       have HC8:=Z (HCI.out.below hb8 (by have:=HZW.out;omega))
       obtain⟨p1,p2,p3,p4,p5,p6,p7,p8,p9⟩:=HRW.out _ hb8
       clear g0 h0 c0 c1 c2
       have g0:=p1.cell 0;have h0:=p2.cell 0;have c0:=p3.cell 0;have c1:=p3.cell 1;have c2:=p3.cell 2
       clear hb8 p1 p2 p3 p4 p5 p6 p7 p8 p9
       cases hq1:byd t s y with
       | true=>
        have HQ1:=Z hq1
        clear hq1
        gi_wp2
        refine⟨trivial, ?_⟩
        gi_wp2
        exact⟨keeps_below HB8.out (Nat.le_refl _),.inl ⟨rfl,HC8.out.bx,HC8.out.rl,vals pre,y,by rw [vals_snoc,HYE.out],HCI.out.ps,by rw [HQ1.out];rfl⟩⟩
       | false=>
        have HQ1:=Z hq1
        clear hq1
        gi_wp2
        refine⟨trivial,CallsIn.mono (CallsIn.inRound l (callsIn_wide.2 (HFS.out _ HB8.out))) ?_⟩
        rintro e w9 ⟨rfl,hb9⟩
        have hb89:=HB8.out.trans (hb9.mono HB8.out.size)
        have HB9:=Z hb89
        have HC9:=Z (HC8.out.below hb9 (by have:=HZW.out;omega))
        obtain⟨p1,p2,p3,p4,p5,p6,p7,p8,p9⟩:=HRW.out _ hb89
        clear g0 h0 c0 c1 c2
        have c0:=p3.cell 0
        have HP9:=Z (And.intro p4 (And.intro p5 (And.intro p6 (And.intro p7 p8))))
        clear hb9 hb89 p1 p2 p3 p4 p5 p6 p7 p8 p9
        cases hq2:fstB t zs y with
        | true=>
         have HQ2:=Z hq2
         clear hq2
         gi_wp2
         exact⟨keeps_below HB9.out (Nat.le_refl _),.inl ⟨rfl,HC9.out.bx,HC9.out.rl,vals pre,y,by rw [vals_snoc,HYE.out],HCI.out.ps,by rw [HQ2.out,Bool.or_true]⟩⟩
        | false=>
         have HQ2:=Z hq2
         clear hq2
         by_cases hm0:y.m=0
         ·have HM0:=Z hm0
          rw [hm0] at c0
          clear hm0
          gi_wp2
          have hBW:=HBW.out;have hsb2:=HSB.out;have hnbw:=HNBW.out;have hw5:=HB5.out.size;have hz8:=HZW.out.2
          refine wpIn_region_S (S:=fun wx=>Rw wx sb 87 #[O U F.p,O U F.b,O U F.d,O U F.h,O U x.m,O U q]∧Rw wx nb 102 #[O U q,O U (x.y+q),O U (zv:Int)]) (by kernel_rfl) ?_
          have HS:=Z (show Rw w9.drew sb 87 #[O U F.p,O U F.b,O U F.d,O U F.h,O U x.m,O U q]∧Rw w9.drew nb 102 #[O U q,O U (x.y+q),O U (zv:Int)] from⟨HP9.out.1,HP9.out.2.1⟩)
          refine wpS_take (i:=0) (v:= .agg #[O U F.p,O U F.b,O U F.d,O U F.h,O U x.m,O U q]) (tame_of (by kernel_rfl)) rfl (by kernel_rfl) (by kernel_rfl) (fun _ _ _ h=>False.elim h) HS.out ⟨rfl, ?gr,fun _=>rfl⟩ ?_
          case gr=>
           rintro W' ⟨s1,s2⟩
           have z0:=s1.cell 0;have z1:=s1.cell 1;have z2:=s1.cell 2;have z3:=s1.cell 3;have z4:=s1.cell 4;have z5:=s1.cell 5
           go_simp
          refine wpS_take (i:=1) (v:= .agg #[O U q,O U (x.y+q),O U (zv:Int)]) (tame_of (by kernel_rfl)) rfl (by kernel_rfl) (by kernel_rfl) (fun _ _ _ h=>False.elim h) HS.out ⟨rfl, ?gr,fun _=>rfl⟩ ?_
          case gr=>
           rintro W' ⟨s1,s2⟩
           have z0:=s2.cell 0;have z1:=s2.cell 1;have z2:=s2.cell 2
           go_simp
          have g3:Rw w9.drew (B+3) 87 #[O U 0,O U 0,O U 0,O U 0,O U 0,O U 0]:=HP9.out.2.2.1
          have g4:Rw w9.drew (B+4) 102 #[O U 0,O U 0,O U 0]:=HP9.out.2.2.2.1
          have g5:Rw w9.drew (B+5) 4 #[.bool false]:=HP9.out.2.2.2.2
          refine wpS_next (i:=2) (by kernel_rfl) ?_
          refine wpOpIn_skip (w':=w9.drew.setRow (B+3) #[O U F.p,O U F.b,O U F.d,O U F.h,O U x.m,O U q]) (tame_of (by kernel_rfl)) rfl rfl rfl (exec_store_row 87 _ _ rfl (B+3) rfl #[O U F.p,O U F.b,O U F.d,O U F.h,O U x.m,O U q] rfl 87 _ g3 (by kernel_rfl) rfl (by simp [Value.oneCell'])) ⟨⟨HS.out.1.setRow_far (k:=B+3) #[O U F.p,O U F.b,O U F.d,O U F.h,O U x.m,O U q] (by omega),HS.out.2.setRow_far (k:=B+3) #[O U F.p,O U F.b,O U F.d,O U F.h,O U x.m,O U q] (by omega)⟩, ?_⟩
          have k3:=g3.setRow #[O U F.p,O U F.b,O U F.d,O U F.h,O U x.m,O U q]
          have k4:=g4.setRow_far (k:=B+3) #[O U F.p,O U F.b,O U F.d,O U F.h,O U x.m,O U q] (by omega)
          have k5:=g5.setRow_far (k:=B+3) #[O U F.p,O U F.b,O U F.d,O U F.h,O U x.m,O U q] (by omega)
          have ko1:=keeps_setRow g3 #[O U F.p,O U F.b,O U F.d,O U F.h,O U x.m,O U q]
          have HS2:=Z (show Rw (w9.drew.setRow (B+3) #[O U F.p,O U F.b,O U F.d,O U F.h,O U x.m,O U q]) sb 87 #[O U F.p,O U F.b,O U F.d,O U F.h,O U x.m,O U q]∧Rw (w9.drew.setRow (B+3) #[O U F.p,O U F.b,O U F.d,O U F.h,O U x.m,O U q]) nb 102 #[O U q,O U (x.y+q),O U (zv:Int)] from⟨HS.out.1.setRow_far (k:=B+3) #[O U F.p,O U F.b,O U F.d,O U F.h,O U x.m,O U q] (by omega),HS.out.2.setRow_far (k:=B+3) #[O U F.p,O U F.b,O U F.d,O U F.h,O U x.m,O U q] (by omega)⟩)
          have hbl1:=below_setRow (Below.refl (B+3) w9.drew) (Nat.le_refl (B+3)) #[O U F.p,O U F.b,O U F.d,O U F.h,O U x.m,O U q]
          have hot1:=fun kk (hk:kk≠B+3)=>setRow_other w9.drew (B+3) kk #[O U F.p,O U F.b,O U F.d,O U F.h,O U x.m,O U q] hk
          obtain⟨wA,hwA⟩:∃z,w9.drew.setRow (B+3) #[O U F.p,O U F.b,O U F.d,O U F.h,O U x.m,O U q]=z:=⟨_,rfl⟩
          rw [hwA] at k3 k4 k5 ko1 HS2 hbl1 hot1 ⊢
          refine wpS_next (i:=3) (by kernel_rfl) ?_
          refine wpOpIn_skip (w':=wA.setRow (B+4) #[O U q,O U (x.y+q),O U (zv:Int)]) (tame_of (by kernel_rfl)) rfl rfl rfl (exec_store_row 102 _ _ rfl (B+4) rfl #[O U q,O U (x.y+q),O U (zv:Int)] rfl 102 _ k4 (by kernel_rfl) rfl (by simp [Value.oneCell'])) ⟨⟨HS2.out.1.setRow_far (k:=B+4) #[O U q,O U (x.y+q),O U (zv:Int)] (by omega),HS2.out.2.setRow_far (k:=B+4) #[O U q,O U (x.y+q),O U (zv:Int)] (by omega)⟩, ?_⟩
          have m3:=k3.setRow_far (k:=B+4) #[O U q,O U (x.y+q),O U (zv:Int)] (by omega)
          have m4:=k4.setRow #[O U q,O U (x.y+q),O U (zv:Int)]
          have m5:=k5.setRow_far (k:=B+4) #[O U q,O U (x.y+q),O U (zv:Int)] (by omega)
          have ko2:=keeps_setRow k4 #[O U q,O U (x.y+q),O U (zv:Int)]
          have HS4:=Z (show Rw (wA.setRow (B+4) #[O U q,O U (x.y+q),O U (zv:Int)]) sb 87 #[O U F.p,O U F.b,O U F.d,O U F.h,O U x.m,O U q]∧Rw (wA.setRow (B+4) #[O U q,O U (x.y+q),O U (zv:Int)]) nb 102 #[O U q,O U (x.y+q),O U (zv:Int)] from⟨HS2.out.1.setRow_far (k:=B+4) #[O U q,O U (x.y+q),O U (zv:Int)] (by omega),HS2.out.2.setRow_far (k:=B+4) #[O U q,O U (x.y+q),O U (zv:Int)] (by omega)⟩)
          have hbl2:=below_setRow (Below.refl (B+3) wA) (show B+3≤B+4 by omega) #[O U q,O U (x.y+q),O U (zv:Int)]
          have hot2:=fun kk (hk:kk≠B+4)=>setRow_other wA (B+4) kk #[O U q,O U (x.y+q),O U (zv:Int)] hk
          obtain⟨wB,hwB⟩:∃z,wA.setRow (B+4) #[O U q,O U (x.y+q),O U (zv:Int)]=z:=⟨_,rfl⟩
          rw [hwB] at m3 m4 m5 ko2 HS4 hbl2 hot2 ⊢
          refine wpS_next (i:=4) (by kernel_rfl) ?_
          have d0:=m5.cell 0;have e0:=m5.frozen 0
          refine wpOpIn_skip (w':=wB.setCell ⟨B+5,0,none⟩ (.bool true)) (tame_of (by kernel_rfl)) rfl rfl rfl (by go_simp) ⟨⟨HS4.out.1.far (k:=B+5) 0 _ (by omega),HS4.out.2.far (k:=B+5) 0 _ (by omega)⟩, ?_⟩
          refine wpS_done (by kernel_rfl) ?_
          have n3:=m3.far (k:=B+5) 0 (.bool true) (by omega)
          have n4:=m4.far (k:=B+5) 0 (.bool true) (by omega)
          have n5:=m5.set 0 (.bool true)
          have hbl3:=(Below.refl (B+3) wB).setCell (p:=⟨B+5,0,none⟩) (by show B+3≤B+5;omega) (.bool true)
          have ko3:=KeepsOthers.setCell wB ⟨B+5,0,none⟩ (.bool true)
          have hot3:=fun kk (hk:kk≠B+5)=>Below.heap_setCell wB ⟨B+5,0,none⟩ (.bool true) kk hk
          obtain⟨wC,hwC⟩:∃z,wB.setCell ⟨B+5,0,none⟩ (.bool true)=z:=⟨_,rfl⟩
          rw [hwC] at n3 n4 n5 hbl3 ko3 hot3 ⊢
          have HKO:=Z ((((keeps_below HB9.out (Nat.le_refl _)).trans (KeepsOthers.drew _)).trans ko1).trans (ko2.trans ko3))
          have HBT:=Z (show BT W8.heap.size (fun kk=>B+3≤kk∧kk≤B+3+2) w3 wC from by
           have hx:=HC9.out.bx
           have hs9:w9.heap.size≤wC.heap.size:=Nat.le_trans (Nat.le_trans hbl1.size hbl2.size) hbl3.size
           refine⟨?_, ?_, ?_,Nat.le_trans hx.size hs9,fun kk hk hn=> ?_⟩
           ·rw [hbl3.os,hbl2.os,hbl1.os];exact hx.os
           ·rw [hbl3.tape,hbl2.tape,hbl1.tape];exact hx.tape
           ·rw [hbl3.output,hbl2.output,hbl1.output];exact hx.output
           ·exact (hot3 kk (by omega)).trans ((hot2 kk (by omega)).trans ((hot1 kk (by omega)).trans (hx.block kk hk (by omega)))))
          have HNR:=Z (And.intro n3 (And.intro n4 n5))
          clear hwA hwB hwC n3 n4 n5 hbl1 hbl2 hbl3 ko1 ko2 ko3 hot1 hot2 hot3 k3 k4 k5 m3 m4 m5 g3 g4 g5 d0 e0 HS HS2 HS4 hBW hsb2 hnbw hw5 hz8
          gi_wp2
          exact⟨HKO.out,.inr ⟨rfl,HBT.out,HNR.out.1,HNR.out.2.1,HNR.out.2.2,vals pre,y,by rw [vals_snoc,HYE.out],HCI.out.ps,HQ1.out,HQ2.out,HM0.out⟩⟩
         ·have HM0:=Z hm0
          have hmb:(y.m == 0)=false:=by rw [eq_zero_beq];exact decide_eq_false hm0
          clear hm0
          gi_wp2
          exact⟨keeps_below HB9.out (Nat.le_refl _),KF.of_below HB9.out,HC9.out.bx,HC9.out.rl,fun p hp=>by
           rw [vals_snoc,HYE.out] at hp
           rcases List.mem_append.1 hp with hp|hp
           ·exact HCI.out.ps p hp
           ·rw [List.mem_singleton.1 hp];exact⟨HQ1.out,HQ2.out,HM0.out⟩⟩
      case stop=>
       intro d c' pre W' hd hSp hIx hdef
       obtain⟨_,s',hs'⟩:=hSp
       have hvp:vals pre ++ s'=ptsL t a_ zs 36000 ⟨q,x.y+q,zv⟩:=hs'
       have hcs:chS t a_ zs s x n'=safeL t zs s (vals pre ++ s'):=by unfold chS;rw [HQ.out,HMVE.out,hvp]
       have hn8:(8 - i:Nat)=n':=HNI.out
       obtain⟨p1,p2,p3,p4,p5,p6,p7,p8⟩:=HR3.out
       rcases hIx with⟨rfl,hX⟩|⟨rfl,hX⟩
       ·obtain⟨l',p,hpe,hpl,hpf⟩:=hX.no
        have hno:chS t a_ zs s x n'=false:=by rw [hcs,hpe,List.append_assoc,safeL_pass hpl];exact safeL_fail hpf
        have hchn:chZ t a_ zs s x (9 - (i+1)) q=R:=by
         rw [←HCH.out,show 9 - i=n'+1 from by omega,chZ_no (fun h=>HNN.out (h.imp id (fun h=>Int.not_le.1 h))) hno,HQ.out,show 9 - (i+1)=n' from by omega]
        have hbw3:Below (B+6) w3 W':=⟨hX.bx.os,hX.bx.tape,hX.bx.output,hX.bx.size,fun kk hk=>by
         by_cases e:kk=B+5
         ·rw [e];exact (show W'.heap[B+5]? = _ from hX.rl).trans (show w3.heap[B+5]? = _ from p7).symm
         ·exact hX.bx.block kk (by omega) e⟩
        have HFN:=Z (HFF.out W' d hbw3 (fun D hl hD=>(hX.bx.block D (by omega) (Rw.ne_def p7 hD)).trans hD) hd hdef)
        have HCN:=Z hchn
        clear hX hbw3 hchn hno hpe hpl hpf hcs hvp hs' p1 p2 p3 p4 p5 p6 p7 p8 hz3 hz8 hlt hBW hw5 hnbw hdef hd hn8
        gi_wp2
        refine⟨⟨{target:= .collected d,args:=#[]} :: ds,i+1,q,rfl,by omega,HCN.out,HFN.out.1,HFN.out.2⟩, ?_⟩
        show 9 - (((i+1:Nat):Int)).toNat<9 - ((i:Int)).toNat
        omega
       ·obtain⟨l',p,hpe,hpl,hb1,hb2,hm0⟩:=hX.ok
        have hyes:chS t a_ zs s x n'=true:=by rw [hcs,hpe,List.append_assoc,safeL_pass hpl];exact safeL_stand hb1 hb2 hm0
        have hRn:R=some n':=by rw [←HCH.out,show 9 - i=n'+1 from by omega];exact chZ_yes (fun h=>HNN.out (h.imp id (fun h=>Int.not_le.1 h))) hyes
        have hmk2:Mks (B+6) ({target:= .collected d,args:=#[]} :: ds) W':=by
         have hWw:Below (B+6) W w3:=(HB5.out.mono hBW).trans (HB53.out.mono (by omega))
         refine HM.out.more (fun D hD=> ?_) (by omega) (by omega) hdef
         have hl:=(Array.getElem?_eq_some_iff.1 hD).1
         have h3:w3.heap[D]? = some (.deferred (some [])):=(HB53.out.block D (by omega)).trans ((HB5.out.block D hl).trans hD)
         have n1:=Rw.ne_def p5 h3;have n2:=Rw.ne_def p6 h3;have n3:=Rw.ne_def p7 h3
         exact (hX.bt.block D (by omega) (by omega)).trans h3
        have hbf:Below (B+3) w3 W':=hX.bt.below (by omega) (fun kk hk=>by omega)
        have HBF:=Z (show Below B w W' from HB1.out.trans ((HW.out.mono (by omega)).trans (((HB5.out.mono (show B≤W.heap.size by omega)).trans (HB53.out.mono (by omega))).trans (hbf.mono (by omega)))))
        have HFN:=Z (And.intro hmk2 (And.intro hX.r1 (And.intro hX.r2 hX.r3)))
        have HRN:=Z hRn
        clear hX hbf hmk2 hRn hyes hpe hpl hb1 hb2 hm0 hcs hvp hs' p1 p2 p3 p4 p5 p6 p7 p8 hz3 hz8 hlt hBW hw5 hnbw hdef hd hn8
        gi_wp2
        (try simp only [Exit.inBlock,Exit.then])
        (try rw [Exit.noGoto_ret])
        obtain⟨hmk2,r1,r2,r3⟩:=HFN.out
        refine leaves_all2 hmk2 (fun W2 h1=>res_ccc rfl _ _ _ _ _ _ _ _ _ _ _ _ _ rfl rfl rfl (r1.below h1 (by omega)) (r2.below h1 (by omega)) (r3.below h1 (by omega)) Tryz.underlying87 rfl (by kernel_rfl) Tryz.underlying102 rfl (by kernel_rfl) (load_bool (r3.below h1 (by omega)))) (fun W2 h1=>⟨?_, ?_⟩)
        ·rw [HRN.out]
         show _=Ending.returned (.tuple #[.agg #[O U (chF t a_ zs x n').p,O U (chF t a_ zs x n').b,O U (chF t a_ zs x n').d,O U (chF t a_ zs x n').h,O U x.m,O U (chQ t a_ zs x n')],.agg (fPt (movP t zs x (chQ t a_ zs x n'))).toArray,.bool true])
         rw [HFF2.out,HQ.out,HMVE.out]
         rfl
        ·rw [HBE.out];exact HBF.out.trans (h1.mono (by omega))
      case done=>
       intro d xs W' hd hS hI hdef
       have hvp:vals xs=ptsL t a_ zs 36000 ⟨q,x.y+q,zv⟩:=hS
       have hno:chS t a_ zs s x n'=false:=by
        unfold chS
        rw [HQ.out,HMVE.out,←hvp]
        have:=safeL_pass (r:= []) hI.ps
        rw [List.append_nil] at this
        rw [this];rfl
       have hn8:(8 - i:Nat)=n':=HNI.out
       obtain⟨p1,p2,p3,p4,p5,p6,p7,p8⟩:=HR3.out
       have hchn:chZ t a_ zs s x (9 - (i+1)) q=R:=by
        rw [←HCH.out,show 9 - i=n'+1 from by omega,chZ_no (fun h=>HNN.out (h.imp id (fun h=>Int.not_le.1 h))) hno,HQ.out,show 9 - (i+1)=n' from by omega]
       have hbw3:Below (B+6) w3 W':=⟨hI.bx.os,hI.bx.tape,hI.bx.output,hI.bx.size,fun kk hk=>by
        by_cases e:kk=B+5
        ·rw [e];exact (show W'.heap[B+5]? = _ from hI.rl).trans (show w3.heap[B+5]? = _ from p7).symm
        ·exact hI.bx.block kk (by omega) e⟩
       have HFN:=Z (HFF.out W' d hbw3 (fun D hl hD=>(hI.bx.block D (by omega) (Rw.ne_def p7 hD)).trans hD) hd hdef)
       have HCN:=Z hchn
       clear hI hbw3 hchn hno hvp hS p1 p2 p3 p4 p5 p6 p7 p8 hz3 hz8 hlt hBW hw5 hnbw hdef hd hn8
       gi_wp2
       refine⟨⟨{target:= .collected d,args:=#[]} :: ds,i+1,q,rfl,by omega,HCN.out,HFN.out.1,HFN.out.2⟩, ?_⟩
       show 9 - (((i+1:Nat):Int)).toNat<9 - ((i:Int)).toNat
       omega
     ·have hpd:decide (q≤25000 * t.mass)=false:=decide_eq_false hqp
      have hchn:chZ t a_ zs s x (9 - (i+1)) tr=R:=by
       rw [←HCH.out,show 9 - i=n'+1 from by have:=HNI.out;omega,chZ_skip (.inr (by rw [HQ.out];exact hqp)),show 9 - (i+1)=n' from by have:=HNI.out;omega]
      have HCN:=Z hchn
      clear hqt hchn hqp hsbl
      gi_wp2
      refine wpIn_wide.2 ?_
      have HS:=Z (HSK.out _ hbq)
      refine wp_region_noPanic ?_
      refine wp_region_held_drew (S:=fun wx=>Rw wx B 98 #[.pointer (some ⟨r,0,none⟩)]∧Rw wx r 147 #[.pointer (some ⟨k,0,none⟩),O U (10 * t.mass),.slice Az nz cz]∧Rw wx sb 87 #[O U F.p,O U F.b,O U F.d,O U F.h,O U x.m,O U q]) (by kernel_rfl) HS.out (fun _=> ?_)
      refine hTk (i:=0) (d:=30) (v:= .pointer (some ⟨sb,5,none⟩)) rfl rfl (Or.inl ⟨rfl,by rintro W' ⟨s0,s1,s2⟩;have y0:=s0.cell 0;have z0:=s1.cell 0;have k5:=s2.cell 5;go_simp⟩) HS.out ?_
      simp only [Act.put,sB,sZ,sS]
      refine hTk (i:=1) (d:=31) (v:=O U q) rfl rfl (Or.inl ⟨rfl,by rintro W' ⟨s0,s1,s2⟩;have y0:=s0.cell 0;have z0:=s1.cell 0;have k5:=s2.cell 5;go_simp⟩) HS.out ?_
      simp only [Act.put,sB,sZ,sS]
      refine hTk (i:=2) (d:=32) (v:=O U tr) rfl rfl (Or.inl ⟨rfl,by rintro W' ⟨s0,s1,s2⟩;have y0:=s0.cell 0;have z0:=s1.cell 0;have k5:=s2.cell 5;go_simp⟩) HS.out ?_
      simp only [Act.put,sB,sZ,sS]
      refine hTk (i:=3) (d:=33) (v:= .bool false) rfl rfl (Or.inl ⟨rfl,by rintro W' ⟨s0,s1,s2⟩;have y0:=s0.cell 0;have z0:=s1.cell 0;have k5:=s2.cell 5;go_simp⟩) HS.out ?_
      simp only [Act.put,sB,sZ,sS]
      refine hTk (i:=4) (d:=34) (v:= .bool false) rfl rfl (Or.inl ⟨rfl,by rintro W' ⟨s0,s1,s2⟩;have y0:=s0.cell 0;have z0:=s1.cell 0;have k5:=s2.cell 5;go_simp⟩) HS.out ?_
      simp only [Act.put,sB,sZ,sS]
      refine hTk (i:=5) (d:=35) (v:= .pointer (some ⟨r,0,none⟩)) rfl rfl (Or.inl ⟨rfl,by rintro W' ⟨s0,s1,s2⟩;have y0:=s0.cell 0;have z0:=s1.cell 0;have k5:=s2.cell 5;go_simp⟩) HS.out ?_
      simp only [Act.put,sB,sZ,sS]
      refine hTk (i:=6) (d:=36) (v:= .pointer (some ⟨r,0,none⟩)) rfl rfl (Or.inl ⟨rfl,by rintro W' ⟨s0,s1,s2⟩;have y0:=s0.cell 0;have z0:=s1.cell 0;have k5:=s2.cell 5;go_simp⟩) HS.out ?_
      simp only [Act.put,sB,sZ,sS]
      refine hTk (i:=7) (d:=37) (v:= .pointer (some ⟨r,0,none⟩)) rfl rfl (Or.inl ⟨rfl,by rintro W' ⟨s0,s1,s2⟩;have y0:=s0.cell 0;have z0:=s1.cell 0;have k5:=s2.cell 5;go_simp⟩) HS.out ?_
      simp only [Act.put,sB,sZ,sS]
      refine hTk (i:=8) (d:=38) (v:= .pointer (some ⟨k,0,none⟩)) rfl rfl (Or.inl ⟨rfl,by rintro W' ⟨s0,s1,s2⟩;have y0:=s0.cell 0;have z0:=s1.cell 0;have k5:=s2.cell 5;go_simp⟩) HS.out ?_
      simp only [Act.put,sB,sZ,sS]
      refine hTk (i:=9) (d:=39) (v:= .pointer (some ⟨sb,5,none⟩)) rfl rfl (Or.inl ⟨rfl,by rintro W' ⟨s0,s1,s2⟩;have y0:=s0.cell 0;have z0:=s1.cell 0;have k5:=s2.cell 5;go_simp⟩) HS.out ?_
      simp only [Act.put,sB,sZ,sS]
      refine hTk (i:=10) (d:=40) (v:=O U q) rfl rfl (Or.inl ⟨rfl,by rintro W' ⟨s0,s1,s2⟩;have y0:=s0.cell 0;have z0:=s1.cell 0;have k5:=s2.cell 5;go_simp⟩) HS.out ?_
      simp only [Act.put,sB,sZ,sS]
      refine wpAnyH_ready (rs:= [11]) (by kernel_rfl) (by simp) ?_
      refine AllReadyH.cons rfl (fun K hK=> ?_) AllReadyH.nil
      rw [if_pos (by rfl)]
      go_simp
      go_at_call 72
      (with_reducible refine (HPO.out _ hbq).mono ?_)
      rintro e w6 ⟨rfl,rfl⟩
      rw [hpd]
      refine hK.out _ _ HS.out (fun _=> ?_)
      clear hK K
      try simp only [Act.put,sB,sZ,sS]
      refine hTk (i:=12) (d:=42) (v:= .bool true) rfl rfl (Or.inl ⟨rfl,by rintro W' ⟨s0,s1,s2⟩;have y0:=s0.cell 0;have z0:=s1.cell 0;have k5:=s2.cell 5;go_simp⟩) HS.out ?_
      simp only [Act.put,sB,sZ,sS]
      refine hTk (i:=13) (d:=43) (v:= .bool true) rfl rfl (Or.inl ⟨rfl,by rintro W' ⟨s0,s1,s2⟩;have y0:=s0.cell 0;have z0:=s1.cell 0;have k5:=s2.cell 5;go_simp⟩) HS.out ?_
      simp only [Act.put,sB,sZ,sS]
      refine wpAnyH_done (by kernel_rfl) ?_ _
      refine NoPanic.normal ?_
      have HBQ:=Z hbq
      clear hbq HS
      gi_wp2
      have hb56:Below (B+6) W w5.drew:=(HB5.out.mono HBW.out).trans (HBQ.out.mono (by have:=HB5.out.size;have:=HBW.out;omega))
      refine⟨⟨ds,i+1,tr,rfl,by omega,HLE.out tr HCN.out _ hb56 (HM.out.below (HB5.out.trans (HBQ.out.mono HB5.out.size)))⟩, ?_⟩
      show 9 - (((i+1:Nat):Int)).toNat<9 - ((i:Int)).toNat
      omega
  ·obtain rfl:i=9:=by omega
   obtain⟨p1,p2,p3,p4,p5,p6,p7⟩:=HRO.out W (Below.refl _ _)
   have c30:=p4.cell 0;have f30:=p4.frozen 0;have c31:=p4.cell 1;have f31:=p4.frozen 1;have c32:=p4.cell 2;have f32:=p4.frozen 2;have c33:=p4.cell 3;have f33:=p4.frozen 3;have c34:=p4.cell 4;have f34:=p4.frozen 4;have c35:=p4.cell 5;have f35:=p4.frozen 5;have c40:=p5.cell 0;have f40:=p5.frozen 0;have c41:=p5.cell 1;have f41:=p5.frozen 1;have c42:=p5.cell 2;have f42:=p5.frozen 2;have c50:=p6.cell 0;have f50:=p6.frozen 0
   have HP:=Z (And.intro p4 (And.intro p5 p6))
   have hRn:R=none:=by rw [←HCH.out];rfl
   have HN:=Z hRn
   clear p1 p2 p3 p4 p5 p6 p7 hRn
   gi_wp2
   (try simp only [Exit.inBlock,Exit.then])
   (try rw [Exit.noGoto_ret])
   obtain⟨p4,p5,p6⟩:=HP.out
   have r4:=((((((((((p4.set 0 (O U 0)).set 1 (O U 0)).set 2 (O U 0)).set 3 (O U 0)).set 4 (O U 0)).set 5 (O U 0)).far (k:=B+4) 0 (O U 0) (by omega)).far (k:=B+4) 1 (O U 0) (by omega)).far (k:=B+4) 2 (O U 0) (by omega)).far (k:=B+5) 0 (.bool false) (by omega))
   have r5:=((((((((((p5.far (k:=B+3) 0 (O U 0) (by omega)).far (k:=B+3) 1 (O U 0) (by omega)).far (k:=B+3) 2 (O U 0) (by omega)).far (k:=B+3) 3 (O U 0) (by omega)).far (k:=B+3) 4 (O U 0) (by omega)).far (k:=B+3) 5 (O U 0) (by omega)).set 0 (O U 0)).set 1 (O U 0)).set 2 (O U 0)).far (k:=B+5) 0 (.bool false) (by omega))
   have r6:=((((((((((p6.far (k:=B+3) 0 (O U 0) (by omega)).far (k:=B+3) 1 (O U 0) (by omega)).far (k:=B+3) 2 (O U 0) (by omega)).far (k:=B+3) 3 (O U 0) (by omega)).far (k:=B+3) 4 (O U 0) (by omega)).far (k:=B+3) 5 (O U 0) (by omega)).far (k:=B+4) 0 (O U 0) (by omega)).far (k:=B+4) 1 (O U 0) (by omega)).far (k:=B+4) 2 (O U 0) (by omega)).set 0 (.bool false))
   have hbf:Below (B+3) W (((((((((((W.setCell ⟨B+3,0,none⟩ (O U 0)).setCell ⟨B+3,1,none⟩ (O U 0)).setCell ⟨B+3,2,none⟩ (O U 0)).setCell ⟨B+3,3,none⟩ (O U 0)).setCell ⟨B+3,4,none⟩ (O U 0)).setCell ⟨B+3,5,none⟩ (O U 0)).setCell ⟨B+4,0,none⟩ (O U 0)).setCell ⟨B+4,1,none⟩ (O U 0)).setCell ⟨B+4,2,none⟩ (O U 0)).setCell ⟨B+5,0,none⟩ (.bool false))):=by
    refine ((((((((((Below.refl _ _).setCell ?_ _).setCell ?_ _).setCell ?_ _).setCell ?_ _).setCell ?_ _).setCell ?_ _).setCell ?_ _).setCell ?_ _).setCell ?_ _).setCell ?_ _ <;> (simp <;> omega)
   have hmk2:Mks (B+6) ds _:=HM.out.keep (W':=(((((((((((W.setCell ⟨B+3,0,none⟩ (O U 0)).setCell ⟨B+3,1,none⟩ (O U 0)).setCell ⟨B+3,2,none⟩ (O U 0)).setCell ⟨B+3,3,none⟩ (O U 0)).setCell ⟨B+3,4,none⟩ (O U 0)).setCell ⟨B+3,5,none⟩ (O U 0)).setCell ⟨B+4,0,none⟩ (O U 0)).setCell ⟨B+4,1,none⟩ (O U 0)).setCell ⟨B+4,2,none⟩ (O U 0)).setCell ⟨B+5,0,none⟩ (.bool false)))) (fun D hD=>by
    have n1:=Rw.ne_def p4 hD
    have n2:=Rw.ne_def p5 hD
    have n3:=Rw.ne_def p6 hD
    exact (Below.heap_setCell _ _ _ _ n3).trans ((Below.heap_setCell _ _ _ _ n2).trans ((Below.heap_setCell _ _ _ _ n2).trans ((Below.heap_setCell _ _ _ _ n2).trans ((Below.heap_setCell _ _ _ _ n1).trans ((Below.heap_setCell _ _ _ _ n1).trans ((Below.heap_setCell _ _ _ _ n1).trans ((Below.heap_setCell _ _ _ _ n1).trans ((Below.heap_setCell _ _ _ _ n1).trans ((Below.heap_setCell _ _ _ _ n1).trans hD))))))))))
   refine leaves_all2 hmk2 (fun W' h1=>res_ccc rfl _ _ _ _ _ _ _ _ _ _ _ _ _ rfl rfl rfl (r4.below h1 (by omega)) (r5.below h1 (by omega)) (r6.below h1 (by omega)) Tryz.underlying87 rfl (by kernel_rfl) Tryz.underlying102 rfl (by kernel_rfl) (load_bool (r6.below h1 (by omega)))) (fun W' h1=>⟨by rw [HN.out];rfl, ?_⟩)
   rw [HBE.out]
   have hw:=HW.out
   exact HB1.out.trans ((hw.mono (by omega)).trans ((hbf.mono (by omega)).trans (h1.mono (by omega))))
open Go.RowKit Go.Shelf Go.Lib Go.BigFrame
def CLg:Lg→List Value→Prop:=fun l cs=>cs=(fLg l).toList
def Lg0:Lg:=⟨0,0,0,0,0,0⟩
def addsL:List Lg→Lg→Lg
 | [],s=>s
 | l :: r,s=>addsL r (addL s l)
theorem addsL_take (l:List Lg) {i:Nat} (h:i<l.length) (s:Lg):addsL (l.take (i+1)) s=addL (addsL (l.take i) s) l[i]:=by
 induction l generalizing i s with
 | nil=>simp at h
 | cons x r ih=>
  cases i with
  | zero=>simp [addsL]
  | succ i=>simp [addsL];exact ih (by simpa using h) _
theorem lg_at {w:World} {B:Nat} {l:List Lg} {A:Option Addr} (h:Sl w B 6 CLg A l) {i:Nat} (hi:i<l.length) :
  ∃b off,A=some ⟨b,off,none⟩∧b<B∧w.cell? ⟨b,off+i * 6,none⟩=some (O U l[i].pull)∧w.cell? ⟨b,off+i * 6+1,none⟩=some (O U l[i].brake)∧w.cell? ⟨b,off+i * 6+2,none⟩=some (O U l[i].drag)∧w.cell? ⟨b,off+i * 6+3,none⟩=some (O U l[i].hill)∧w.cell? ⟨b,off+i * 6+4,none⟩=some (O U l[i].round)∧w.cell? ⟨b,off+i * 6+5,none⟩=some (O U l[i].hold):=by
 obtain⟨b,off,cs,e,hb,rfl,hc⟩:=h.at_ hi
 exact⟨b,off,e,hb,by have:=hc 0 _ rfl;simpa using this,hc 1 _ rfl,hc 2 _ rfl,hc 3 _ rfl,hc 4 _ rfl,hc 5 _ rfl⟩
set_option maxRecDepth 100000 in
set_option maxHeartbeats 4000000 in
theorem add_any (A:Option Addr) (n c:Nat) (l:List Lg) (w:World) (hl:l.length=n) (hn:n≤1000000) (hS:Sl w w.heap.size 6 CLg A l) :
  Calls Tryz.prog 109 #[.slice A n c] w fun e w'=>e= .returned (.agg (fLg (addsL l Lg0)))∧Below w.heap.size w w':=by
 have hb1:=((Below.refl w.heap.size w).alloc (Nat.le_refl _) (.cells #[O U 0,O U 0,O U 0,O U 0,O U 0,O U 0] 37)).alloc (by simp) (.cells #[O U 0,O U 0,O U 0,O U 0,O U 0,O U 0] 37)
 obtain⟨q1,q2⟩:=rows2 w #[O U 0,O U 0,O U 0,O U 0,O U 0,O U 0] #[O U 0,O U 0,O U 0,O U 0,O U 0,O U 0] 37 37
 obtain⟨W1,hW1⟩:∃z,((w.alloc (.cells #[O U 0,O U 0,O U 0,O U 0,O U 0,O U 0] 37)).alloc (.cells #[O U 0,O U 0,O U 0,O U 0,O U 0,O U 0] 37))=z:=⟨_,rfl⟩
 rw [hW1] at hb1 q1 q2
 have HB1:=Z hb1;have HQ1:=Z q1;have HQ2:=Z q2
 have HS1:=Z (show ∀wx,Below (w.heap.size+1) W1 wx→Sl wx w.heap.size 6 CLg A l from fun wx h=>hS.below (hb1.trans (h.mono (by omega))))
 have HL:=Z hl
 clear hb1 q1 q2 hS hl
 go_enter Tryz.func109,Tryz.ntmps109
 go_wp2
 go_loopw [8] (fun i wr=>∃j:Nat,j≤l.length∧i=O U (j:Int)∧Rw wr (w.heap.size+1) 37 (fLg (addsL (l.take j) Lg0))∧Below (w.heap.size+1) W1 wr) (fun i _=>n - (intOf i).toNat)
 case atStart=>exact⟨0,Nat.zero_le _,rfl,HQ2.out,Below.refl _ _⟩
 case round=>
  obtain⟨j,hj,rfl,hr,hb⟩:=hrel
  have hnl:=HL.out
  have hq2:=HQ2.out.lt
  have hsz:=hb.size
  by_cases hlt:j<l.length
  ·have hlt':(j:Int)<(n:Int):=by omega
   obtain⟨b,off,rfl,hbl,c0,c1,c2,c3,c4,c5⟩:=lg_at (HS1.out _ hb) hlt
   obtain⟨x,hx⟩:∃x,l[j]=x:=⟨_,rfl⟩
   obtain⟨s,hs⟩:∃s,addsL (l.take j) Lg0=s:=⟨_,rfl⟩
   have hnext:addsL (l.take (j+1)) Lg0=addL s x:=by rw [addsL_take l hlt,hs,hx]
   rw [hx] at c0 c1 c2 c3 c4 c5
   rw [hs] at hr
   have HN:=Z hnext
   unfold fLg at hr
   have hwr:b<wr.heap.size:=by omega
   have hwr1:w.heap.size+1<wr.heap.size:=by omega
   have hne:¬w.heap.size+1=wr.heap.size:=by omega
   have k0:=Rw.new wr #[O U x.pull,O U x.brake,O U x.drag,O U x.hill,O U x.round,O U x.hold] 37
   have hra:=hr.alloc (.cells #[O U x.pull,O U x.brake,O U x.drag,O U x.hill,O U x.round,O U x.hold] 37)
   have hba:=hb.alloc (by omega) (.cells #[O U x.pull,O U x.brake,O U x.drag,O U x.hill,O U x.round,O U x.hold] 37)
   have hj0:(0:Int)≤(j:Int):=by omega
   have hwj:IntKind.i64.wrap ((j:Int)+1)=(j:Int)+1:=by rw [IntKind.wrap_i64];omega
   go_upto_region 5 with (fail)
   clear c0 c1 c2 c3 c4 c5
   obtain⟨W2,hW2⟩:∃z,wr.alloc (.cells #[O U x.pull,O U x.brake,O U x.drag,O U x.hill,O U x.round,O U x.hold] 37)=z:=⟨_,rfl⟩
   obtain⟨lb,hlb⟩:∃z,wr.heap.size=z:=⟨_,rfl⟩
   rw [hW2] at k0 hra hba ⊢
   rw [hlb] at k0 hne ⊢
   have c0:=hra.cell 0;have f0:=hra.frozen 0;have c1:=hra.cell 1;have f1:=hra.frozen 1;have c2:=hra.cell 2;have f2:=hra.frozen 2;have c3:=hra.cell 3;have f3:=hra.frozen 3;have c4:=hra.cell 4;have f4:=hra.frozen 4;have c5:=hra.cell 5;have f5:=hra.frozen 5;have d0:=k0.cell 0;have d1:=k0.cell 1;have d2:=k0.cell 2;have d3:=k0.cell 3;have d4:=k0.cell 4;have d5:=k0.cell 5
   have HRA:=Z hra;have HBA:=Z hba
   clear hra hba k0 hr hb hW2 hlb hwr hwr1 hs hx hnext hlt
   go_wp2
   refine⟨⟨j+1,by omega,rfl, ?_, ?_⟩, ?_⟩
   ·have h:=(((((HRA.out.set 0 (O U (wrap64 (s.pull+x.pull)))).set 1 (O U (wrap64 (s.brake+x.brake)))).set 2 (O U (wrap64 (s.drag+x.drag)))).set 3 (O U (wrap64 (s.hill+x.hill)))).set 4 (O U (wrap64 (s.round+x.round)))).set 5 (O U (wrap64 (s.hold+x.hold)))
    rw [HN.out]
    exact h
   ·exact ((((((HBA.out.setCell (by simp) _).setCell (by simp) _).setCell (by simp) _).setCell (by simp) _).setCell (by simp) _).setCell (by simp) _)
   ·simp [intOf];omega
  ·obtain rfl:j=l.length:=by omega
   have hlt':¬(l.length:Int)<(n:Int):=by omega
   rw [List.take_of_length_le (Nat.le_refl _)] at hr
   obtain⟨s,hs⟩:∃s,addsL l Lg0=s:=⟨_,rfl⟩
   rw [hs] at hr
   have HSS:=Z hs
   clear hs
   have hra:=hr
   unfold fLg at hra
   have c0:=hra.cell 0;have f0:=hra.frozen 0;have c1:=hra.cell 1;have f1:=hra.frozen 1;have c2:=hra.cell 2;have f2:=hra.frozen 2;have c3:=hra.cell 3;have f3:=hra.frozen 3;have c4:=hra.cell 4;have f4:=hra.frozen 4;have c5:=hra.cell 5;have f5:=hra.frozen 5
   have hres:=HQ1.out.below hb (by omega)
   have d0:=hres.cell 0;have g0:=hres.frozen 0;have d1:=hres.cell 1;have g1:=hres.frozen 1;have d2:=hres.cell 2;have g2:=hres.frozen 2;have d3:=hres.cell 3;have g3:=hres.frozen 3;have d4:=hres.cell 4;have g4:=hres.frozen 4;have d5:=hres.cell 5;have g5:=hres.frozen 5
   have HRS:=Z hres;have HBB:=Z hb;have HRR:=Z hr
   clear hr hra hres hb
   go_wp2
   (try simp only [Exit.inBlock,Exit.then])
   have h2:=((((((HRS.out.set 0 (O U s.pull)).set 1 (O U s.brake)).set 2 (O U s.drag)).set 3 (O U s.hill)).set 4 (O U s.round)).set 5 (O U s.hold))
   refine bodyPost_ret (res_c rfl _ _ _ _ _ _ rfl h2 Tryz.underlying37 rfl (by kernel_rfl)) rfl ⟨by rw [HSS.out];rfl, ?_⟩
   exact (((((((HB1.out.trans (HBB.out.mono (by omega))).setCell (by simp) _).setCell (by simp) _).setCell (by simp) _).setCell (by simp) _).setCell (by simp) _).setCell (by simp) _)
end Go.Proofs.YtfhkbbjddjddmaaGreat
