/- Contract: a settling's solve. -/
import Derived.Test.YtbnfnpakibkboaaGreatKL
set_option linter.unusedVariables false
set_option linter.unusedSimpArgs false
open Go.Value renaming int→O
open Go.IntKind renaming i64→U
open Go.Lib renaming hid→Z
namespace Go.Proofs.YtbnfnpakibkboaaGreat
open Go.RowKit
theorem info79:(Tryz.prog.info? 79).map (fun i=>(i.zero,i.size,i.bytes))=some (some (.agg #[O U 0,O U 0,O U 0]),3,24):=by kernel_rfl
theorem fLv_len (x:Lv):(fLv x).length=3:=rfl
theorem fLv_one (x:Lv):∀u∈fLv x,u.oneCell'=true:=by simp [fLv,Value.oneCell']
theorem far_cell {wa wb:World} {a:Nat} {o:Nat} {v:Value} (h:wb.heap[a]? = wa.heap[a]?) (hv:wa.cell? ⟨a,o,none⟩=some v):wb.cell? ⟨a,o,none⟩=some v:=(World.cell?_of_block (a:=⟨a,o,none⟩) h).trans hv
set_option maxRecDepth 100000 in
set_option maxHeartbeats 8000000 in
theorem ssolve_any (B sb i:Nat) (x:SL) (C:Nat→Ci) (V:Nat→Vi) (Km:Nat→Bool) (z:Zs) (fon run:List Bool) (xs:List Pm) (dn:Nat→Prop) (w:World) (h:StA w B sb x C V Km z fon run xs dn) (hz:z.Ok) (hi:i<z.np) :
    Calls Tryz.prog 93 #[.pointer (some ⟨sb,0,none⟩),O U (i:Int)] w fun e w'=>e= .returned (.tuple #[])∧∃(C':Nat→Ci) (V':Nat→Vi) (K':Nat→Bool),StA w' B sb x C' V' K' z fon run xs (fun j=>dn j∨j=i)∧St3 x w w':=by
  have hix:i<xs.length:=by rw [h.xl];exact hi
  obtain⟨y,hy⟩:∃y,xs[i]=y:=⟨_,rfl⟩
  have hyp:y.p=z.pv i:=by rw [←hy];exact h.xat hix
  have hym:y∈xs:=by rw [←hy];exact List.getElem_mem hix
  obtain⟨pb,pc,hpv,hpc, -⟩:=own_some h.X (by
    rintro e;rcases h.X.2 with⟨_,hn⟩|⟨g,cap,cur,hh,_⟩
    · omega
    · rw [e] at hh;cases hh)
  unfold Sc.v at hpv
  injection hpv with hpA hpn hpcc
  have hfn:=h.fr.2
  have hfl:fon.length=x.feeds.n:=h.fn.trans h.g.fl
  have hrn:=h.rr.2
  have hrl:=h.rn
  have hll:=h.ll
  obtain⟨⟨lA,ln,lc⟩,hl⟩:∃s,x.loads=s:=⟨_,rfl⟩
  obtain⟨⟨rA,rn,rc⟩,hrr⟩:∃s,x.run=s:=⟨_,rfl⟩
  obtain⟨pn,hpn'⟩:∃p,x.parts.n=p:=⟨_,rfl⟩
  have hL:=h.lr;have hRr:=h.rr.1
  rw [hl] at hll hL
  rw [hrr] at hrn hRr
  simp only at hll hrn hL hRr
  have hlen:z.ls.length≤40:=Nat.le_trans (loadsB_len hz.lb) hz.n40
  have hrn':rn=ln:=by omega
  subst hrn'
  have HR:=Z (show Rw w sb 110 #[O U (x.N:Int),.slice x.wires.A x.wires.n x.wires.c,.slice x.feeds.A x.feeds.n x.feeds.c,O U z.g.least,.slice x.fon.A x.feeds.n x.fon.c,.slice x.sw.A x.sw.n x.sw.c,.slice lA rn lc,.slice rA rn rc,.slice (some ⟨pb,0,none⟩) pn pc,.slice x.pof.A x.pof.n x.pof.c,.slice (some ⟨x.cb,0,none⟩) x.np x.np,.slice (some ⟨x.vb,0,none⟩) x.np x.np,.slice (some ⟨x.kb,0,none⟩) x.np x.np] from by
    have:=h.st.r;unfold fSet Sc.v at this;rw [hl,hrr,hpA,hpcc,hpn,h.le,hfn,hfl] at this
    rw [←hpn',hpn];exact this)
  have HP:=Z (show ∀wx,Below w.heap.size w wx→wx.cell? ⟨pb,i * 3,none⟩=some (.slice y.s1.A y.s1.n y.s1.c)∧wx.cell? ⟨pb,i * 3+1,none⟩=some (.slice y.s2.A y.s2.n y.s2.c)∧wx.cell? ⟨pb,i * 3+2,none⟩=some (.slice y.s3.A y.s3.n y.s3.c) from fun wx hb=>by
    have hs:=(h.below hb).X.sl fPm_len (show x.parts.v= .slice (some ⟨pb,0,none⟩) xs.length x.parts.c from by unfold Sc.v;rw [hpA,hpn])
    obtain⟨b,off,cs,e,hbb,rfl,hc⟩:=hs.at_ hix
    injection e with e;injection e with e1 e2;subst e1;subst e2
    have c0:=hc 0 _ rfl;have c1:=hc 1 _ rfl;have c2:=hc 2 _ rfl
    rw [hy] at c0 c1 c2
    unfold Sc.v at c0 c1 c2
    rw [Nat.zero_add] at c0 c1 c2
    exact⟨c0,c1,c2⟩)
  have hpt:∃cs,w.heap[pb]? = some (.cells cs 132 (0,0)):=own_type h.X (show x.parts.v.ownBlock=some pb from by unfold Sc.v;rw [hpA];rfl)
  have HNP:=Z (show pb≠x.cb∧pb≠x.vb∧pb≠x.kb from by
    obtain⟨cs,hc⟩:=hpt
    exact⟨ne_ty h.st.c hc (by decide),ne_ty h.st.v hc (by decide),ne_ty h.st.k hc (by decide)⟩)
  have hinp:i<x.np:=by rw [h.np];exact hi
  have HPN:=Z (show i<pn from by rw [←hpn',hpn];exact hix)
  have m:=HR.out.cell
  have HS0:=Z h
  have HNE:=Z h.ne
  have HL:=Z hL;have HRU:=Z hRr;have HLL:=Z hll;have HRL:=Z (show run.length=rn by omega);have HLN:=Z (show rn≤1000 by omega)
  have HYP:=Z hyp;have HYM:=Z hym;have HZ:=Z hz;have HI0:=Z hi;have HFL:=Z hfl
  have HYX:=Z (show ∀hi:i<xs.length,xs[i]=y from fun _=>hy)
  have HNPX:=Z h.np
  clear hL hRr hll hrl hl hrr h hz hpt hyp hym hpA hpn hpcc hpc hfn hfl hrn hlen hpn' hix hy
  go_enter Tryz.func93,Tryz.ntmps93
  go_wp2
  clear m
  obtain⟨i7,hi7,hz7,hs7,hy7⟩:=info_parts info79
  go_loopw [4,12] (fun s4 s12 wr=>∃k:Nat,k≤rn∧s12=O U (k:Int)∧Below w.heap.size w wr∧Own wr w.heap.size 79 3 fLv s4 (runL z.ls run k)) (fun _ s12 _=>rn - (intOf s12).toNat)
  case atStart=>exact⟨0,Nat.zero_le _,rfl,Below.refl _ _,Own.nil _ _ _ _ _⟩
  case round=>
    obtain⟨k,hk,rfl,hbr,ho⟩:=hrel
    have HBR:=Z hbr;have HO:=Z ho
    obtain⟨A5,c5,rfl,hl5,hm5, -⟩:=ho.form
    by_cases hkn:k<rn
    · generalize hn5:(runL z.ls run k).length=n5 at *
      have hii:(k:Int)<(rn:Int):=by omega
      have hi0:(0:Int)≤(k:Int):=by omega
      have hab:(k:Int)+1≤1000:=by have:=HLN.out;omega
      have hkl:k<z.ls.length:=by have:=HLL.out;omega
      have hkr:k<run.length:=by have:=HRL.out;omega
      obtain⟨b,o,rfl,gb,c0,c1,c2⟩:=load_at (HL.out.below hbr) hkl
      obtain⟨b',o',rfl,gb',d0⟩:=bool_at (HRU.out.below hbr) hkr
      obtain⟨u,hu⟩:∃g,z.ls[k]=g:=⟨_,rfl⟩
      obtain⟨bb,hbb⟩:∃g,run[k]=g:=⟨_,rfl⟩
      rw [hu] at c0 c1 c2
      rw [hbb] at d0
      have HI:=Z hkn
      have HTK:=Z (show runL z.ls run (k+1)=runL z.ls run k ++ (if bb then [u] else []) from runL_succ (by rw [List.getElem?_eq_getElem hkl,hu]) (by rw [List.getElem?_eq_getElem hkr,hbb]))
      have HLE:=Z (show n5≤1000 from by
        rw [←hn5];unfold runL;rw [List.length_map]
        have h1:=List.length_filter_le (fun p:Lv × Bool=>p.2) ((z.ls.zip run).take k)
        have h2:=List.length_take_le k (z.ls.zip run)
        have:=HLN.out;omega)
      have hb3:=(Below.refl wr.heap.size wr).alloc (Nat.le_refl _) (.cells #[O U u.pl,O U u.units,O U u.rank] 79)
      have q3:=Rw.new wr #[O U u.pl,O U u.units,O U u.rank] 79
      have hbw:=HBR.out.trans (hb3.mono HBR.out.size)
      have ho3:=HO.out.alloc (.cells #[O U u.pl,O U u.units,O U u.rank] 79)
      have hm3:=(HR.out.below hbw HR.out.lt)
      have d3:(wr.alloc (.cells #[O U u.pl,O U u.units,O U u.rank] 79)).cell? ⟨b',o'+k,none⟩=some (.bool bb):=(World.cell?_of_block (a:=⟨b',o'+k,none⟩) (hb3.5 b' (by have:=HBR.out.size;omega))).trans d0
      obtain⟨W3,hW3⟩:∃z,wr.alloc (.cells #[O U u.pl,O U u.units,O U u.rank] 79)=z:=⟨_,rfl⟩
      rw [hW3] at hb3 q3 hbw ho3 hm3 d3
      have HBW:=Z hbw;have HO3:=Z ho3;have HZ3:=Z hbw.size
      have w0:=q3.cell;have m3:=hm3.cell
      clear hb3 q3 hbw ho3 hm3 hu hbb hkl hkr hbr ho hl5 hm5 hkn d0 gb gb'
      cases bb with
      | false=>
        have HT2:=Z (show runL z.ls run (k+1)=runL z.ls run k from by rw [HTK.out];simp)
        clear hn5
        go_wp2
        go_roundw
        case rel=>exact⟨k+1,by have:=HI.out;omega,by simp,HBW.out,by rw [HT2.out];exact HO3.out⟩
        case measure=>exact round_less HI.out
      | true=>
        have HT2:=Z (show runL z.ls run (k+1)=runL z.ls run k ++ [u] from by rw [HTK.out];simp)
        have HN5:=Z hn5
        clear hn5
        go_wp2_with (at_builtin;go_must (refine wpList_app _ rfl (.tmp 24) (.tmp 26) _ rfl w.heap.size 79 i7 _ 3 24 Tryz.underlying41 hi7 hz7 hs7 hy7 rfl (by omega) fLv_len fLv_one (.slice A5 n5 c5) (runL z.ls run k) rfl (HO3.out.alloc _) _ _ [u] 1 rfl (Sl.new _ _ u _ rfl) (by have:=HLE.out;have:=HN5.out;unfold maxLen;simp only [List.length_cons,List.length_nil];omega) (by have:=HLE.out;have:=HN5.out;simp only [List.length_cons,List.length_nil];omega) (by have:=HZ3.out;simp;omega) (fun _=> .inr ⟨_,rfl⟩) ?_)
                     intro v2 w7 ow2 gr2 at2 ne2
                     go_must (have HO7:=Z ow2)
                     go_must (have HB7:=Z (bGrown (HBW.out.trans (((Below.refl W3.heap.size W3).alloc (Nat.le_refl _) (.cells #[O U u.pl,O U u.units,O U u.rank] 79)).mono HBW.out.size)) gr2 (fun j e=>(HO3.out.lt j e).1) (by have:=HZ3.out;simp;omega)))
                     clear ow2 gr2 at2 ne2)
        go_roundw
        case rel=>exact⟨k+1,by have:=HI.out;omega,by simp,HB7.out,by rw [HT2.out];exact HO7.out⟩
        case measure=>exact round_less HI.out
    · have hii:¬(k:Int)<(rn:Int):=by omega
      have hkk:k=z.ls.length:=by have:=HLL.out;omega
      subst hkk
      have hno:(runL z.ls run z.ls.length).length≤1000:=by
        unfold runL;rw [List.length_map]
        have h1:=List.length_filter_le (fun p:Lv × Bool=>p.2) ((z.ls.zip run).take z.ls.length)
        have h2:=List.length_take_le z.ls.length (z.ls.zip run)
        have:=HLN.out;omega
      have hSR:=HS0.out.below hbr
      have hsv:Sl wr wr.heap.size 3 CL A5 (runL z.ls run z.ls.length):=ho.sl fLv_len rfl
      have HSR:=Z hSR
      have HW3:=Z (St3.of_below (x:=x) hbr)
      obtain⟨n5,hn5⟩:∃n5,(runL z.ls run z.ls.length).length=n5:=⟨_,rfl⟩
      rw [hn5] at hno ⊢
      have HCO:=Z (show ∀wx,Below wr.heap.size wr wx→Calls Tryz.prog 108 #[.agg #[O U (x.N:Int),.slice x.wires.A x.wires.n x.wires.c,.slice x.feeds.A x.feeds.n x.feeds.c,O U z.g.least],.agg #[.slice y.s1.A y.s1.n y.s1.c,.slice y.s2.A y.s2.n y.s2.c,.slice y.s3.A y.s3.n y.s3.c],.slice x.fon.A x.feeds.n x.fon.c,.slice A5 n5 c5] wx fun e w'=>∃X:Ci,e= .returned (.agg #[.slice X.s1.A X.s1.n X.s1.c,.slice X.s2.A X.s2.n X.s2.c,.slice X.s3.A X.s3.n X.s3.c,.slice X.so.A X.so.n X.so.c,.slice X.sk.A X.sk.n X.sk.c])∧PaC w' B X y z fon run i∧Below wx.heap.size wx w' from fun wx hb=>by
        have hs:=HSR.out.below hb
        have hpi:=hs.xi y HYM.out
        obtain⟨l1,l2,l3,a1,a2,a3⟩:=hpi.lens
        rw [HYP.out] at l1 l2 l3 a1 a2 a3
        have hl10:=(HZ.out.nd_len HI0.out).2
        have hl12:=(feedsB_nd HZ.out.fb).2
        have hfl2:=Zs.pvf_len (z:=z) i
        have hl1:y.s1.n=(z.nd i).length:=l1
        refine (circuitOf_any x.wires.A x.feeds.A x.fon.A A5 x.wires.n x.feeds.n n5 x.wires.c x.feeds.c x.fon.c c5 x.N z.g fon (runL z.ls run z.ls.length) y.s1 y.s2 y.s3 (z.pv i) wx hs.gr HFL.out hs.fr.1 hn5 (by omega) ((hsv.below hb).more (fun _ _ h=>h) hb.size) l1.symm (by omega) l3.symm (by omega) a1 a3 (fun j hj=>by
          obtain⟨h1,_⟩:=Zs.pvf_mem.1 hj
          have:=hs.g.fl;omega)).mono ?_
        rintro e w' ⟨so,sk,rfl,ho1,ho2,⟨tb,ht1,ht2,ht3⟩,hbn⟩
        have hle:=Nat.le_trans hs.bw (Nat.le_refl _)
        refine⟨⟨y.s1,y.s2,y.s3,so,sk⟩,rfl,⟨rfl,rfl,rfl,ho1.lower hs.bw,ho2,tb,by rw [ht1,hl1],by have:=hs.bw;omega,by rw [hl1] at ht3;exact ht3⟩,hbn⟩)
      have HRS7:=Z (show ∀wx,Below wr.heap.size wr wx→Rw wx (sb) 110 #[O U (x.N:Int),.slice x.wires.A x.wires.n x.wires.c,.slice x.feeds.A x.feeds.n x.feeds.c,O U z.g.least,.slice x.fon.A x.feeds.n x.fon.c,.slice x.sw.A x.sw.n x.sw.c,.slice lA rn lc,.slice rA rn rc,.slice (some ⟨pb,0,none⟩) pn pc,.slice x.pof.A x.pof.n x.pof.c,.slice (some ⟨x.cb,0,none⟩) x.np x.np,.slice (some ⟨x.vb,0,none⟩) x.np x.np,.slice (some ⟨x.kb,0,none⟩) x.np x.np]∧wx.cell? ⟨pb,i * 3,none⟩=some (.slice y.s1.A y.s1.n y.s1.c)∧wx.cell? ⟨pb,i * 3+1,none⟩=some (.slice y.s2.A y.s2.n y.s2.c)∧wx.cell? ⟨pb,i * 3+2,none⟩=some (.slice y.s3.A y.s3.n y.s3.c) from fun wx hb=>by
        have hbx:=HBR.out.trans (hb.mono HBR.out.size)
        exact⟨HR.out.below hbx HR.out.lt,HP.out wx hbx⟩)
      have HFR7:=Z (show ∀wa wb:World,(∀k,k≠x.cb→wb.heap[k]? = wa.heap[k]?)→(fun wx=>Rw wx (sb) 110 #[O U (x.N:Int),.slice x.wires.A x.wires.n x.wires.c,.slice x.feeds.A x.feeds.n x.feeds.c,O U z.g.least,.slice x.fon.A x.feeds.n x.fon.c,.slice x.sw.A x.sw.n x.sw.c,.slice lA rn lc,.slice rA rn rc,.slice (some ⟨pb,0,none⟩) pn pc,.slice x.pof.A x.pof.n x.pof.c,.slice (some ⟨x.cb,0,none⟩) x.np x.np,.slice (some ⟨x.vb,0,none⟩) x.np x.np,.slice (some ⟨x.kb,0,none⟩) x.np x.np]∧wx.cell? ⟨pb,i * 3,none⟩=some (.slice y.s1.A y.s1.n y.s1.c)∧wx.cell? ⟨pb,i * 3+1,none⟩=some (.slice y.s2.A y.s2.n y.s2.c)∧wx.cell? ⟨pb,i * 3+2,none⟩=some (.slice y.s3.A y.s3.n y.s3.c)) wa→(fun wx=>Rw wx (sb) 110 #[O U (x.N:Int),.slice x.wires.A x.wires.n x.wires.c,.slice x.feeds.A x.feeds.n x.feeds.c,O U z.g.least,.slice x.fon.A x.feeds.n x.fon.c,.slice x.sw.A x.sw.n x.sw.c,.slice lA rn lc,.slice rA rn rc,.slice (some ⟨pb,0,none⟩) pn pc,.slice x.pof.A x.pof.n x.pof.c,.slice (some ⟨x.cb,0,none⟩) x.np x.np,.slice (some ⟨x.vb,0,none⟩) x.np x.np,.slice (some ⟨x.kb,0,none⟩) x.np x.np]∧wx.cell? ⟨pb,i * 3,none⟩=some (.slice y.s1.A y.s1.n y.s1.c)∧wx.cell? ⟨pb,i * 3+1,none⟩=some (.slice y.s2.A y.s2.n y.s2.c)∧wx.cell? ⟨pb,i * 3+2,none⟩=some (.slice y.s3.A y.s3.n y.s3.c)) wb from fun wa wb hk hh=>
        ⟨(hk sb (Ne.symm HNE.out.c)).trans hh.1,far_cell (hk pb HNP.out.1) hh.2.1,far_cell (hk pb HNP.out.1) hh.2.2.1,far_cell (hk pb HNP.out.1) hh.2.2.2⟩)
      have hz2:(0:Int)≤(i:Int):=by omega
      have hz3:(i:Int)<(x.np:Int):=by omega
      have hz4:(i:Int)<(pn:Int):=by have:=HPN.out;omega
      clear hbr ho hl5 hm5 hsv hSR hn5 hkn hk hno
      go_upto_region 7 with (fail)
      have hbq:Below wr.heap.size wr wr.drew:=(Below.refl _ _).drew
      have HS:=Z (show (fun wx=>Rw wx (sb) 110 #[O U (x.N:Int),.slice x.wires.A x.wires.n x.wires.c,.slice x.feeds.A x.feeds.n x.feeds.c,O U z.g.least,.slice x.fon.A x.feeds.n x.fon.c,.slice x.sw.A x.sw.n x.sw.c,.slice lA rn lc,.slice rA rn rc,.slice (some ⟨pb,0,none⟩) pn pc,.slice x.pof.A x.pof.n x.pof.c,.slice (some ⟨x.cb,0,none⟩) x.np x.np,.slice (some ⟨x.vb,0,none⟩) x.np x.np,.slice (some ⟨x.kb,0,none⟩) x.np x.np]∧wx.cell? ⟨pb,i * 3,none⟩=some (.slice y.s1.A y.s1.n y.s1.c)∧wx.cell? ⟨pb,i * 3+1,none⟩=some (.slice y.s2.A y.s2.n y.s2.c)∧wx.cell? ⟨pb,i * 3+2,none⟩=some (.slice y.s3.A y.s3.n y.s3.c)) wr.drew from HRS7.out _ hbq)
      refine wp_region_noPanic ?_
      refine wp_region_held_drew (S:=fun wx=>Rw wx (sb) 110 #[O U (x.N:Int),.slice x.wires.A x.wires.n x.wires.c,.slice x.feeds.A x.feeds.n x.feeds.c,O U z.g.least,.slice x.fon.A x.feeds.n x.fon.c,.slice x.sw.A x.sw.n x.sw.c,.slice lA rn lc,.slice rA rn rc,.slice (some ⟨pb,0,none⟩) pn pc,.slice x.pof.A x.pof.n x.pof.c,.slice (some ⟨x.cb,0,none⟩) x.np x.np,.slice (some ⟨x.vb,0,none⟩) x.np x.np,.slice (some ⟨x.kb,0,none⟩) x.np x.np]∧wx.cell? ⟨pb,i * 3,none⟩=some (.slice y.s1.A y.s1.n y.s1.c)∧wx.cell? ⟨pb,i * 3+1,none⟩=some (.slice y.s2.A y.s2.n y.s2.c)∧wx.cell? ⟨pb,i * 3+2,none⟩=some (.slice y.s3.A y.s3.n y.s3.c)) (by kernel_rfl) HS.out (fun _=> ?_)
      refine hTk (i:=0) (d:=29) (v:= .pointer (some ⟨sb,0,none⟩)) rfl rfl (Or.inl ⟨rfl,by rintro W' ⟨r0,r1,r2,r3⟩;have ry0:=r0.cell;go_simp⟩) HS.out ?_
      simp only [Act.put,sB,sZ,sS]
      refine hTk (i:=1) (d:=30) (v:= .pointer (some ⟨sb,0,none⟩)) rfl rfl (Or.inl ⟨rfl,by rintro W' ⟨r0,r1,r2,r3⟩;have ry0:=r0.cell;go_simp⟩) HS.out ?_
      simp only [Act.put,sB,sZ,sS]
      refine hTk (i:=2) (d:=31) (v:= .pointer (some ⟨sb,10,none⟩)) rfl rfl (Or.inl ⟨rfl,by rintro W' ⟨r0,r1,r2,r3⟩;have ry0:=r0.cell;go_simp⟩) HS.out ?_
      simp only [Act.put,sB,sZ,sS]
      refine hTk (i:=3) (d:=32) (v:= .slice (some ⟨x.cb,0,none⟩) x.np x.np) rfl rfl (Or.inl ⟨rfl,by rintro W' ⟨r0,r1,r2,r3⟩;have ry0:=r0.cell;go_simp⟩) HS.out ?_
      simp only [Act.put,sB,sZ,sS]
      refine hTk (i:=4) (d:=33) (v:=O U (i:Int)) rfl rfl (Or.inl ⟨rfl,by rintro W' ⟨r0,r1,r2,r3⟩;have ry0:=r0.cell;go_simp⟩) HS.out ?_
      simp only [Act.put,sB,sZ,sS]
      refine hTk (i:=5) (d:=34) (v:= .pointer (some ⟨sb,0,none⟩)) rfl rfl (Or.inl ⟨rfl,by rintro W' ⟨r0,r1,r2,r3⟩;have ry0:=r0.cell;go_simp⟩) HS.out ?_
      simp only [Act.put,sB,sZ,sS]
      refine hTk (i:=6) (d:=35) (v:= .pointer (some ⟨sb,0,none⟩)) rfl rfl (Or.inl ⟨rfl,by rintro W' ⟨r0,r1,r2,r3⟩;have ry0:=r0.cell;go_simp⟩) HS.out ?_
      simp only [Act.put,sB,sZ,sS]
      refine hTk (i:=7) (d:=36) (v:= .pointer (some ⟨sb,0,none⟩)) rfl rfl (Or.inl ⟨rfl,by rintro W' ⟨r0,r1,r2,r3⟩;have ry0:=r0.cell;go_simp⟩) HS.out ?_
      simp only [Act.put,sB,sZ,sS]
      refine hTk (i:=8) (d:=37) (v:= .agg #[O U (x.N:Int),.slice x.wires.A x.wires.n x.wires.c,.slice x.feeds.A x.feeds.n x.feeds.c,O U z.g.least]) rfl rfl (Or.inl ⟨rfl,by rintro W' ⟨r0,r1,r2,r3⟩;have ry0:=r0.cell;go_simp⟩) HS.out ?_
      simp only [Act.put,sB,sZ,sS]
      refine hTk (i:=9) (d:=38) (v:= .pointer (some ⟨sb,0,none⟩)) rfl rfl (Or.inl ⟨rfl,by rintro W' ⟨r0,r1,r2,r3⟩;have ry0:=r0.cell;go_simp⟩) HS.out ?_
      simp only [Act.put,sB,sZ,sS]
      refine hTk (i:=10) (d:=39) (v:= .pointer (some ⟨sb,0,none⟩)) rfl rfl (Or.inl ⟨rfl,by rintro W' ⟨r0,r1,r2,r3⟩;have ry0:=r0.cell;go_simp⟩) HS.out ?_
      simp only [Act.put,sB,sZ,sS]
      refine hTk (i:=11) (d:=40) (v:= .pointer (some ⟨sb,8,none⟩)) rfl rfl (Or.inl ⟨rfl,by rintro W' ⟨r0,r1,r2,r3⟩;have ry0:=r0.cell;go_simp⟩) HS.out ?_
      simp only [Act.put,sB,sZ,sS]
      refine hTk (i:=12) (d:=41) (v:= .slice (some ⟨pb,0,none⟩) pn pc) rfl rfl (Or.inl ⟨rfl,by rintro W' ⟨r0,r1,r2,r3⟩;have ry0:=r0.cell;go_simp⟩) HS.out ?_
      simp only [Act.put,sB,sZ,sS]
      refine hTk (i:=13) (d:=42) (v:=O U (i:Int)) rfl rfl (Or.inl ⟨rfl,by rintro W' ⟨r0,r1,r2,r3⟩;have ry0:=r0.cell;go_simp⟩) HS.out ?_
      simp only [Act.put,sB,sZ,sS]
      refine hTk (i:=14) (d:=43) (v:= .pointer (some ⟨pb,i * 3,none⟩)) rfl rfl (Or.inl ⟨rfl,by rintro W' ⟨r0,r1,r2,r3⟩;have ry0:=r0.cell;go_simp⟩) HS.out ?_
      simp only [Act.put,sB,sZ,sS]
      refine hTk (i:=15) (d:=44) (v:= .agg #[.slice y.s1.A y.s1.n y.s1.c,.slice y.s2.A y.s2.n y.s2.c,.slice y.s3.A y.s3.n y.s3.c]) rfl rfl (Or.inl ⟨rfl,by rintro W' ⟨r0,r1,r2,r3⟩;have ry0:=r0.cell;go_simp⟩) HS.out ?_
      simp only [Act.put,sB,sZ,sS]
      refine hTk (i:=16) (d:=45) (v:= .pointer (some ⟨sb,0,none⟩)) rfl rfl (Or.inl ⟨rfl,by rintro W' ⟨r0,r1,r2,r3⟩;have ry0:=r0.cell;go_simp⟩) HS.out ?_
      simp only [Act.put,sB,sZ,sS]
      refine hTk (i:=17) (d:=46) (v:= .pointer (some ⟨sb,0,none⟩)) rfl rfl (Or.inl ⟨rfl,by rintro W' ⟨r0,r1,r2,r3⟩;have ry0:=r0.cell;go_simp⟩) HS.out ?_
      simp only [Act.put,sB,sZ,sS]
      refine hTk (i:=18) (d:=47) (v:= .pointer (some ⟨sb,4,none⟩)) rfl rfl (Or.inl ⟨rfl,by rintro W' ⟨r0,r1,r2,r3⟩;have ry0:=r0.cell;go_simp⟩) HS.out ?_
      simp only [Act.put,sB,sZ,sS]
      refine hTk (i:=19) (d:=48) (v:= .pointer (some ⟨sb,4,none⟩)) rfl rfl (Or.inl ⟨rfl,by rintro W' ⟨r0,r1,r2,r3⟩;have ry0:=r0.cell;go_simp⟩) HS.out ?_
      simp only [Act.put,sB,sZ,sS]
      refine hTk (i:=20) (d:=49) (v:= .slice x.fon.A x.feeds.n x.fon.c) rfl rfl (Or.inl ⟨rfl,by rintro W' ⟨r0,r1,r2,r3⟩;have ry0:=r0.cell;go_simp⟩) HS.out ?_
      simp only [Act.put,sB,sZ,sS]
      refine hTk (i:=21) (d:=50) (v:= .slice A5 n5 c5) rfl rfl (Or.inl ⟨rfl,by rintro W' ⟨r0,r1,r2,r3⟩;have ry0:=r0.cell;go_simp⟩) HS.out ?_
      simp only [Act.put,sB,sZ,sS]
      refine wpAnyH_ready (rs:= [22]) (by kernel_rfl) (by simp) ?_
      refine AllReadyH.cons rfl (fun K hK=> ?_) AllReadyH.nil
      rw [if_pos (by rfl)]
      go_simp
      go_at_call 108
      (with_reducible refine (HCO.out _ hbq).mono ?_)
      rintro e wc0 ⟨X,rfl,hpc,hbn⟩
      have hs6:=HSR.out.below (hbq.trans (hbn.mono hbq.size))
      have HPC:=Z hpc
      replace hbq:=hbq.trans (hbn.mono hbq.size)
      clear hbn hpc
      have HS:=Z (show (fun wx=>Rw wx (sb) 110 #[O U (x.N:Int),.slice x.wires.A x.wires.n x.wires.c,.slice x.feeds.A x.feeds.n x.feeds.c,O U z.g.least,.slice x.fon.A x.feeds.n x.fon.c,.slice x.sw.A x.sw.n x.sw.c,.slice lA rn lc,.slice rA rn rc,.slice (some ⟨pb,0,none⟩) pn pc,.slice x.pof.A x.pof.n x.pof.c,.slice (some ⟨x.cb,0,none⟩) x.np x.np,.slice (some ⟨x.vb,0,none⟩) x.np x.np,.slice (some ⟨x.kb,0,none⟩) x.np x.np]∧wx.cell? ⟨pb,i * 3,none⟩=some (.slice y.s1.A y.s1.n y.s1.c)∧wx.cell? ⟨pb,i * 3+1,none⟩=some (.slice y.s2.A y.s2.n y.s2.c)∧wx.cell? ⟨pb,i * 3+2,none⟩=some (.slice y.s3.A y.s3.n y.s3.c)) wc0 from HRS7.out _ hbq)
      refine hK.out _ _ HS.out (fun _=> ?_)
      clear hK K
      try simp only [Act.put,sB,sZ,sS]
      refine hTk (i:=23) (d:=52) (v:= .pointer (some ⟨x.cb,i * 5,none⟩)) rfl rfl (Or.inl ⟨rfl,by rintro W' ⟨r0,r1,r2,r3⟩;have ry0:=r0.cell;go_simp⟩) HS.out ?_
      simp only [Act.put,sB,sZ,sS]
      refine wpAnyH_ready (rs:= [24]) (by kernel_rfl) (by simp) ?_
      refine AllReadyH.cons rfl (fun K hK=> ?_) AllReadyH.nil
      rw [if_pos (by rfl)]
      have hv:=hs6.st.c
      have y0:=hv.cell (show i * 5<x.np * 5 by omega)
      have y1:=hv.cell (show i * 5+1<x.np * 5 by omega)
      have y2:=hv.cell (show i * 5+2<x.np * 5 by omega)
      have y3:=hv.cell (show i * 5+3<x.np * 5 by omega)
      have y4:=hv.cell (show i * 5+4<x.np * 5 by omega)
      have f0:=hv.frozen (i * 5)
      have f1:=hv.frozen (i * 5+1)
      have f2:=hv.frozen (i * 5+2)
      have f3:=hv.frozen (i * 5+3)
      have f4:=hv.frozen (i * 5+4)
      go_simp
      clear y0 y1 y2 y3 y4 f0 f1 f2 f3 f4 hv
      have hs7:=hs6.setC i X
      have ht3:=(HW3.out.below hbq).setC (i * 5) X.s1.v X.s2.v X.s3.v X.so.v X.sk.v
      have HT:=Z (show (fun wx=>Rw wx (sb) 110 #[O U (x.N:Int),.slice x.wires.A x.wires.n x.wires.c,.slice x.feeds.A x.feeds.n x.feeds.c,O U z.g.least,.slice x.fon.A x.feeds.n x.fon.c,.slice x.sw.A x.sw.n x.sw.c,.slice lA rn lc,.slice rA rn rc,.slice (some ⟨pb,0,none⟩) pn pc,.slice x.pof.A x.pof.n x.pof.c,.slice (some ⟨x.cb,0,none⟩) x.np x.np,.slice (some ⟨x.vb,0,none⟩) x.np x.np,.slice (some ⟨x.kb,0,none⟩) x.np x.np]∧wx.cell? ⟨pb,i * 3,none⟩=some (.slice y.s1.A y.s1.n y.s1.c)∧wx.cell? ⟨pb,i * 3+1,none⟩=some (.slice y.s2.A y.s2.n y.s2.c)∧wx.cell? ⟨pb,i * 3+2,none⟩=some (.slice y.s3.A y.s3.n y.s3.c)) (((((wc0.setCell ⟨x.cb,i * 5,none⟩ X.s1.v).setCell ⟨x.cb,i * 5+1,none⟩ X.s2.v).setCell ⟨x.cb,i * 5+2,none⟩ X.s3.v).setCell ⟨x.cb,i * 5+3,none⟩ X.so.v).setCell ⟨x.cb,i * 5+4,none⟩ X.sk.v) from HFR7.out _ _ (fun k hk=>five_far hk) HS.out)
      have HK7:=Z (show Ky B wc0 _ from hs6.kyC i X)
      unfold Sc.v at hs7 HT HK7 ht3
      obtain⟨w7,hw7⟩:∃z,((((wc0.setCell ⟨x.cb,i * 5,none⟩ (.slice X.s1.A X.s1.n X.s1.c)).setCell ⟨x.cb,i * 5+1,none⟩ (.slice X.s2.A X.s2.n X.s2.c)).setCell ⟨x.cb,i * 5+2,none⟩ (.slice X.s3.A X.s3.n X.s3.c)).setCell ⟨x.cb,i * 5+3,none⟩ (.slice X.so.A X.so.n X.so.c)).setCell ⟨x.cb,i * 5+4,none⟩ (.slice X.sk.A X.sk.n X.sk.c)=z:=⟨_,rfl⟩
      rw [hw7] at hs7 HT HK7 ht3 ⊢
      have HS7:=Z hs7
      have HW7:=Z ht3
      clear hw7 HS
      have HS:=HT
      refine hK.out _ _ HS.out (fun _=> ?_)
      clear hK K
      try simp only [Act.put,sB,sZ,sS]
      refine wpAnyH_done (by kernel_rfl) ?_ _
      clear HS
      refine NoPanic.normal ?_
      (try simp only [Exit.inBlock,Exit.then])
      have HPC7:=Z (HPC.out.ky HK7.out)
      have HSO:=Z (show ∀wx,Below w7.heap.size w7 wx→Calls Tryz.prog 109 #[.agg #[.slice X.s1.A X.s1.n X.s1.c,.slice X.s2.A X.s2.n X.s2.c,.slice X.s3.A X.s3.n X.s3.c,.slice X.so.A X.so.n X.so.c,.slice X.sk.A X.sk.n X.sk.c]] wx fun e w'=>∃(Y:Vi) (ok:Bool),e= .returned (.tuple #[.agg #[.slice Y.sv.A Y.sv.n Y.sv.c,.slice Y.sa.A Y.sa.n Y.sa.c,O U Y.d],.bool ok])∧SolM w' B (z.nd i).length (z.nd i) (z.on fon i) Y ok (z.sol fon run i)∧Below wx.heap.size wx w' from fun wx hb=>by
        have hs:=HS7.out.below hb
        have hpi:=hs.xi y HYM.out
        have hpc:=HPC7.out.ky (Ky.of_below hb HS7.out.bw)
        obtain⟨hc,hn1,hn2⟩:=hpc.cir hpi HYP.out HZ.out HI0.out
        have:=solve_any X.s1.A (z.nd i).length X.s1.c X.s2 X.s3 X.so X.sk.A X.sk.c (z.nd i) (z.pv i).wires (z.on fon i) (z.tk run i) wx hc
        rw [hn1,hn2]
        refine this.mono ?_
        rintro e w' ⟨val,ok,rfl,hsl,hbn⟩
        obtain⟨Y,hv,hsol⟩:=hsl.sol hpc.son.symm
        exact⟨Y,ok,by rw [hv],hsol.lower hs.bw,hbn⟩)
      have HRS8:=Z (show ∀wx,Below w7.heap.size w7 wx→Rw wx (sb) 110 #[O U (x.N:Int),.slice x.wires.A x.wires.n x.wires.c,.slice x.feeds.A x.feeds.n x.feeds.c,O U z.g.least,.slice x.fon.A x.feeds.n x.fon.c,.slice x.sw.A x.sw.n x.sw.c,.slice lA rn lc,.slice rA rn rc,.slice (some ⟨pb,0,none⟩) pn pc,.slice x.pof.A x.pof.n x.pof.c,.slice (some ⟨x.cb,0,none⟩) x.np x.np,.slice (some ⟨x.vb,0,none⟩) x.np x.np,.slice (some ⟨x.kb,0,none⟩) x.np x.np]∧wx.cell? ⟨x.cb,i * 5,none⟩=some (.slice X.s1.A X.s1.n X.s1.c)∧wx.cell? ⟨x.cb,i * 5+1,none⟩=some (.slice X.s2.A X.s2.n X.s2.c)∧wx.cell? ⟨x.cb,i * 5+2,none⟩=some (.slice X.s3.A X.s3.n X.s3.c)∧wx.cell? ⟨x.cb,i * 5+3,none⟩=some (.slice X.so.A X.so.n X.so.c)∧wx.cell? ⟨x.cb,i * 5+4,none⟩=some (.slice X.sk.A X.sk.n X.sk.c) from fun wx hb=>by
        have hs:=HS7.out.below hb
        obtain⟨g1,g2,g3,g4,g5⟩:=hs.st.c5 hinp
        rw [if_pos rfl] at g1 g2 g3 g4 g5
        exact⟨HT.out.1.below hb HT.out.1.lt,g1,g2,g3,g4,g5⟩)
      have HFR:=Z (show ∀wa wb:World,(∀k,k≠x.vb∧k≠x.kb→wb.heap[k]? = wa.heap[k]?)→(fun wx=>Rw wx (sb) 110 #[O U (x.N:Int),.slice x.wires.A x.wires.n x.wires.c,.slice x.feeds.A x.feeds.n x.feeds.c,O U z.g.least,.slice x.fon.A x.feeds.n x.fon.c,.slice x.sw.A x.sw.n x.sw.c,.slice lA rn lc,.slice rA rn rc,.slice (some ⟨pb,0,none⟩) pn pc,.slice x.pof.A x.pof.n x.pof.c,.slice (some ⟨x.cb,0,none⟩) x.np x.np,.slice (some ⟨x.vb,0,none⟩) x.np x.np,.slice (some ⟨x.kb,0,none⟩) x.np x.np]∧wx.cell? ⟨x.cb,i * 5,none⟩=some (.slice X.s1.A X.s1.n X.s1.c)∧wx.cell? ⟨x.cb,i * 5+1,none⟩=some (.slice X.s2.A X.s2.n X.s2.c)∧wx.cell? ⟨x.cb,i * 5+2,none⟩=some (.slice X.s3.A X.s3.n X.s3.c)∧wx.cell? ⟨x.cb,i * 5+3,none⟩=some (.slice X.so.A X.so.n X.so.c)∧wx.cell? ⟨x.cb,i * 5+4,none⟩=some (.slice X.sk.A X.sk.n X.sk.c)) wa→(fun wx=>Rw wx (sb) 110 #[O U (x.N:Int),.slice x.wires.A x.wires.n x.wires.c,.slice x.feeds.A x.feeds.n x.feeds.c,O U z.g.least,.slice x.fon.A x.feeds.n x.fon.c,.slice x.sw.A x.sw.n x.sw.c,.slice lA rn lc,.slice rA rn rc,.slice (some ⟨pb,0,none⟩) pn pc,.slice x.pof.A x.pof.n x.pof.c,.slice (some ⟨x.cb,0,none⟩) x.np x.np,.slice (some ⟨x.vb,0,none⟩) x.np x.np,.slice (some ⟨x.kb,0,none⟩) x.np x.np]∧wx.cell? ⟨x.cb,i * 5,none⟩=some (.slice X.s1.A X.s1.n X.s1.c)∧wx.cell? ⟨x.cb,i * 5+1,none⟩=some (.slice X.s2.A X.s2.n X.s2.c)∧wx.cell? ⟨x.cb,i * 5+2,none⟩=some (.slice X.s3.A X.s3.n X.s3.c)∧wx.cell? ⟨x.cb,i * 5+3,none⟩=some (.slice X.so.A X.so.n X.so.c)∧wx.cell? ⟨x.cb,i * 5+4,none⟩=some (.slice X.sk.A X.sk.n X.sk.c)) wb from fun wa wb hk hh=>
        have h1:=hk x.cb ⟨HNE.out.cv,HNE.out.ck⟩
        ⟨(hk sb ⟨Ne.symm HNE.out.v,Ne.symm HNE.out.k⟩).trans hh.1,far_cell h1 hh.2.1,far_cell h1 hh.2.2.1,far_cell h1 hh.2.2.2.1,far_cell h1 hh.2.2.2.2.1,far_cell h1 hh.2.2.2.2.2⟩)
      go_upto_region 8 with (fail)
      have hbq:Below w7.heap.size w7 w7.drew:=(Below.refl _ _).drew
      have HS:=Z (show (fun wx=>Rw wx (sb) 110 #[O U (x.N:Int),.slice x.wires.A x.wires.n x.wires.c,.slice x.feeds.A x.feeds.n x.feeds.c,O U z.g.least,.slice x.fon.A x.feeds.n x.fon.c,.slice x.sw.A x.sw.n x.sw.c,.slice lA rn lc,.slice rA rn rc,.slice (some ⟨pb,0,none⟩) pn pc,.slice x.pof.A x.pof.n x.pof.c,.slice (some ⟨x.cb,0,none⟩) x.np x.np,.slice (some ⟨x.vb,0,none⟩) x.np x.np,.slice (some ⟨x.kb,0,none⟩) x.np x.np]∧wx.cell? ⟨x.cb,i * 5,none⟩=some (.slice X.s1.A X.s1.n X.s1.c)∧wx.cell? ⟨x.cb,i * 5+1,none⟩=some (.slice X.s2.A X.s2.n X.s2.c)∧wx.cell? ⟨x.cb,i * 5+2,none⟩=some (.slice X.s3.A X.s3.n X.s3.c)∧wx.cell? ⟨x.cb,i * 5+3,none⟩=some (.slice X.so.A X.so.n X.so.c)∧wx.cell? ⟨x.cb,i * 5+4,none⟩=some (.slice X.sk.A X.sk.n X.sk.c)) w7.drew from HRS8.out _ hbq)
      refine wp_region_noPanic ?_
      refine wp_region_held_drew (S:=fun wx=>Rw wx (sb) 110 #[O U (x.N:Int),.slice x.wires.A x.wires.n x.wires.c,.slice x.feeds.A x.feeds.n x.feeds.c,O U z.g.least,.slice x.fon.A x.feeds.n x.fon.c,.slice x.sw.A x.sw.n x.sw.c,.slice lA rn lc,.slice rA rn rc,.slice (some ⟨pb,0,none⟩) pn pc,.slice x.pof.A x.pof.n x.pof.c,.slice (some ⟨x.cb,0,none⟩) x.np x.np,.slice (some ⟨x.vb,0,none⟩) x.np x.np,.slice (some ⟨x.kb,0,none⟩) x.np x.np]∧wx.cell? ⟨x.cb,i * 5,none⟩=some (.slice X.s1.A X.s1.n X.s1.c)∧wx.cell? ⟨x.cb,i * 5+1,none⟩=some (.slice X.s2.A X.s2.n X.s2.c)∧wx.cell? ⟨x.cb,i * 5+2,none⟩=some (.slice X.s3.A X.s3.n X.s3.c)∧wx.cell? ⟨x.cb,i * 5+3,none⟩=some (.slice X.so.A X.so.n X.so.c)∧wx.cell? ⟨x.cb,i * 5+4,none⟩=some (.slice X.sk.A X.sk.n X.sk.c)) (by kernel_rfl) HS.out (fun _=> ?_)
      refine hTk (i:=0) (d:=54) (v:= .pointer (some ⟨sb,0,none⟩)) rfl rfl (Or.inl ⟨rfl,by rintro W' ⟨r0,r1,r2,r3,r4,r5⟩;have ry0:=r0.cell;go_simp⟩) HS.out ?_
      simp only [Act.put,sB,sZ,sS]
      refine hTk (i:=1) (d:=55) (v:= .pointer (some ⟨sb,0,none⟩)) rfl rfl (Or.inl ⟨rfl,by rintro W' ⟨r0,r1,r2,r3,r4,r5⟩;have ry0:=r0.cell;go_simp⟩) HS.out ?_
      simp only [Act.put,sB,sZ,sS]
      refine hTk (i:=2) (d:=56) (v:= .pointer (some ⟨sb,11,none⟩)) rfl rfl (Or.inl ⟨rfl,by rintro W' ⟨r0,r1,r2,r3,r4,r5⟩;have ry0:=r0.cell;go_simp⟩) HS.out ?_
      simp only [Act.put,sB,sZ,sS]
      refine hTk (i:=3) (d:=57) (v:= .slice (some ⟨x.vb,0,none⟩) x.np x.np) rfl rfl (Or.inl ⟨rfl,by rintro W' ⟨r0,r1,r2,r3,r4,r5⟩;have ry0:=r0.cell;go_simp⟩) HS.out ?_
      simp only [Act.put,sB,sZ,sS]
      refine hTk (i:=4) (d:=58) (v:=O U (i:Int)) rfl rfl (Or.inl ⟨rfl,by rintro W' ⟨r0,r1,r2,r3,r4,r5⟩;have ry0:=r0.cell;go_simp⟩) HS.out ?_
      simp only [Act.put,sB,sZ,sS]
      refine hTk (i:=5) (d:=59) (v:= .pointer (some ⟨sb,0,none⟩)) rfl rfl (Or.inl ⟨rfl,by rintro W' ⟨r0,r1,r2,r3,r4,r5⟩;have ry0:=r0.cell;go_simp⟩) HS.out ?_
      simp only [Act.put,sB,sZ,sS]
      refine hTk (i:=6) (d:=60) (v:= .pointer (some ⟨sb,0,none⟩)) rfl rfl (Or.inl ⟨rfl,by rintro W' ⟨r0,r1,r2,r3,r4,r5⟩;have ry0:=r0.cell;go_simp⟩) HS.out ?_
      simp only [Act.put,sB,sZ,sS]
      refine hTk (i:=7) (d:=61) (v:= .pointer (some ⟨sb,12,none⟩)) rfl rfl (Or.inl ⟨rfl,by rintro W' ⟨r0,r1,r2,r3,r4,r5⟩;have ry0:=r0.cell;go_simp⟩) HS.out ?_
      simp only [Act.put,sB,sZ,sS]
      refine hTk (i:=8) (d:=62) (v:= .slice (some ⟨x.kb,0,none⟩) x.np x.np) rfl rfl (Or.inl ⟨rfl,by rintro W' ⟨r0,r1,r2,r3,r4,r5⟩;have ry0:=r0.cell;go_simp⟩) HS.out ?_
      simp only [Act.put,sB,sZ,sS]
      refine hTk (i:=9) (d:=63) (v:=O U (i:Int)) rfl rfl (Or.inl ⟨rfl,by rintro W' ⟨r0,r1,r2,r3,r4,r5⟩;have ry0:=r0.cell;go_simp⟩) HS.out ?_
      simp only [Act.put,sB,sZ,sS]
      refine hTk (i:=10) (d:=64) (v:= .pointer (some ⟨sb,0,none⟩)) rfl rfl (Or.inl ⟨rfl,by rintro W' ⟨r0,r1,r2,r3,r4,r5⟩;have ry0:=r0.cell;go_simp⟩) HS.out ?_
      simp only [Act.put,sB,sZ,sS]
      refine hTk (i:=11) (d:=65) (v:= .pointer (some ⟨sb,0,none⟩)) rfl rfl (Or.inl ⟨rfl,by rintro W' ⟨r0,r1,r2,r3,r4,r5⟩;have ry0:=r0.cell;go_simp⟩) HS.out ?_
      simp only [Act.put,sB,sZ,sS]
      refine hTk (i:=12) (d:=66) (v:= .pointer (some ⟨sb,10,none⟩)) rfl rfl (Or.inl ⟨rfl,by rintro W' ⟨r0,r1,r2,r3,r4,r5⟩;have ry0:=r0.cell;go_simp⟩) HS.out ?_
      simp only [Act.put,sB,sZ,sS]
      refine hTk (i:=13) (d:=67) (v:= .slice (some ⟨x.cb,0,none⟩) x.np x.np) rfl rfl (Or.inl ⟨rfl,by rintro W' ⟨r0,r1,r2,r3,r4,r5⟩;have ry0:=r0.cell;go_simp⟩) HS.out ?_
      simp only [Act.put,sB,sZ,sS]
      refine hTk (i:=14) (d:=68) (v:=O U (i:Int)) rfl rfl (Or.inl ⟨rfl,by rintro W' ⟨r0,r1,r2,r3,r4,r5⟩;have ry0:=r0.cell;go_simp⟩) HS.out ?_
      simp only [Act.put,sB,sZ,sS]
      refine hTk (i:=15) (d:=69) (v:= .pointer (some ⟨x.cb,i * 5,none⟩)) rfl rfl (Or.inl ⟨rfl,by rintro W' ⟨r0,r1,r2,r3,r4,r5⟩;have ry0:=r0.cell;go_simp⟩) HS.out ?_
      simp only [Act.put,sB,sZ,sS]
      refine hTk (i:=16) (d:=70) (v:= .agg #[.slice X.s1.A X.s1.n X.s1.c,.slice X.s2.A X.s2.n X.s2.c,.slice X.s3.A X.s3.n X.s3.c,.slice X.so.A X.so.n X.so.c,.slice X.sk.A X.sk.n X.sk.c]) rfl rfl (Or.inl ⟨rfl,by rintro W' ⟨r0,r1,r2,r3,r4,r5⟩;have ry0:=r0.cell;go_simp⟩) HS.out ?_
      simp only [Act.put,sB,sZ,sS]
      refine wpAnyH_ready (rs:= [17]) (by kernel_rfl) (by simp) ?_
      refine AllReadyH.cons rfl (fun K hK=> ?_) AllReadyH.nil
      rw [if_pos (by rfl)]
      go_simp
      go_at_call 109
      (with_reducible refine (HSO.out _ hbq).mono ?_)
      rintro e wc0 ⟨Y,ok,rfl,hsol,hbn⟩
      have hs8:=HS7.out.below (hbq.trans (hbn.mono hbq.size))
      have hsol8:=Z hsol
      replace hbq:=hbq.trans (hbn.mono hbq.size)
      have HPC8:=Z (HPC7.out.ky (Ky.of_below hbq HS7.out.bw))
      have HW8:=Z (HW7.out.below hbq)
      clear hbn hsol
      have HS:=Z (show (fun wx=>Rw wx (sb) 110 #[O U (x.N:Int),.slice x.wires.A x.wires.n x.wires.c,.slice x.feeds.A x.feeds.n x.feeds.c,O U z.g.least,.slice x.fon.A x.feeds.n x.fon.c,.slice x.sw.A x.sw.n x.sw.c,.slice lA rn lc,.slice rA rn rc,.slice (some ⟨pb,0,none⟩) pn pc,.slice x.pof.A x.pof.n x.pof.c,.slice (some ⟨x.cb,0,none⟩) x.np x.np,.slice (some ⟨x.vb,0,none⟩) x.np x.np,.slice (some ⟨x.kb,0,none⟩) x.np x.np]∧wx.cell? ⟨x.cb,i * 5,none⟩=some (.slice X.s1.A X.s1.n X.s1.c)∧wx.cell? ⟨x.cb,i * 5+1,none⟩=some (.slice X.s2.A X.s2.n X.s2.c)∧wx.cell? ⟨x.cb,i * 5+2,none⟩=some (.slice X.s3.A X.s3.n X.s3.c)∧wx.cell? ⟨x.cb,i * 5+3,none⟩=some (.slice X.so.A X.so.n X.so.c)∧wx.cell? ⟨x.cb,i * 5+4,none⟩=some (.slice X.sk.A X.sk.n X.sk.c)) wc0 from HRS8.out _ hbq)
      refine hK.out _ _ HS.out (fun _=> ?_)
      clear hK K
      try simp only [Act.put,sB,sZ,sS]
      refine hTk (i:=18) (d:=53) (v:= .tuple #[.agg #[.slice Y.sv.A Y.sv.n Y.sv.c,.slice Y.sa.A Y.sa.n Y.sa.c,O U Y.d],.bool ok]) rfl rfl (Or.inl ⟨rfl,by rintro W' ⟨r0,r1,r2,r3,r4,r5⟩;have ry0:=r0.cell;go_simp⟩) HS.out ?_
      simp only [Act.put,sB,sZ,sS]
      refine hTk (i:=19) (d:=72) (v:= .agg #[.slice Y.sv.A Y.sv.n Y.sv.c,.slice Y.sa.A Y.sa.n Y.sa.c,O U Y.d]) rfl rfl (Or.inl ⟨rfl,by rintro W' ⟨r0,r1,r2,r3,r4,r5⟩;have ry0:=r0.cell;go_simp⟩) HS.out ?_
      simp only [Act.put,sB,sZ,sS]
      refine hTk (i:=20) (d:=73) (v:= .bool ok) rfl rfl (Or.inl ⟨rfl,by rintro W' ⟨r0,r1,r2,r3,r4,r5⟩;have ry0:=r0.cell;go_simp⟩) HS.out ?_
      simp only [Act.put,sB,sZ,sS]
      refine hTk (i:=21) (d:=74) (v:= .pointer (some ⟨x.vb,i * 3,none⟩)) rfl rfl (Or.inl ⟨rfl,by rintro W' ⟨r0,r1,r2,r3,r4,r5⟩;have ry0:=r0.cell;go_simp⟩) HS.out ?_
      simp only [Act.put,sB,sZ,sS]
      refine wpAnyH_ready (rs:= [22]) (by kernel_rfl) (by simp) ?_
      refine AllReadyH.cons rfl (fun K hK=> ?_) AllReadyH.nil
      rw [if_pos (by rfl)]
      have hv:=hs8.st.v
      have y0:=hv.cell (show i * 3<x.np * 3 by omega)
      have y1:=hv.cell (show i * 3+1<x.np * 3 by omega)
      have y2:=hv.cell (show i * 3+2<x.np * 3 by omega)
      have f0:=hv.frozen (i * 3)
      have f1:=hv.frozen (i * 3+1)
      have f2:=hv.frozen (i * 3+2)
      go_simp
      clear y0 y1 y2 f0 f1 f2 hv
      have hs9:=hs8.setV i Y
      have ht4:=HW8.out.setV (i * 3) Y.sv.v Y.sa.v (O U Y.d)
      have HT:=Z (show (fun wx=>Rw wx (sb) 110 #[O U (x.N:Int),.slice x.wires.A x.wires.n x.wires.c,.slice x.feeds.A x.feeds.n x.feeds.c,O U z.g.least,.slice x.fon.A x.feeds.n x.fon.c,.slice x.sw.A x.sw.n x.sw.c,.slice lA rn lc,.slice rA rn rc,.slice (some ⟨pb,0,none⟩) pn pc,.slice x.pof.A x.pof.n x.pof.c,.slice (some ⟨x.cb,0,none⟩) x.np x.np,.slice (some ⟨x.vb,0,none⟩) x.np x.np,.slice (some ⟨x.kb,0,none⟩) x.np x.np]∧wx.cell? ⟨x.cb,i * 5,none⟩=some (.slice X.s1.A X.s1.n X.s1.c)∧wx.cell? ⟨x.cb,i * 5+1,none⟩=some (.slice X.s2.A X.s2.n X.s2.c)∧wx.cell? ⟨x.cb,i * 5+2,none⟩=some (.slice X.s3.A X.s3.n X.s3.c)∧wx.cell? ⟨x.cb,i * 5+3,none⟩=some (.slice X.so.A X.so.n X.so.c)∧wx.cell? ⟨x.cb,i * 5+4,none⟩=some (.slice X.sk.A X.sk.n X.sk.c)) (((wc0.setCell ⟨x.vb,i * 3,none⟩ Y.sv.v).setCell ⟨x.vb,i * 3+1,none⟩ Y.sa.v).setCell ⟨x.vb,i * 3+2,none⟩ (O U Y.d)) from HFR.out _ _ (fun k hk=>three_far hk.1) HS.out)
      have HK9:=Z (show Ky B wc0 _ from hs8.kyV i Y)
      unfold Sc.v at hs9 HT HK9 ht4
      obtain⟨w9,hw9⟩:∃z,((wc0.setCell ⟨x.vb,i * 3,none⟩ (.slice Y.sv.A Y.sv.n Y.sv.c)).setCell ⟨x.vb,i * 3+1,none⟩ (.slice Y.sa.A Y.sa.n Y.sa.c)).setCell ⟨x.vb,i * 3+2,none⟩ (O U Y.d)=z:=⟨_,rfl⟩
      rw [hw9] at hs9 HT HK9 ht4 ⊢
      clear hw9 HS
      have HS:=HT
      refine hK.out _ _ HS.out (fun _=> ?_)
      clear hK K
      try simp only [Act.put,sB,sZ,sS]
      refine hTk (i:=23) (d:=75) (v:= .pointer (some ⟨x.kb,i,none⟩)) rfl rfl (Or.inl ⟨rfl,by rintro W' ⟨r0,r1,r2,r3,r4,r5⟩;have ry0:=r0.cell;go_simp⟩) HS.out ?_
      simp only [Act.put,sB,sZ,sS]
      refine wpAnyH_ready (rs:= [24]) (by kernel_rfl) (by simp) ?_
      refine AllReadyH.cons rfl (fun K hK=> ?_) AllReadyH.nil
      rw [if_pos (by rfl)]
      have hk:=hs9.st.k
      have y0:=hk.cell (show i<x.np by omega)
      have f0:=hk.frozen i
      go_simp
      clear y0 f0 hk
      have hs10:=hs9.setK i ok
      have HT2:=Z (show (fun wx=>Rw wx (sb) 110 #[O U (x.N:Int),.slice x.wires.A x.wires.n x.wires.c,.slice x.feeds.A x.feeds.n x.feeds.c,O U z.g.least,.slice x.fon.A x.feeds.n x.fon.c,.slice x.sw.A x.sw.n x.sw.c,.slice lA rn lc,.slice rA rn rc,.slice (some ⟨pb,0,none⟩) pn pc,.slice x.pof.A x.pof.n x.pof.c,.slice (some ⟨x.cb,0,none⟩) x.np x.np,.slice (some ⟨x.vb,0,none⟩) x.np x.np,.slice (some ⟨x.kb,0,none⟩) x.np x.np]∧wx.cell? ⟨x.cb,i * 5,none⟩=some (.slice X.s1.A X.s1.n X.s1.c)∧wx.cell? ⟨x.cb,i * 5+1,none⟩=some (.slice X.s2.A X.s2.n X.s2.c)∧wx.cell? ⟨x.cb,i * 5+2,none⟩=some (.slice X.s3.A X.s3.n X.s3.c)∧wx.cell? ⟨x.cb,i * 5+3,none⟩=some (.slice X.so.A X.so.n X.so.c)∧wx.cell? ⟨x.cb,i * 5+4,none⟩=some (.slice X.sk.A X.sk.n X.sk.c)) (w9.setCell ⟨x.kb,i,none⟩ (.bool ok)) from HFR.out _ _ (fun k hk=>Below.heap_setCell _ _ _ _ hk.2) HS.out)
      have HWR:=Z (ht4.setK i (.bool ok))
      have hk10:=hs9.kyK i ok
      have HFIN:=Z (show ∃(C1:Nat→Ci) (V1:Nat→Vi) (K1:Nat→Bool),StA (w9.setCell ⟨x.kb,i,none⟩ (.bool ok)) B sb x C1 V1 K1 z fon run xs (fun j=>dn j∨j=i) from⟨_,_,_,(hs10.weak (dn':=fun j=>dn j∧j≠i) (fun j hj=>⟨⟨hj,hj.2⟩,hj.2⟩)).add (fun hi=>by
        show PaM _ B (if i=i then X else C i) (if i=i then Y else V i) (if i=i then ok else Km i) _ z fon run i
        rw [if_pos rfl,if_pos rfl,if_pos rfl,HYX.out hi]
        exact⟨(HPC8.out.ky HK9.out).ky hk10,(hsol8.out.ky HK9.out).ky hk10⟩)⟩)
      clear HS
      have HS:=HT2
      refine hK.out _ _ HS.out (fun _=> ?_)
      clear hK K
      try simp only [Act.put,sB,sZ,sS]
      refine wpAnyH_done (by kernel_rfl) ?_ _
      clear HS
      refine NoPanic.normal ?_
      (try simp only [Exit.inBlock,Exit.then])
      refine bodyPost_end (results_none rfl _ _ _) rfl ?_
      obtain⟨C',V',K',hfin⟩:=HFIN.out
      exact⟨rfl,C',V',K',hfin,HWR.out⟩
end Go.Proofs.YtbnfnpakibkboaaGreat
