/- Contracts: least, of both closures. -/
import Derived.Test.YtbnfnpakibkboaaGreatKN
set_option linter.unusedVariables false
set_option linter.unusedSimpArgs false
open Go.Value renaming int→O
open Go.IntKind renaming i64→U
open Go.Lib renaming hid→Z
namespace Go.Proofs.YtbnfnpakibkboaaGreat
open Go.RowKit
set_option maxRecDepth 100000 in
set_option maxHeartbeats 8000000 in
theorem StA.least113C {w:World} {B sb:Nat} {x:SL} {C:Nat→Ci} {V:Nat→Vi} {K':Nat→Bool} {z:Zs} {fon run:List Bool} {xs:List Pm} (h:StA w B sb x C V K' z fon run xs (fun j=>j<z.np)) (hz:z.Ok) (m:Lv→Bool) (g1:Nat)
  (hC:∀wx,Below w.heap.size w wx→∀u∈z.ls,Calls Tryz.prog 113 #[.agg #[O U u.pl,O U u.units,O U u.rank],.pointer (some ⟨g1,0,none⟩)] wx fun e w'=>e= .returned (.bool (m u))∧Below wx.heap.size wx w') :
  Calls Tryz.prog 112 #[.pointer (some ⟨sb,0,none⟩),.func (.func 113) #[] #[.pointer (some ⟨g1,0,none⟩)]] w fun e w'=>e= .returned (.tuple #[O U (leastZ z.ls run m z.ls.length),.bool (decide (0≤leastZ z.ls run m z.ls.length))])∧Below w.heap.size w w':=by
 have hll:=h.ll;have hrn:=h.rn;have hrr:=h.rr.2
 obtain⟨⟨lA,ln,lc⟩,hl⟩:∃s,x.loads=s:=⟨_,rfl⟩
 obtain⟨⟨rA,rn,rc⟩,hru⟩:∃s,x.run=s:=⟨_,rfl⟩
 have hlr:=h.lr;have hRr:=h.rr.1
 rw [hl] at hll hlr
 rw [hru] at hrr hRr
 simp only at hll hrr hlr hRr
 have hle:rn=ln:=by omega
 subst hle
 have hn40:rn≤40:=by have:=loadsB_len hz.lb;have:=hz.n40;omega
 have HR:=Z (show ∀wx,Below w.heap.size w wx→Rw wx sb 110 #[O U (x.N:Int),.slice x.wires.A x.wires.n x.wires.c,.slice x.feeds.A x.feeds.n x.feeds.c,O U z.g.least,.slice x.fon.A x.fon.n x.fon.c,.slice x.sw.A x.sw.n x.sw.c,.slice lA rn lc,.slice rA rn rc,.slice x.parts.A x.parts.n x.parts.c,.slice x.pof.A x.pof.n x.pof.c,.slice (some ⟨x.cb,0,none⟩) x.np x.np,.slice (some ⟨x.vb,0,none⟩) x.np x.np,.slice (some ⟨x.kb,0,none⟩) x.np x.np] from fun wx hb=>by
  have:=(h.below hb).row
  rw [hl,hru,h.le] at this
  exact this)
 have m0:=(HR.out w (Below.refl _ _)).cell
 have HZ:=Z hz;have HL:=Z hlr;have HRU:=Z hRr;have HLL:=Z hll;have HRL:=Z (show run.length=rn by omega);have HC:=Z hC
 clear h hz hlr hRr hll hrn hrr hl hru hC
 go_enter Tryz.func112,Tryz.ntmps112
 go_wp2
 clear m0
 go_loopw [6,14] (fun s6 s14 wr=>∃k:Nat,k≤rn∧s6=O U (leastZ z.ls run m k)∧s14=O U (k:Int)∧Below w.heap.size w wr) (fun _ s14 _=>rn - (intOf s14).toNat)
 case atStart=>exact⟨0,Nat.zero_le _,rfl,rfl,Below.refl _ _⟩
 case round=>
  obtain⟨k,hk,hs6,rfl,hbr⟩:=hrel
  subst hs6
  have HBR:=Z hbr
  have hlt:=leastZ_lt z.ls run m k
  obtain⟨f,hf⟩:∃f,leastZ z.ls run m k=f:=⟨_,rfl⟩
  rw [hf] at hlt ⊢
  have HF:=Z hf
  by_cases hkn:k<rn
  ·have hii:(k:Int)<(rn:Int):=by omega
   have hi0:(0:Int)≤(k:Int):=by omega
   have hab:(k:Int)+1≤1000:=by omega
   have hkl:k<z.ls.length:=by have:=HLL.out;omega
   have hkr:k<run.length:=by have:=HRL.out;omega
   obtain⟨b,o,rfl,gb,c0,c1,c2⟩:=load_at (HL.out.below hbr) hkl
   obtain⟨rb,ro,rfl,grb,d0⟩:=bool_at (HRU.out.below hbr) hkr
   rw [←lvAt_at hkl] at c0 c1 c2
   rw [←runAt_at hkr] at d0
   have hum:lvAt z.ls k∈z.ls:=by rw [lvAt_at hkl];exact List.getElem_mem hkl
   obtain⟨⟨pl,un,rk⟩,hu⟩:∃u,lvAt z.ls k=u:=⟨_,rfl⟩
   rw [hu] at c0 c1 c2 hum
   simp only at c0 c1 c2
   obtain⟨br,hbr2⟩:∃c,runAt run k=c:=⟨_,rfl⟩
   rw [hbr2] at d0
   obtain⟨mm,hmm⟩:∃c,m ⟨pl,un,rk⟩=c:=⟨_,rfl⟩
   have HRN:=Z hbr2;have HMV:=Z (show m (lvAt z.ls k)=mm from by rw [hu];exact hmm);have HRKV:=Z (show (lvAt z.ls k).rank=rk from by rw [hu])
   have HKN:=Z hkn
   have hb3:=(Below.refl wr.heap.size wr).alloc (Nat.le_refl _) (.cells #[O U pl,O U un,O U rk] 79)
   have q3:=Rw.new wr #[O U pl,O U un,O U rk] 79
   obtain⟨w3,hw3⟩:∃y,wr.alloc (.cells #[O U pl,O U un,O U rk] 79)=y:=⟨_,rfl⟩
   rw [hw3] at hb3 q3
   have hbw3:=hbr.trans (hb3.mono hbr.size)
   have HB3:=Z hbw3
   obtain⟨g3,hg3⟩:∃g,wr.heap.size=g:=⟨_,rfl⟩
   rw [hg3] at q3
   have HRQ:=Z (show ∀wx,Below w3.heap.size w3 wx→Rw wx sb 110 #[O U (x.N:Int),.slice x.wires.A x.wires.n x.wires.c,.slice x.feeds.A x.feeds.n x.feeds.c,O U z.g.least,.slice x.fon.A x.fon.n x.fon.c,.slice x.sw.A x.sw.n x.sw.c,.slice (some ⟨b,o,none⟩) rn lc,.slice (some ⟨rb,ro,none⟩) rn rc,.slice x.parts.A x.parts.n x.parts.c,.slice x.pof.A x.pof.n x.pof.c,.slice (some ⟨x.cb,0,none⟩) x.np x.np,.slice (some ⟨x.vb,0,none⟩) x.np x.np,.slice (some ⟨x.kb,0,none⟩) x.np x.np]∧wx.cell? ⟨rb,ro+k,none⟩=some (.bool br)∧Rw wx g3 79 #[O U pl,O U un,O U rk] from fun wx hb=>
    ⟨HR.out wx (hbw3.trans (hb.mono hbw3.size)),far_cell (hb.5 rb (by have:=hb3.size;have:=hbr.size;omega)) (far_cell (hb3.5 rb (by have:=hbr.size;omega)) d0),q3.below hb q3.lt⟩)
   have HCL:=Z (show ∀wx,Below w3.heap.size w3 wx→Calls Tryz.prog 113 #[.agg #[O U pl,O U un,O U rk],.pointer (some ⟨g1,0,none⟩)] wx fun e w'=>e= .returned (.bool mm)∧Below wx.heap.size wx w' from fun wx hb=>by
    rw [←hmm]
    exact HC.out wx (hbw3.trans (hb.mono hbw3.size)) _ hum)
   have q3c:=q3.cell
   clear hbr hkn hk hkl hkr gb grb d0 hu hum hbr2 hmm hb3 q3 hbw3 hf
   go_upto_region 5 with (fail)
   clear c0 c1 c2 hw3 hg3 q3c
   cases br with
   | false=>
    have hbq:Below w3.heap.size w3 w3.drew:=(Below.refl _ _).drew
    have HRS:=Z (show ∀wx,Below w3.heap.size w3 wx→Rw wx (sb) 110 #[O U (x.N:Int),.slice x.wires.A x.wires.n x.wires.c,.slice x.feeds.A x.feeds.n x.feeds.c,O U z.g.least,.slice x.fon.A x.fon.n x.fon.c,.slice x.sw.A x.sw.n x.sw.c,.slice (some ⟨b,o,none⟩) rn lc,.slice (some ⟨rb,ro,none⟩) rn rc,.slice x.parts.A x.parts.n x.parts.c,.slice x.pof.A x.pof.n x.pof.c,.slice (some ⟨x.cb,0,none⟩) x.np x.np,.slice (some ⟨x.vb,0,none⟩) x.np x.np,.slice (some ⟨x.kb,0,none⟩) x.np x.np]∧wx.cell? ⟨rb,ro+k,none⟩=some (.bool false)∧Rw wx (g3) 79 #[O U pl,O U un,O U rk] from fun wx hb=>by
     obtain⟨h1,h2,h3⟩:=HRQ.out wx hb
     exact⟨h1,h2,h3⟩)
    have HS:=Z (show (fun wx=>Rw wx (sb) 110 #[O U (x.N:Int),.slice x.wires.A x.wires.n x.wires.c,.slice x.feeds.A x.feeds.n x.feeds.c,O U z.g.least,.slice x.fon.A x.fon.n x.fon.c,.slice x.sw.A x.sw.n x.sw.c,.slice (some ⟨b,o,none⟩) rn lc,.slice (some ⟨rb,ro,none⟩) rn rc,.slice x.parts.A x.parts.n x.parts.c,.slice x.pof.A x.pof.n x.pof.c,.slice (some ⟨x.cb,0,none⟩) x.np x.np,.slice (some ⟨x.vb,0,none⟩) x.np x.np,.slice (some ⟨x.kb,0,none⟩) x.np x.np]∧wx.cell? ⟨rb,ro+k,none⟩=some (.bool false)∧Rw wx (g3) 79 #[O U pl,O U un,O U rk]) w3.drew from HRS.out _ hbq)
    refine wp_region_noPanic ?_
    refine wp_region_held_drew (S:=fun wx=>Rw wx (sb) 110 #[O U (x.N:Int),.slice x.wires.A x.wires.n x.wires.c,.slice x.feeds.A x.feeds.n x.feeds.c,O U z.g.least,.slice x.fon.A x.fon.n x.fon.c,.slice x.sw.A x.sw.n x.sw.c,.slice (some ⟨b,o,none⟩) rn lc,.slice (some ⟨rb,ro,none⟩) rn rc,.slice x.parts.A x.parts.n x.parts.c,.slice x.pof.A x.pof.n x.pof.c,.slice (some ⟨x.cb,0,none⟩) x.np x.np,.slice (some ⟨x.vb,0,none⟩) x.np x.np,.slice (some ⟨x.kb,0,none⟩) x.np x.np]∧wx.cell? ⟨rb,ro+k,none⟩=some (.bool false)∧Rw wx (g3) 79 #[O U pl,O U un,O U rk]) (by kernel_rfl) HS.out (fun _=> ?_)
    refine hTk (i:=0) (d:=19) (v:= .pointer (some ⟨sb,0,none⟩)) rfl rfl (Or.inl ⟨rfl,by rintro W' ⟨r0,r1,r2⟩;have ry0:=r0.cell;have ry2:=r2.cell;go_simp⟩) HS.out ?_
    simp only [Act.put,sB,sZ,sS]
    refine hTk (i:=1) (d:=20) (v:= .pointer (some ⟨sb,0,none⟩)) rfl rfl (Or.inl ⟨rfl,by rintro W' ⟨r0,r1,r2⟩;have ry0:=r0.cell;have ry2:=r2.cell;go_simp⟩) HS.out ?_
    simp only [Act.put,sB,sZ,sS]
    refine hTk (i:=2) (d:=21) (v:= .pointer (some ⟨sb,7,none⟩)) rfl rfl (Or.inl ⟨rfl,by rintro W' ⟨r0,r1,r2⟩;have ry0:=r0.cell;have ry2:=r2.cell;go_simp⟩) HS.out ?_
    simp only [Act.put,sB,sZ,sS]
    refine hTk (i:=3) (d:=22) (v:= .slice (some ⟨rb,ro,none⟩) rn rc) rfl rfl (Or.inl ⟨rfl,by rintro W' ⟨r0,r1,r2⟩;have ry0:=r0.cell;have ry2:=r2.cell;go_simp⟩) HS.out ?_
    simp only [Act.put,sB,sZ,sS]
    refine hTk (i:=4) (d:=23) (v:=O U (k:Int)) rfl rfl (Or.inl ⟨rfl,by rintro W' ⟨r0,r1,r2⟩;have ry0:=r0.cell;have ry2:=r2.cell;go_simp⟩) HS.out ?_
    simp only [Act.put,sB,sZ,sS]
    refine hTk (i:=5) (d:=24) (v:= .pointer (some ⟨rb,ro+k,none⟩)) rfl rfl (Or.inl ⟨rfl,by rintro W' ⟨r0,r1,r2⟩;have ry0:=r0.cell;have ry2:=r2.cell;go_simp⟩) HS.out ?_
    simp only [Act.put,sB,sZ,sS]
    refine hTk (i:=6) (d:=25) (v:= .bool false) rfl rfl (Or.inl ⟨rfl,by rintro W' ⟨r0,r1,r2⟩;have ry0:=r0.cell;have ry2:=r2.cell;go_simp⟩) HS.out ?_
    simp only [Act.put,sB,sZ,sS]
    refine hTk (i:=7) (d:=26) (v:= .bool false) rfl rfl (Or.inl ⟨rfl,by rintro W' ⟨r0,r1,r2⟩;have ry0:=r0.cell;have ry2:=r2.cell;go_simp⟩) HS.out ?_
    simp only [Act.put,sB,sZ,sS]
    refine hTk (i:=8) (d:=27) (v:=undef) rfl rfl (Or.inr ⟨rfl,rfl⟩) HS.out ?_
    simp only [Act.put,sB,sZ,sS]
    refine hTk (i:=9) (d:=28) (v:=undef) rfl rfl (Or.inr ⟨rfl,rfl⟩) HS.out ?_
    simp only [Act.put,sB,sZ,sS]
    refine hTk (i:=10) (d:=29) (v:=undef) rfl rfl (Or.inr ⟨rfl,rfl⟩) HS.out ?_
    simp only [Act.put,sB,sZ,sS]
    refine hTk (i:=11) (d:=30) (v:= .bool false) rfl rfl (Or.inl ⟨rfl,by rintro W' ⟨r0,r1,r2⟩;have ry0:=r0.cell;have ry2:=r2.cell;go_simp⟩) HS.out ?_
    simp only [Act.put,sB,sZ,sS]
    refine hTk (i:=12) (d:=31) (v:= .bool false) rfl rfl (Or.inl ⟨rfl,by rintro W' ⟨r0,r1,r2⟩;have ry0:=r0.cell;have ry2:=r2.cell;go_simp⟩) HS.out ?_
    simp only [Act.put,sB,sZ,sS]
    refine hTk (i:=13) (d:=32) (v:=undef) rfl rfl (Or.inr ⟨rfl,rfl⟩) HS.out ?_
    simp only [Act.put,sB,sZ,sS]
    refine hTk (i:=14) (d:=33) (v:=undef) rfl rfl (Or.inr ⟨rfl,rfl⟩) HS.out ?_
    simp only [Act.put,sB,sZ,sS]
    refine hTk (i:=15) (d:=34) (v:=undef) rfl rfl (Or.inr ⟨rfl,rfl⟩) HS.out ?_
    simp only [Act.put,sB,sZ,sS]
    refine hTk (i:=16) (d:=35) (v:=undef) rfl rfl (Or.inr ⟨rfl,rfl⟩) HS.out ?_
    simp only [Act.put,sB,sZ,sS]
    refine hTk (i:=17) (d:=36) (v:=undef) rfl rfl (Or.inr ⟨rfl,rfl⟩) HS.out ?_
    simp only [Act.put,sB,sZ,sS]
    refine hTk (i:=18) (d:=37) (v:=undef) rfl rfl (Or.inr ⟨rfl,rfl⟩) HS.out ?_
    simp only [Act.put,sB,sZ,sS]
    refine hTk (i:=19) (d:=38) (v:=undef) rfl rfl (Or.inr ⟨rfl,rfl⟩) HS.out ?_
    simp only [Act.put,sB,sZ,sS]
    refine hTk (i:=20) (d:=39) (v:=undef) rfl rfl (Or.inr ⟨rfl,rfl⟩) HS.out ?_
    simp only [Act.put,sB,sZ,sS]
    refine hTk (i:=21) (d:=40) (v:=undef) rfl rfl (Or.inr ⟨rfl,rfl⟩) HS.out ?_
    simp only [Act.put,sB,sZ,sS]
    refine hTk (i:=22) (d:=41) (v:=undef) rfl rfl (Or.inr ⟨rfl,rfl⟩) HS.out ?_
    simp only [Act.put,sB,sZ,sS]
    refine hTk (i:=23) (d:=42) (v:=undef) rfl rfl (Or.inr ⟨rfl,rfl⟩) HS.out ?_
    simp only [Act.put,sB,sZ,sS]
    refine hTk (i:=24) (d:=43) (v:=undef) rfl rfl (Or.inr ⟨rfl,rfl⟩) HS.out ?_
    simp only [Act.put,sB,sZ,sS]
    refine hTk (i:=25) (d:=44) (v:=undef) rfl rfl (Or.inr ⟨rfl,rfl⟩) HS.out ?_
    simp only [Act.put,sB,sZ,sS]
    refine hTk (i:=26) (d:=45) (v:=undef) rfl rfl (Or.inr ⟨rfl,rfl⟩) HS.out ?_
    simp only [Act.put,sB,sZ,sS]
    refine hTk (i:=27) (d:=46) (v:=undef) rfl rfl (Or.inr ⟨rfl,rfl⟩) HS.out ?_
    simp only [Act.put,sB,sZ,sS]
    refine hTk (i:=28) (d:=47) (v:= .bool false) rfl rfl (Or.inl ⟨rfl,by rintro W' ⟨r0,r1,r2⟩;have ry0:=r0.cell;have ry2:=r2.cell;go_simp⟩) HS.out ?_
    simp only [Act.put,sB,sZ,sS]
    refine wpAnyH_done (by kernel_rfl) ?_ _
    clear HS
    refine NoPanic.normal ?_
    (try simp only [Exit.inBlock,Exit.then])
    have HBD:=Z (show Below w.heap.size w w3.drew from HB3.out.trans (hbq.mono HB3.out.size))
    have HST:=Z (show leastZ z.ls run m (k+1)=f from by unfold leastZ;rw [HRN.out];exact HF.out)
    clear hbq
    go_wp2
    refine⟨⟨k+1,by have:=HKN.out;omega,by rw [HST.out],by simp,HBD.out⟩, ?_⟩
    exact round_less HKN.out
   | true=>
    cases mm with
    | false=>
     have hbq:Below w3.heap.size w3 w3.drew:=(Below.refl _ _).drew
     have HRS:=Z (show ∀wx,Below w3.heap.size w3 wx→Rw wx (sb) 110 #[O U (x.N:Int),.slice x.wires.A x.wires.n x.wires.c,.slice x.feeds.A x.feeds.n x.feeds.c,O U z.g.least,.slice x.fon.A x.fon.n x.fon.c,.slice x.sw.A x.sw.n x.sw.c,.slice (some ⟨b,o,none⟩) rn lc,.slice (some ⟨rb,ro,none⟩) rn rc,.slice x.parts.A x.parts.n x.parts.c,.slice x.pof.A x.pof.n x.pof.c,.slice (some ⟨x.cb,0,none⟩) x.np x.np,.slice (some ⟨x.vb,0,none⟩) x.np x.np,.slice (some ⟨x.kb,0,none⟩) x.np x.np]∧wx.cell? ⟨rb,ro+k,none⟩=some (.bool true)∧Rw wx (g3) 79 #[O U pl,O U un,O U rk] from fun wx hb=>by
      obtain⟨h1,h2,h3⟩:=HRQ.out wx hb
      exact⟨h1,h2,h3⟩)
     have HS:=Z (show (fun wx=>Rw wx (sb) 110 #[O U (x.N:Int),.slice x.wires.A x.wires.n x.wires.c,.slice x.feeds.A x.feeds.n x.feeds.c,O U z.g.least,.slice x.fon.A x.fon.n x.fon.c,.slice x.sw.A x.sw.n x.sw.c,.slice (some ⟨b,o,none⟩) rn lc,.slice (some ⟨rb,ro,none⟩) rn rc,.slice x.parts.A x.parts.n x.parts.c,.slice x.pof.A x.pof.n x.pof.c,.slice (some ⟨x.cb,0,none⟩) x.np x.np,.slice (some ⟨x.vb,0,none⟩) x.np x.np,.slice (some ⟨x.kb,0,none⟩) x.np x.np]∧wx.cell? ⟨rb,ro+k,none⟩=some (.bool true)∧Rw wx (g3) 79 #[O U pl,O U un,O U rk]) w3.drew from HRS.out _ hbq)
     refine wp_region_noPanic ?_
     refine wp_region_held_drew (S:=fun wx=>Rw wx (sb) 110 #[O U (x.N:Int),.slice x.wires.A x.wires.n x.wires.c,.slice x.feeds.A x.feeds.n x.feeds.c,O U z.g.least,.slice x.fon.A x.fon.n x.fon.c,.slice x.sw.A x.sw.n x.sw.c,.slice (some ⟨b,o,none⟩) rn lc,.slice (some ⟨rb,ro,none⟩) rn rc,.slice x.parts.A x.parts.n x.parts.c,.slice x.pof.A x.pof.n x.pof.c,.slice (some ⟨x.cb,0,none⟩) x.np x.np,.slice (some ⟨x.vb,0,none⟩) x.np x.np,.slice (some ⟨x.kb,0,none⟩) x.np x.np]∧wx.cell? ⟨rb,ro+k,none⟩=some (.bool true)∧Rw wx (g3) 79 #[O U pl,O U un,O U rk]) (by kernel_rfl) HS.out (fun _=> ?_)
     refine hTk (i:=0) (d:=19) (v:= .pointer (some ⟨sb,0,none⟩)) rfl rfl (Or.inl ⟨rfl,by rintro W' ⟨r0,r1,r2⟩;have ry0:=r0.cell;have ry2:=r2.cell;go_simp⟩) HS.out ?_
     simp only [Act.put,sB,sZ,sS]
     refine hTk (i:=1) (d:=20) (v:= .pointer (some ⟨sb,0,none⟩)) rfl rfl (Or.inl ⟨rfl,by rintro W' ⟨r0,r1,r2⟩;have ry0:=r0.cell;have ry2:=r2.cell;go_simp⟩) HS.out ?_
     simp only [Act.put,sB,sZ,sS]
     refine hTk (i:=2) (d:=21) (v:= .pointer (some ⟨sb,7,none⟩)) rfl rfl (Or.inl ⟨rfl,by rintro W' ⟨r0,r1,r2⟩;have ry0:=r0.cell;have ry2:=r2.cell;go_simp⟩) HS.out ?_
     simp only [Act.put,sB,sZ,sS]
     refine hTk (i:=3) (d:=22) (v:= .slice (some ⟨rb,ro,none⟩) rn rc) rfl rfl (Or.inl ⟨rfl,by rintro W' ⟨r0,r1,r2⟩;have ry0:=r0.cell;have ry2:=r2.cell;go_simp⟩) HS.out ?_
     simp only [Act.put,sB,sZ,sS]
     refine hTk (i:=4) (d:=23) (v:=O U (k:Int)) rfl rfl (Or.inl ⟨rfl,by rintro W' ⟨r0,r1,r2⟩;have ry0:=r0.cell;have ry2:=r2.cell;go_simp⟩) HS.out ?_
     simp only [Act.put,sB,sZ,sS]
     refine hTk (i:=5) (d:=24) (v:= .pointer (some ⟨rb,ro+k,none⟩)) rfl rfl (Or.inl ⟨rfl,by rintro W' ⟨r0,r1,r2⟩;have ry0:=r0.cell;have ry2:=r2.cell;go_simp⟩) HS.out ?_
     simp only [Act.put,sB,sZ,sS]
     refine hTk (i:=6) (d:=25) (v:= .bool true) rfl rfl (Or.inl ⟨rfl,by rintro W' ⟨r0,r1,r2⟩;have ry0:=r0.cell;have ry2:=r2.cell;go_simp⟩) HS.out ?_
     simp only [Act.put,sB,sZ,sS]
     refine hTk (i:=7) (d:=26) (v:= .bool true) rfl rfl (Or.inl ⟨rfl,by rintro W' ⟨r0,r1,r2⟩;have ry0:=r0.cell;have ry2:=r2.cell;go_simp⟩) HS.out ?_
     simp only [Act.put,sB,sZ,sS]
     refine hTk (i:=8) (d:=27) (v:= .func (.func 113) #[] #[.pointer (some ⟨g1,0,none⟩)]) rfl rfl (Or.inl ⟨rfl,by rintro W' ⟨r0,r1,r2⟩;have ry0:=r0.cell;have ry2:=r2.cell;go_simp⟩) HS.out ?_
     simp only [Act.put,sB,sZ,sS]
     refine hTk (i:=9) (d:=28) (v:= .agg #[O U pl,O U un,O U rk]) rfl rfl (Or.inl ⟨rfl,by rintro W' ⟨r0,r1,r2⟩;have ry0:=r0.cell;have ry2:=r2.cell;go_simp⟩) HS.out ?_
     simp only [Act.put,sB,sZ,sS]
     refine wpAnyH_ready (rs:= [10]) (by kernel_rfl) (by simp) ?_
     refine AllReadyH.cons rfl (fun K hK=> ?_) AllReadyH.nil
     rw [if_pos (by rfl)]
     go_simp
     go_at_call 113
     (with_reducible refine (HCL.out _ hbq).mono ?_)
     rintro e wc0 ⟨rfl,hbn⟩
     replace hbq:=hbq.trans (hbn.mono hbq.size)
     clear hbn
     have HS:=Z (show (fun wx=>Rw wx (sb) 110 #[O U (x.N:Int),.slice x.wires.A x.wires.n x.wires.c,.slice x.feeds.A x.feeds.n x.feeds.c,O U z.g.least,.slice x.fon.A x.fon.n x.fon.c,.slice x.sw.A x.sw.n x.sw.c,.slice (some ⟨b,o,none⟩) rn lc,.slice (some ⟨rb,ro,none⟩) rn rc,.slice x.parts.A x.parts.n x.parts.c,.slice x.pof.A x.pof.n x.pof.c,.slice (some ⟨x.cb,0,none⟩) x.np x.np,.slice (some ⟨x.vb,0,none⟩) x.np x.np,.slice (some ⟨x.kb,0,none⟩) x.np x.np]∧wx.cell? ⟨rb,ro+k,none⟩=some (.bool true)∧Rw wx (g3) 79 #[O U pl,O U un,O U rk]) wc0 from HRS.out _ hbq)
     refine hK.out _ _ HS.out (fun _=> ?_)
     clear hK K
     try simp only [Act.put,sB,sZ,sS]
     refine hTk (i:=11) (d:=30) (v:= .bool false) rfl rfl (Or.inl ⟨rfl,by rintro W' ⟨r0,r1,r2⟩;have ry0:=r0.cell;have ry2:=r2.cell;go_simp⟩) HS.out ?_
     simp only [Act.put,sB,sZ,sS]
     refine hTk (i:=12) (d:=31) (v:= .bool false) rfl rfl (Or.inl ⟨rfl,by rintro W' ⟨r0,r1,r2⟩;have ry0:=r0.cell;have ry2:=r2.cell;go_simp⟩) HS.out ?_
     simp only [Act.put,sB,sZ,sS]
     refine hTk (i:=13) (d:=32) (v:=undef) rfl rfl (Or.inr ⟨rfl,rfl⟩) HS.out ?_
     simp only [Act.put,sB,sZ,sS]
     refine hTk (i:=14) (d:=33) (v:=undef) rfl rfl (Or.inr ⟨rfl,rfl⟩) HS.out ?_
     simp only [Act.put,sB,sZ,sS]
     refine hTk (i:=15) (d:=34) (v:=undef) rfl rfl (Or.inr ⟨rfl,rfl⟩) HS.out ?_
     simp only [Act.put,sB,sZ,sS]
     refine hTk (i:=16) (d:=35) (v:=undef) rfl rfl (Or.inr ⟨rfl,rfl⟩) HS.out ?_
     simp only [Act.put,sB,sZ,sS]
     refine hTk (i:=17) (d:=36) (v:=undef) rfl rfl (Or.inr ⟨rfl,rfl⟩) HS.out ?_
     simp only [Act.put,sB,sZ,sS]
     refine hTk (i:=18) (d:=37) (v:=undef) rfl rfl (Or.inr ⟨rfl,rfl⟩) HS.out ?_
     simp only [Act.put,sB,sZ,sS]
     refine hTk (i:=19) (d:=38) (v:=undef) rfl rfl (Or.inr ⟨rfl,rfl⟩) HS.out ?_
     simp only [Act.put,sB,sZ,sS]
     refine hTk (i:=20) (d:=39) (v:=undef) rfl rfl (Or.inr ⟨rfl,rfl⟩) HS.out ?_
     simp only [Act.put,sB,sZ,sS]
     refine hTk (i:=21) (d:=40) (v:=undef) rfl rfl (Or.inr ⟨rfl,rfl⟩) HS.out ?_
     simp only [Act.put,sB,sZ,sS]
     refine hTk (i:=22) (d:=41) (v:=undef) rfl rfl (Or.inr ⟨rfl,rfl⟩) HS.out ?_
     simp only [Act.put,sB,sZ,sS]
     refine hTk (i:=23) (d:=42) (v:=undef) rfl rfl (Or.inr ⟨rfl,rfl⟩) HS.out ?_
     simp only [Act.put,sB,sZ,sS]
     refine hTk (i:=24) (d:=43) (v:=undef) rfl rfl (Or.inr ⟨rfl,rfl⟩) HS.out ?_
     simp only [Act.put,sB,sZ,sS]
     refine hTk (i:=25) (d:=44) (v:=undef) rfl rfl (Or.inr ⟨rfl,rfl⟩) HS.out ?_
     simp only [Act.put,sB,sZ,sS]
     refine hTk (i:=26) (d:=45) (v:=undef) rfl rfl (Or.inr ⟨rfl,rfl⟩) HS.out ?_
     simp only [Act.put,sB,sZ,sS]
     refine hTk (i:=27) (d:=46) (v:=undef) rfl rfl (Or.inr ⟨rfl,rfl⟩) HS.out ?_
     simp only [Act.put,sB,sZ,sS]
     refine hTk (i:=28) (d:=47) (v:= .bool false) rfl rfl (Or.inl ⟨rfl,by rintro W' ⟨r0,r1,r2⟩;have ry0:=r0.cell;have ry2:=r2.cell;go_simp⟩) HS.out ?_
     simp only [Act.put,sB,sZ,sS]
     refine wpAnyH_done (by kernel_rfl) ?_ _
     clear HS
     refine NoPanic.normal ?_
     (try simp only [Exit.inBlock,Exit.then])
     have HBD:=Z (show Below w.heap.size w wc0 from HB3.out.trans (hbq.mono HB3.out.size))
     have HST:=Z (show leastZ z.ls run m (k+1)=f from by unfold leastZ;rw [HRN.out];rw [HMV.out];exact HF.out)
     clear hbq
     go_wp2
     refine⟨⟨k+1,by have:=HKN.out;omega,by rw [HST.out],by simp,HBD.out⟩, ?_⟩
     exact round_less HKN.out
    | true=>
     by_cases hfn:f<0
     ·have HFN:=Z hfn
      have HFK:=Z hlt
      clear hlt
      have hbq:Below w3.heap.size w3 w3.drew:=(Below.refl _ _).drew
      have HRS:=Z (show ∀wx,Below w3.heap.size w3 wx→Rw wx (sb) 110 #[O U (x.N:Int),.slice x.wires.A x.wires.n x.wires.c,.slice x.feeds.A x.feeds.n x.feeds.c,O U z.g.least,.slice x.fon.A x.fon.n x.fon.c,.slice x.sw.A x.sw.n x.sw.c,.slice (some ⟨b,o,none⟩) rn lc,.slice (some ⟨rb,ro,none⟩) rn rc,.slice x.parts.A x.parts.n x.parts.c,.slice x.pof.A x.pof.n x.pof.c,.slice (some ⟨x.cb,0,none⟩) x.np x.np,.slice (some ⟨x.vb,0,none⟩) x.np x.np,.slice (some ⟨x.kb,0,none⟩) x.np x.np]∧wx.cell? ⟨rb,ro+k,none⟩=some (.bool true)∧Rw wx (g3) 79 #[O U pl,O U un,O U rk] from fun wx hb=>by
       obtain⟨h1,h2,h3⟩:=HRQ.out wx hb
       exact⟨h1,h2,h3⟩)
      have HS:=Z (show (fun wx=>Rw wx (sb) 110 #[O U (x.N:Int),.slice x.wires.A x.wires.n x.wires.c,.slice x.feeds.A x.feeds.n x.feeds.c,O U z.g.least,.slice x.fon.A x.fon.n x.fon.c,.slice x.sw.A x.sw.n x.sw.c,.slice (some ⟨b,o,none⟩) rn lc,.slice (some ⟨rb,ro,none⟩) rn rc,.slice x.parts.A x.parts.n x.parts.c,.slice x.pof.A x.pof.n x.pof.c,.slice (some ⟨x.cb,0,none⟩) x.np x.np,.slice (some ⟨x.vb,0,none⟩) x.np x.np,.slice (some ⟨x.kb,0,none⟩) x.np x.np]∧wx.cell? ⟨rb,ro+k,none⟩=some (.bool true)∧Rw wx (g3) 79 #[O U pl,O U un,O U rk]) w3.drew from HRS.out _ hbq)
      refine wp_region_noPanic ?_
      refine wp_region_held_drew (S:=fun wx=>Rw wx (sb) 110 #[O U (x.N:Int),.slice x.wires.A x.wires.n x.wires.c,.slice x.feeds.A x.feeds.n x.feeds.c,O U z.g.least,.slice x.fon.A x.fon.n x.fon.c,.slice x.sw.A x.sw.n x.sw.c,.slice (some ⟨b,o,none⟩) rn lc,.slice (some ⟨rb,ro,none⟩) rn rc,.slice x.parts.A x.parts.n x.parts.c,.slice x.pof.A x.pof.n x.pof.c,.slice (some ⟨x.cb,0,none⟩) x.np x.np,.slice (some ⟨x.vb,0,none⟩) x.np x.np,.slice (some ⟨x.kb,0,none⟩) x.np x.np]∧wx.cell? ⟨rb,ro+k,none⟩=some (.bool true)∧Rw wx (g3) 79 #[O U pl,O U un,O U rk]) (by kernel_rfl) HS.out (fun _=> ?_)
      refine hTk (i:=0) (d:=19) (v:= .pointer (some ⟨sb,0,none⟩)) rfl rfl (Or.inl ⟨rfl,by rintro W' ⟨r0,r1,r2⟩;have ry0:=r0.cell;have ry2:=r2.cell;go_simp⟩) HS.out ?_
      simp only [Act.put,sB,sZ,sS]
      refine hTk (i:=1) (d:=20) (v:= .pointer (some ⟨sb,0,none⟩)) rfl rfl (Or.inl ⟨rfl,by rintro W' ⟨r0,r1,r2⟩;have ry0:=r0.cell;have ry2:=r2.cell;go_simp⟩) HS.out ?_
      simp only [Act.put,sB,sZ,sS]
      refine hTk (i:=2) (d:=21) (v:= .pointer (some ⟨sb,7,none⟩)) rfl rfl (Or.inl ⟨rfl,by rintro W' ⟨r0,r1,r2⟩;have ry0:=r0.cell;have ry2:=r2.cell;go_simp⟩) HS.out ?_
      simp only [Act.put,sB,sZ,sS]
      refine hTk (i:=3) (d:=22) (v:= .slice (some ⟨rb,ro,none⟩) rn rc) rfl rfl (Or.inl ⟨rfl,by rintro W' ⟨r0,r1,r2⟩;have ry0:=r0.cell;have ry2:=r2.cell;go_simp⟩) HS.out ?_
      simp only [Act.put,sB,sZ,sS]
      refine hTk (i:=4) (d:=23) (v:=O U (k:Int)) rfl rfl (Or.inl ⟨rfl,by rintro W' ⟨r0,r1,r2⟩;have ry0:=r0.cell;have ry2:=r2.cell;go_simp⟩) HS.out ?_
      simp only [Act.put,sB,sZ,sS]
      refine hTk (i:=5) (d:=24) (v:= .pointer (some ⟨rb,ro+k,none⟩)) rfl rfl (Or.inl ⟨rfl,by rintro W' ⟨r0,r1,r2⟩;have ry0:=r0.cell;have ry2:=r2.cell;go_simp⟩) HS.out ?_
      simp only [Act.put,sB,sZ,sS]
      refine hTk (i:=6) (d:=25) (v:= .bool true) rfl rfl (Or.inl ⟨rfl,by rintro W' ⟨r0,r1,r2⟩;have ry0:=r0.cell;have ry2:=r2.cell;go_simp⟩) HS.out ?_
      simp only [Act.put,sB,sZ,sS]
      refine hTk (i:=7) (d:=26) (v:= .bool true) rfl rfl (Or.inl ⟨rfl,by rintro W' ⟨r0,r1,r2⟩;have ry0:=r0.cell;have ry2:=r2.cell;go_simp⟩) HS.out ?_
      simp only [Act.put,sB,sZ,sS]
      refine hTk (i:=8) (d:=27) (v:= .func (.func 113) #[] #[.pointer (some ⟨g1,0,none⟩)]) rfl rfl (Or.inl ⟨rfl,by rintro W' ⟨r0,r1,r2⟩;have ry0:=r0.cell;have ry2:=r2.cell;go_simp⟩) HS.out ?_
      simp only [Act.put,sB,sZ,sS]
      refine hTk (i:=9) (d:=28) (v:= .agg #[O U pl,O U un,O U rk]) rfl rfl (Or.inl ⟨rfl,by rintro W' ⟨r0,r1,r2⟩;have ry0:=r0.cell;have ry2:=r2.cell;go_simp⟩) HS.out ?_
      simp only [Act.put,sB,sZ,sS]
      refine wpAnyH_ready (rs:= [10]) (by kernel_rfl) (by simp) ?_
      refine AllReadyH.cons rfl (fun K hK=> ?_) AllReadyH.nil
      rw [if_pos (by rfl)]
      go_simp
      go_at_call 113
      (with_reducible refine (HCL.out _ hbq).mono ?_)
      rintro e wc0 ⟨rfl,hbn⟩
      replace hbq:=hbq.trans (hbn.mono hbq.size)
      clear hbn
      have HS:=Z (show (fun wx=>Rw wx (sb) 110 #[O U (x.N:Int),.slice x.wires.A x.wires.n x.wires.c,.slice x.feeds.A x.feeds.n x.feeds.c,O U z.g.least,.slice x.fon.A x.fon.n x.fon.c,.slice x.sw.A x.sw.n x.sw.c,.slice (some ⟨b,o,none⟩) rn lc,.slice (some ⟨rb,ro,none⟩) rn rc,.slice x.parts.A x.parts.n x.parts.c,.slice x.pof.A x.pof.n x.pof.c,.slice (some ⟨x.cb,0,none⟩) x.np x.np,.slice (some ⟨x.vb,0,none⟩) x.np x.np,.slice (some ⟨x.kb,0,none⟩) x.np x.np]∧wx.cell? ⟨rb,ro+k,none⟩=some (.bool true)∧Rw wx (g3) 79 #[O U pl,O U un,O U rk]) wc0 from HRS.out _ hbq)
      refine hK.out _ _ HS.out (fun _=> ?_)
      clear hK K
      try simp only [Act.put,sB,sZ,sS]
      refine hTk (i:=11) (d:=30) (v:= .bool true) rfl rfl (Or.inl ⟨rfl,by rintro W' ⟨r0,r1,r2⟩;have ry0:=r0.cell;have ry2:=r2.cell;go_simp⟩) HS.out ?_
      simp only [Act.put,sB,sZ,sS]
      refine hTk (i:=12) (d:=31) (v:= .bool true) rfl rfl (Or.inl ⟨rfl,by rintro W' ⟨r0,r1,r2⟩;have ry0:=r0.cell;have ry2:=r2.cell;go_simp⟩) HS.out ?_
      simp only [Act.put,sB,sZ,sS]
      refine hTk (i:=13) (d:=32) (v:=O U f) rfl rfl (Or.inl ⟨rfl,by rintro W' ⟨r0,r1,r2⟩;have ry0:=r0.cell;have ry2:=r2.cell;go_simp⟩) HS.out ?_
      simp only [Act.put,sB,sZ,sS]
      refine hTk (i:=14) (d:=33) (v:= .bool true) rfl rfl (Or.inl ⟨rfl,by rintro W' ⟨r0,r1,r2⟩;have ry0:=r0.cell;have ry2:=r2.cell;go_simp⟩) HS.out ?_
      simp only [Act.put,sB,sZ,sS]
      refine hTk (i:=15) (d:=34) (v:= .bool true) rfl rfl (Or.inl ⟨rfl,by rintro W' ⟨r0,r1,r2⟩;have ry0:=r0.cell;have ry2:=r2.cell;go_simp⟩) HS.out ?_
      simp only [Act.put,sB,sZ,sS]
      refine hTk (i:=16) (d:=35) (v:=undef) rfl rfl (Or.inr ⟨rfl,rfl⟩) HS.out ?_
      simp only [Act.put,sB,sZ,sS]
      refine hTk (i:=17) (d:=36) (v:=undef) rfl rfl (Or.inr ⟨rfl,rfl⟩) HS.out ?_
      simp only [Act.put,sB,sZ,sS]
      refine hTk (i:=18) (d:=37) (v:=undef) rfl rfl (Or.inr ⟨rfl,rfl⟩) HS.out ?_
      simp only [Act.put,sB,sZ,sS]
      refine hTk (i:=19) (d:=38) (v:=undef) rfl rfl (Or.inr ⟨rfl,rfl⟩) HS.out ?_
      simp only [Act.put,sB,sZ,sS]
      refine hTk (i:=20) (d:=39) (v:=undef) rfl rfl (Or.inr ⟨rfl,rfl⟩) HS.out ?_
      simp only [Act.put,sB,sZ,sS]
      refine hTk (i:=21) (d:=40) (v:=undef) rfl rfl (Or.inr ⟨rfl,rfl⟩) HS.out ?_
      simp only [Act.put,sB,sZ,sS]
      refine hTk (i:=22) (d:=41) (v:=undef) rfl rfl (Or.inr ⟨rfl,rfl⟩) HS.out ?_
      simp only [Act.put,sB,sZ,sS]
      refine hTk (i:=23) (d:=42) (v:=undef) rfl rfl (Or.inr ⟨rfl,rfl⟩) HS.out ?_
      simp only [Act.put,sB,sZ,sS]
      refine hTk (i:=24) (d:=43) (v:=undef) rfl rfl (Or.inr ⟨rfl,rfl⟩) HS.out ?_
      simp only [Act.put,sB,sZ,sS]
      refine hTk (i:=25) (d:=44) (v:=undef) rfl rfl (Or.inr ⟨rfl,rfl⟩) HS.out ?_
      simp only [Act.put,sB,sZ,sS]
      refine hTk (i:=26) (d:=45) (v:=undef) rfl rfl (Or.inr ⟨rfl,rfl⟩) HS.out ?_
      simp only [Act.put,sB,sZ,sS]
      refine hTk (i:=27) (d:=46) (v:= .bool true) rfl rfl (Or.inl ⟨rfl,by rintro W' ⟨r0,r1,r2⟩;have ry0:=r0.cell;have ry2:=r2.cell;go_simp⟩) HS.out ?_
      simp only [Act.put,sB,sZ,sS]
      refine hTk (i:=28) (d:=47) (v:= .bool true) rfl rfl (Or.inl ⟨rfl,by rintro W' ⟨r0,r1,r2⟩;have ry0:=r0.cell;have ry2:=r2.cell;go_simp⟩) HS.out ?_
      simp only [Act.put,sB,sZ,sS]
      refine wpAnyH_done (by kernel_rfl) ?_ _
      clear HS
      refine NoPanic.normal ?_
      (try simp only [Exit.inBlock,Exit.then])
      have HBD:=Z (show Below w.heap.size w wc0 from HB3.out.trans (hbq.mono HB3.out.size))
      have HST:=Z (show leastZ z.ls run m (k+1)=(k:Int) from by unfold leastZ;rw [HRN.out];rw [HMV.out,HF.out,decide_eq_true HFN.out];rfl)
      clear hbq
      go_wp2
      refine⟨⟨k+1,by have:=HKN.out;omega,by rw [HST.out],by simp,HBD.out⟩, ?_⟩
      exact round_less HKN.out
     ·have HFN:=Z hfn
      obtain⟨j,rfl⟩:∃j:Nat,f=(j:Int):=⟨f.toNat,by omega⟩
      have hjl:j<z.ls.length:=by have:=HLL.out;have:=HKN.out;omega
      obtain⟨rj,hrj⟩:∃r,(lvAt z.ls j).rank=r:=⟨_,rfl⟩
      have HRJV:=Z hrj
      obtain⟨lb,hlb⟩:∃b,decide (rk≤rj)=b:=⟨_,rfl⟩
      have HLB:=Z hlb
      have HRJ:=Z (show ∀wx,Below w3.heap.size w3 wx→wx.cell? ⟨b,o+j * 3+2,none⟩=some (O U rj) from fun wx hb=>by
       obtain⟨b',o',e,_,_,_,e2⟩:=load_at (HL.out.below (HB3.out.trans (hb.mono HB3.out.size))) hjl
       injection e with e;injection e with e1 e3;subst e1;subst e3
       rw [←lvAt_at hjl,hrj] at e2;exact e2)
      have hj0:(0:Int)≤(j:Int):=by omega
      have hj1:(j:Int)<(rn:Int):=by have:=HKN.out;omega
      clear hfn hlt hjl hrj
      cases lb with
      | false=>
       have hrr:¬rk≤rj:=of_decide_eq_false hlb
       clear hlb
       have hbq:Below w3.heap.size w3 w3.drew:=(Below.refl _ _).drew
       have HRS:=Z (show ∀wx,Below w3.heap.size w3 wx→Rw wx (sb) 110 #[O U (x.N:Int),.slice x.wires.A x.wires.n x.wires.c,.slice x.feeds.A x.feeds.n x.feeds.c,O U z.g.least,.slice x.fon.A x.fon.n x.fon.c,.slice x.sw.A x.sw.n x.sw.c,.slice (some ⟨b,o,none⟩) rn lc,.slice (some ⟨rb,ro,none⟩) rn rc,.slice x.parts.A x.parts.n x.parts.c,.slice x.pof.A x.pof.n x.pof.c,.slice (some ⟨x.cb,0,none⟩) x.np x.np,.slice (some ⟨x.vb,0,none⟩) x.np x.np,.slice (some ⟨x.kb,0,none⟩) x.np x.np]∧wx.cell? ⟨rb,ro+k,none⟩=some (.bool true)∧Rw wx (g3) 79 #[O U pl,O U un,O U rk]∧wx.cell? ⟨b,o+j * 3+2,none⟩=some (O U rj) from fun wx hb=>by
        obtain⟨h1,h2,h3⟩:=HRQ.out wx hb
        exact⟨h1,h2,h3,HRJ.out wx hb⟩)
       have HS:=Z (show (fun wx=>Rw wx (sb) 110 #[O U (x.N:Int),.slice x.wires.A x.wires.n x.wires.c,.slice x.feeds.A x.feeds.n x.feeds.c,O U z.g.least,.slice x.fon.A x.fon.n x.fon.c,.slice x.sw.A x.sw.n x.sw.c,.slice (some ⟨b,o,none⟩) rn lc,.slice (some ⟨rb,ro,none⟩) rn rc,.slice x.parts.A x.parts.n x.parts.c,.slice x.pof.A x.pof.n x.pof.c,.slice (some ⟨x.cb,0,none⟩) x.np x.np,.slice (some ⟨x.vb,0,none⟩) x.np x.np,.slice (some ⟨x.kb,0,none⟩) x.np x.np]∧wx.cell? ⟨rb,ro+k,none⟩=some (.bool true)∧Rw wx (g3) 79 #[O U pl,O U un,O U rk]∧wx.cell? ⟨b,o+j * 3+2,none⟩=some (O U rj)) w3.drew from HRS.out _ hbq)
       refine wp_region_noPanic ?_
       refine wp_region_held_drew (S:=fun wx=>Rw wx (sb) 110 #[O U (x.N:Int),.slice x.wires.A x.wires.n x.wires.c,.slice x.feeds.A x.feeds.n x.feeds.c,O U z.g.least,.slice x.fon.A x.fon.n x.fon.c,.slice x.sw.A x.sw.n x.sw.c,.slice (some ⟨b,o,none⟩) rn lc,.slice (some ⟨rb,ro,none⟩) rn rc,.slice x.parts.A x.parts.n x.parts.c,.slice x.pof.A x.pof.n x.pof.c,.slice (some ⟨x.cb,0,none⟩) x.np x.np,.slice (some ⟨x.vb,0,none⟩) x.np x.np,.slice (some ⟨x.kb,0,none⟩) x.np x.np]∧wx.cell? ⟨rb,ro+k,none⟩=some (.bool true)∧Rw wx (g3) 79 #[O U pl,O U un,O U rk]∧wx.cell? ⟨b,o+j * 3+2,none⟩=some (O U rj)) (by kernel_rfl) HS.out (fun _=> ?_)
       refine hTk (i:=0) (d:=19) (v:= .pointer (some ⟨sb,0,none⟩)) rfl rfl (Or.inl ⟨rfl,by rintro W' ⟨r0,r1,r2,r3⟩;have ry0:=r0.cell;have ry2:=r2.cell;go_simp⟩) HS.out ?_
       simp only [Act.put,sB,sZ,sS]
       refine hTk (i:=1) (d:=20) (v:= .pointer (some ⟨sb,0,none⟩)) rfl rfl (Or.inl ⟨rfl,by rintro W' ⟨r0,r1,r2,r3⟩;have ry0:=r0.cell;have ry2:=r2.cell;go_simp⟩) HS.out ?_
       simp only [Act.put,sB,sZ,sS]
       refine hTk (i:=2) (d:=21) (v:= .pointer (some ⟨sb,7,none⟩)) rfl rfl (Or.inl ⟨rfl,by rintro W' ⟨r0,r1,r2,r3⟩;have ry0:=r0.cell;have ry2:=r2.cell;go_simp⟩) HS.out ?_
       simp only [Act.put,sB,sZ,sS]
       refine hTk (i:=3) (d:=22) (v:= .slice (some ⟨rb,ro,none⟩) rn rc) rfl rfl (Or.inl ⟨rfl,by rintro W' ⟨r0,r1,r2,r3⟩;have ry0:=r0.cell;have ry2:=r2.cell;go_simp⟩) HS.out ?_
       simp only [Act.put,sB,sZ,sS]
       refine hTk (i:=4) (d:=23) (v:=O U (k:Int)) rfl rfl (Or.inl ⟨rfl,by rintro W' ⟨r0,r1,r2,r3⟩;have ry0:=r0.cell;have ry2:=r2.cell;go_simp⟩) HS.out ?_
       simp only [Act.put,sB,sZ,sS]
       refine hTk (i:=5) (d:=24) (v:= .pointer (some ⟨rb,ro+k,none⟩)) rfl rfl (Or.inl ⟨rfl,by rintro W' ⟨r0,r1,r2,r3⟩;have ry0:=r0.cell;have ry2:=r2.cell;go_simp⟩) HS.out ?_
       simp only [Act.put,sB,sZ,sS]
       refine hTk (i:=6) (d:=25) (v:= .bool true) rfl rfl (Or.inl ⟨rfl,by rintro W' ⟨r0,r1,r2,r3⟩;have ry0:=r0.cell;have ry2:=r2.cell;go_simp⟩) HS.out ?_
       simp only [Act.put,sB,sZ,sS]
       refine hTk (i:=7) (d:=26) (v:= .bool true) rfl rfl (Or.inl ⟨rfl,by rintro W' ⟨r0,r1,r2,r3⟩;have ry0:=r0.cell;have ry2:=r2.cell;go_simp⟩) HS.out ?_
       simp only [Act.put,sB,sZ,sS]
       refine hTk (i:=8) (d:=27) (v:= .func (.func 113) #[] #[.pointer (some ⟨g1,0,none⟩)]) rfl rfl (Or.inl ⟨rfl,by rintro W' ⟨r0,r1,r2,r3⟩;have ry0:=r0.cell;have ry2:=r2.cell;go_simp⟩) HS.out ?_
       simp only [Act.put,sB,sZ,sS]
       refine hTk (i:=9) (d:=28) (v:= .agg #[O U pl,O U un,O U rk]) rfl rfl (Or.inl ⟨rfl,by rintro W' ⟨r0,r1,r2,r3⟩;have ry0:=r0.cell;have ry2:=r2.cell;go_simp⟩) HS.out ?_
       simp only [Act.put,sB,sZ,sS]
       refine wpAnyH_ready (rs:= [10]) (by kernel_rfl) (by simp) ?_
       refine AllReadyH.cons rfl (fun K hK=> ?_) AllReadyH.nil
       rw [if_pos (by rfl)]
       go_simp
       go_at_call 113
       (with_reducible refine (HCL.out _ hbq).mono ?_)
       rintro e wc0 ⟨rfl,hbn⟩
       replace hbq:=hbq.trans (hbn.mono hbq.size)
       clear hbn
       have HS:=Z (show (fun wx=>Rw wx (sb) 110 #[O U (x.N:Int),.slice x.wires.A x.wires.n x.wires.c,.slice x.feeds.A x.feeds.n x.feeds.c,O U z.g.least,.slice x.fon.A x.fon.n x.fon.c,.slice x.sw.A x.sw.n x.sw.c,.slice (some ⟨b,o,none⟩) rn lc,.slice (some ⟨rb,ro,none⟩) rn rc,.slice x.parts.A x.parts.n x.parts.c,.slice x.pof.A x.pof.n x.pof.c,.slice (some ⟨x.cb,0,none⟩) x.np x.np,.slice (some ⟨x.vb,0,none⟩) x.np x.np,.slice (some ⟨x.kb,0,none⟩) x.np x.np]∧wx.cell? ⟨rb,ro+k,none⟩=some (.bool true)∧Rw wx (g3) 79 #[O U pl,O U un,O U rk]∧wx.cell? ⟨b,o+j * 3+2,none⟩=some (O U rj)) wc0 from HRS.out _ hbq)
       refine hK.out _ _ HS.out (fun _=> ?_)
       clear hK K
       try simp only [Act.put,sB,sZ,sS]
       refine hTk (i:=11) (d:=30) (v:= .bool true) rfl rfl (Or.inl ⟨rfl,by rintro W' ⟨r0,r1,r2,r3⟩;have ry0:=r0.cell;have ry2:=r2.cell;go_simp⟩) HS.out ?_
       simp only [Act.put,sB,sZ,sS]
       refine hTk (i:=12) (d:=31) (v:= .bool true) rfl rfl (Or.inl ⟨rfl,by rintro W' ⟨r0,r1,r2,r3⟩;have ry0:=r0.cell;have ry2:=r2.cell;go_simp⟩) HS.out ?_
       simp only [Act.put,sB,sZ,sS]
       refine hTk (i:=13) (d:=32) (v:=O U (j:Int)) rfl rfl (Or.inl ⟨rfl,by rintro W' ⟨r0,r1,r2,r3⟩;have ry0:=r0.cell;have ry2:=r2.cell;go_simp⟩) HS.out ?_
       simp only [Act.put,sB,sZ,sS]
       refine hTk (i:=14) (d:=33) (v:= .bool false) rfl rfl (Or.inl ⟨rfl,by rintro W' ⟨r0,r1,r2,r3⟩;have ry0:=r0.cell;have ry2:=r2.cell;go_simp⟩) HS.out ?_
       simp only [Act.put,sB,sZ,sS]
       refine hTk (i:=15) (d:=34) (v:= .bool false) rfl rfl (Or.inl ⟨rfl,by rintro W' ⟨r0,r1,r2,r3⟩;have ry0:=r0.cell;have ry2:=r2.cell;go_simp⟩) HS.out ?_
       simp only [Act.put,sB,sZ,sS]
       refine hTk (i:=16) (d:=35) (v:= .pointer (some ⟨g3,2,none⟩)) rfl rfl (Or.inl ⟨rfl,by rintro W' ⟨r0,r1,r2,r3⟩;have ry0:=r0.cell;have ry2:=r2.cell;go_simp⟩) HS.out ?_
       simp only [Act.put,sB,sZ,sS]
       refine hTk (i:=17) (d:=36) (v:=O U rk) rfl rfl (Or.inl ⟨rfl,by rintro W' ⟨r0,r1,r2,r3⟩;have ry0:=r0.cell;have ry2:=r2.cell;go_simp⟩) HS.out ?_
       simp only [Act.put,sB,sZ,sS]
       refine hTk (i:=18) (d:=37) (v:= .pointer (some ⟨sb,0,none⟩)) rfl rfl (Or.inl ⟨rfl,by rintro W' ⟨r0,r1,r2,r3⟩;have ry0:=r0.cell;have ry2:=r2.cell;go_simp⟩) HS.out ?_
       simp only [Act.put,sB,sZ,sS]
       refine hTk (i:=19) (d:=38) (v:= .pointer (some ⟨sb,0,none⟩)) rfl rfl (Or.inl ⟨rfl,by rintro W' ⟨r0,r1,r2,r3⟩;have ry0:=r0.cell;have ry2:=r2.cell;go_simp⟩) HS.out ?_
       simp only [Act.put,sB,sZ,sS]
       refine hTk (i:=20) (d:=39) (v:= .pointer (some ⟨sb,6,none⟩)) rfl rfl (Or.inl ⟨rfl,by rintro W' ⟨r0,r1,r2,r3⟩;have ry0:=r0.cell;have ry2:=r2.cell;go_simp⟩) HS.out ?_
       simp only [Act.put,sB,sZ,sS]
       refine hTk (i:=21) (d:=40) (v:= .slice (some ⟨b,o,none⟩) rn lc) rfl rfl (Or.inl ⟨rfl,by rintro W' ⟨r0,r1,r2,r3⟩;have ry0:=r0.cell;have ry2:=r2.cell;go_simp⟩) HS.out ?_
       simp only [Act.put,sB,sZ,sS]
       refine hTk (i:=22) (d:=41) (v:=O U (j:Int)) rfl rfl (Or.inl ⟨rfl,by rintro W' ⟨r0,r1,r2,r3⟩;have ry0:=r0.cell;have ry2:=r2.cell;go_simp⟩) HS.out ?_
       simp only [Act.put,sB,sZ,sS]
       refine hTk (i:=23) (d:=42) (v:= .pointer (some ⟨b,o+j * 3,none⟩)) rfl rfl (Or.inl ⟨rfl,by rintro W' ⟨r0,r1,r2,r3⟩;have ry0:=r0.cell;have ry2:=r2.cell;go_simp⟩) HS.out ?_
       simp only [Act.put,sB,sZ,sS]
       refine hTk (i:=24) (d:=43) (v:= .pointer (some ⟨b,o+j * 3+2,none⟩)) rfl rfl (Or.inl ⟨rfl,by rintro W' ⟨r0,r1,r2,r3⟩;have ry0:=r0.cell;have ry2:=r2.cell;go_simp⟩) HS.out ?_
       simp only [Act.put,sB,sZ,sS]
       refine hTk (i:=25) (d:=44) (v:=O U rj) rfl rfl (Or.inl ⟨rfl,by rintro W' ⟨r0,r1,r2,r3⟩;have ry0:=r0.cell;have ry2:=r2.cell;go_simp⟩) HS.out ?_
       simp only [Act.put,sB,sZ,sS]
       refine hTk (i:=26) (d:=45) (v:= .bool false) rfl rfl (Or.inl ⟨rfl,by rintro W' ⟨r0,r1,r2,r3⟩;have ry0:=r0.cell;have ry2:=r2.cell;go_simp⟩) HS.out ?_
       simp only [Act.put,sB,sZ,sS]
       refine hTk (i:=27) (d:=46) (v:= .bool false) rfl rfl (Or.inl ⟨rfl,by rintro W' ⟨r0,r1,r2,r3⟩;have ry0:=r0.cell;have ry2:=r2.cell;go_simp⟩) HS.out ?_
       simp only [Act.put,sB,sZ,sS]
       refine hTk (i:=28) (d:=47) (v:= .bool false) rfl rfl (Or.inl ⟨rfl,by rintro W' ⟨r0,r1,r2,r3⟩;have ry0:=r0.cell;have ry2:=r2.cell;go_simp⟩) HS.out ?_
       simp only [Act.put,sB,sZ,sS]
       refine wpAnyH_done (by kernel_rfl) ?_ _
       clear HS
       refine NoPanic.normal ?_
       (try simp only [Exit.inBlock,Exit.then])
       have HBD:=Z (show Below w.heap.size w wc0 from HB3.out.trans (hbq.mono HB3.out.size))
       have HST:=Z (show leastZ z.ls run m (k+1)=(j:Int) from by unfold leastZ;rw [HRN.out];rw [HMV.out,HF.out,decide_eq_false HFN.out,Int.toNat_natCast,HRKV.out,HRJV.out,HLB.out];rfl)
       clear hbq
       go_wp2
       refine⟨⟨k+1,by have:=HKN.out;omega,by rw [HST.out],by simp,HBD.out⟩, ?_⟩
       exact round_less HKN.out
      | true=>
       have hrr:rk≤rj:=of_decide_eq_true hlb
       clear hlb
       have hbq:Below w3.heap.size w3 w3.drew:=(Below.refl _ _).drew
       have HRS:=Z (show ∀wx,Below w3.heap.size w3 wx→Rw wx (sb) 110 #[O U (x.N:Int),.slice x.wires.A x.wires.n x.wires.c,.slice x.feeds.A x.feeds.n x.feeds.c,O U z.g.least,.slice x.fon.A x.fon.n x.fon.c,.slice x.sw.A x.sw.n x.sw.c,.slice (some ⟨b,o,none⟩) rn lc,.slice (some ⟨rb,ro,none⟩) rn rc,.slice x.parts.A x.parts.n x.parts.c,.slice x.pof.A x.pof.n x.pof.c,.slice (some ⟨x.cb,0,none⟩) x.np x.np,.slice (some ⟨x.vb,0,none⟩) x.np x.np,.slice (some ⟨x.kb,0,none⟩) x.np x.np]∧wx.cell? ⟨rb,ro+k,none⟩=some (.bool true)∧Rw wx (g3) 79 #[O U pl,O U un,O U rk]∧wx.cell? ⟨b,o+j * 3+2,none⟩=some (O U rj) from fun wx hb=>by
        obtain⟨h1,h2,h3⟩:=HRQ.out wx hb
        exact⟨h1,h2,h3,HRJ.out wx hb⟩)
       have HS:=Z (show (fun wx=>Rw wx (sb) 110 #[O U (x.N:Int),.slice x.wires.A x.wires.n x.wires.c,.slice x.feeds.A x.feeds.n x.feeds.c,O U z.g.least,.slice x.fon.A x.fon.n x.fon.c,.slice x.sw.A x.sw.n x.sw.c,.slice (some ⟨b,o,none⟩) rn lc,.slice (some ⟨rb,ro,none⟩) rn rc,.slice x.parts.A x.parts.n x.parts.c,.slice x.pof.A x.pof.n x.pof.c,.slice (some ⟨x.cb,0,none⟩) x.np x.np,.slice (some ⟨x.vb,0,none⟩) x.np x.np,.slice (some ⟨x.kb,0,none⟩) x.np x.np]∧wx.cell? ⟨rb,ro+k,none⟩=some (.bool true)∧Rw wx (g3) 79 #[O U pl,O U un,O U rk]∧wx.cell? ⟨b,o+j * 3+2,none⟩=some (O U rj)) w3.drew from HRS.out _ hbq)
       refine wp_region_noPanic ?_
       refine wp_region_held_drew (S:=fun wx=>Rw wx (sb) 110 #[O U (x.N:Int),.slice x.wires.A x.wires.n x.wires.c,.slice x.feeds.A x.feeds.n x.feeds.c,O U z.g.least,.slice x.fon.A x.fon.n x.fon.c,.slice x.sw.A x.sw.n x.sw.c,.slice (some ⟨b,o,none⟩) rn lc,.slice (some ⟨rb,ro,none⟩) rn rc,.slice x.parts.A x.parts.n x.parts.c,.slice x.pof.A x.pof.n x.pof.c,.slice (some ⟨x.cb,0,none⟩) x.np x.np,.slice (some ⟨x.vb,0,none⟩) x.np x.np,.slice (some ⟨x.kb,0,none⟩) x.np x.np]∧wx.cell? ⟨rb,ro+k,none⟩=some (.bool true)∧Rw wx (g3) 79 #[O U pl,O U un,O U rk]∧wx.cell? ⟨b,o+j * 3+2,none⟩=some (O U rj)) (by kernel_rfl) HS.out (fun _=> ?_)
       refine hTk (i:=0) (d:=19) (v:= .pointer (some ⟨sb,0,none⟩)) rfl rfl (Or.inl ⟨rfl,by rintro W' ⟨r0,r1,r2,r3⟩;have ry0:=r0.cell;have ry2:=r2.cell;go_simp⟩) HS.out ?_
       simp only [Act.put,sB,sZ,sS]
       refine hTk (i:=1) (d:=20) (v:= .pointer (some ⟨sb,0,none⟩)) rfl rfl (Or.inl ⟨rfl,by rintro W' ⟨r0,r1,r2,r3⟩;have ry0:=r0.cell;have ry2:=r2.cell;go_simp⟩) HS.out ?_
       simp only [Act.put,sB,sZ,sS]
       refine hTk (i:=2) (d:=21) (v:= .pointer (some ⟨sb,7,none⟩)) rfl rfl (Or.inl ⟨rfl,by rintro W' ⟨r0,r1,r2,r3⟩;have ry0:=r0.cell;have ry2:=r2.cell;go_simp⟩) HS.out ?_
       simp only [Act.put,sB,sZ,sS]
       refine hTk (i:=3) (d:=22) (v:= .slice (some ⟨rb,ro,none⟩) rn rc) rfl rfl (Or.inl ⟨rfl,by rintro W' ⟨r0,r1,r2,r3⟩;have ry0:=r0.cell;have ry2:=r2.cell;go_simp⟩) HS.out ?_
       simp only [Act.put,sB,sZ,sS]
       refine hTk (i:=4) (d:=23) (v:=O U (k:Int)) rfl rfl (Or.inl ⟨rfl,by rintro W' ⟨r0,r1,r2,r3⟩;have ry0:=r0.cell;have ry2:=r2.cell;go_simp⟩) HS.out ?_
       simp only [Act.put,sB,sZ,sS]
       refine hTk (i:=5) (d:=24) (v:= .pointer (some ⟨rb,ro+k,none⟩)) rfl rfl (Or.inl ⟨rfl,by rintro W' ⟨r0,r1,r2,r3⟩;have ry0:=r0.cell;have ry2:=r2.cell;go_simp⟩) HS.out ?_
       simp only [Act.put,sB,sZ,sS]
       refine hTk (i:=6) (d:=25) (v:= .bool true) rfl rfl (Or.inl ⟨rfl,by rintro W' ⟨r0,r1,r2,r3⟩;have ry0:=r0.cell;have ry2:=r2.cell;go_simp⟩) HS.out ?_
       simp only [Act.put,sB,sZ,sS]
       refine hTk (i:=7) (d:=26) (v:= .bool true) rfl rfl (Or.inl ⟨rfl,by rintro W' ⟨r0,r1,r2,r3⟩;have ry0:=r0.cell;have ry2:=r2.cell;go_simp⟩) HS.out ?_
       simp only [Act.put,sB,sZ,sS]
       refine hTk (i:=8) (d:=27) (v:= .func (.func 113) #[] #[.pointer (some ⟨g1,0,none⟩)]) rfl rfl (Or.inl ⟨rfl,by rintro W' ⟨r0,r1,r2,r3⟩;have ry0:=r0.cell;have ry2:=r2.cell;go_simp⟩) HS.out ?_
       simp only [Act.put,sB,sZ,sS]
       refine hTk (i:=9) (d:=28) (v:= .agg #[O U pl,O U un,O U rk]) rfl rfl (Or.inl ⟨rfl,by rintro W' ⟨r0,r1,r2,r3⟩;have ry0:=r0.cell;have ry2:=r2.cell;go_simp⟩) HS.out ?_
       simp only [Act.put,sB,sZ,sS]
       refine wpAnyH_ready (rs:= [10]) (by kernel_rfl) (by simp) ?_
       refine AllReadyH.cons rfl (fun K hK=> ?_) AllReadyH.nil
       rw [if_pos (by rfl)]
       go_simp
       go_at_call 113
       (with_reducible refine (HCL.out _ hbq).mono ?_)
       rintro e wc0 ⟨rfl,hbn⟩
       replace hbq:=hbq.trans (hbn.mono hbq.size)
       clear hbn
       have HS:=Z (show (fun wx=>Rw wx (sb) 110 #[O U (x.N:Int),.slice x.wires.A x.wires.n x.wires.c,.slice x.feeds.A x.feeds.n x.feeds.c,O U z.g.least,.slice x.fon.A x.fon.n x.fon.c,.slice x.sw.A x.sw.n x.sw.c,.slice (some ⟨b,o,none⟩) rn lc,.slice (some ⟨rb,ro,none⟩) rn rc,.slice x.parts.A x.parts.n x.parts.c,.slice x.pof.A x.pof.n x.pof.c,.slice (some ⟨x.cb,0,none⟩) x.np x.np,.slice (some ⟨x.vb,0,none⟩) x.np x.np,.slice (some ⟨x.kb,0,none⟩) x.np x.np]∧wx.cell? ⟨rb,ro+k,none⟩=some (.bool true)∧Rw wx (g3) 79 #[O U pl,O U un,O U rk]∧wx.cell? ⟨b,o+j * 3+2,none⟩=some (O U rj)) wc0 from HRS.out _ hbq)
       refine hK.out _ _ HS.out (fun _=> ?_)
       clear hK K
       try simp only [Act.put,sB,sZ,sS]
       refine hTk (i:=11) (d:=30) (v:= .bool true) rfl rfl (Or.inl ⟨rfl,by rintro W' ⟨r0,r1,r2,r3⟩;have ry0:=r0.cell;have ry2:=r2.cell;go_simp⟩) HS.out ?_
       simp only [Act.put,sB,sZ,sS]
       refine hTk (i:=12) (d:=31) (v:= .bool true) rfl rfl (Or.inl ⟨rfl,by rintro W' ⟨r0,r1,r2,r3⟩;have ry0:=r0.cell;have ry2:=r2.cell;go_simp⟩) HS.out ?_
       simp only [Act.put,sB,sZ,sS]
       refine hTk (i:=13) (d:=32) (v:=O U (j:Int)) rfl rfl (Or.inl ⟨rfl,by rintro W' ⟨r0,r1,r2,r3⟩;have ry0:=r0.cell;have ry2:=r2.cell;go_simp⟩) HS.out ?_
       simp only [Act.put,sB,sZ,sS]
       refine hTk (i:=14) (d:=33) (v:= .bool false) rfl rfl (Or.inl ⟨rfl,by rintro W' ⟨r0,r1,r2,r3⟩;have ry0:=r0.cell;have ry2:=r2.cell;go_simp⟩) HS.out ?_
       simp only [Act.put,sB,sZ,sS]
       refine hTk (i:=15) (d:=34) (v:= .bool false) rfl rfl (Or.inl ⟨rfl,by rintro W' ⟨r0,r1,r2,r3⟩;have ry0:=r0.cell;have ry2:=r2.cell;go_simp⟩) HS.out ?_
       simp only [Act.put,sB,sZ,sS]
       refine hTk (i:=16) (d:=35) (v:= .pointer (some ⟨g3,2,none⟩)) rfl rfl (Or.inl ⟨rfl,by rintro W' ⟨r0,r1,r2,r3⟩;have ry0:=r0.cell;have ry2:=r2.cell;go_simp⟩) HS.out ?_
       simp only [Act.put,sB,sZ,sS]
       refine hTk (i:=17) (d:=36) (v:=O U rk) rfl rfl (Or.inl ⟨rfl,by rintro W' ⟨r0,r1,r2,r3⟩;have ry0:=r0.cell;have ry2:=r2.cell;go_simp⟩) HS.out ?_
       simp only [Act.put,sB,sZ,sS]
       refine hTk (i:=18) (d:=37) (v:= .pointer (some ⟨sb,0,none⟩)) rfl rfl (Or.inl ⟨rfl,by rintro W' ⟨r0,r1,r2,r3⟩;have ry0:=r0.cell;have ry2:=r2.cell;go_simp⟩) HS.out ?_
       simp only [Act.put,sB,sZ,sS]
       refine hTk (i:=19) (d:=38) (v:= .pointer (some ⟨sb,0,none⟩)) rfl rfl (Or.inl ⟨rfl,by rintro W' ⟨r0,r1,r2,r3⟩;have ry0:=r0.cell;have ry2:=r2.cell;go_simp⟩) HS.out ?_
       simp only [Act.put,sB,sZ,sS]
       refine hTk (i:=20) (d:=39) (v:= .pointer (some ⟨sb,6,none⟩)) rfl rfl (Or.inl ⟨rfl,by rintro W' ⟨r0,r1,r2,r3⟩;have ry0:=r0.cell;have ry2:=r2.cell;go_simp⟩) HS.out ?_
       simp only [Act.put,sB,sZ,sS]
       refine hTk (i:=21) (d:=40) (v:= .slice (some ⟨b,o,none⟩) rn lc) rfl rfl (Or.inl ⟨rfl,by rintro W' ⟨r0,r1,r2,r3⟩;have ry0:=r0.cell;have ry2:=r2.cell;go_simp⟩) HS.out ?_
       simp only [Act.put,sB,sZ,sS]
       refine hTk (i:=22) (d:=41) (v:=O U (j:Int)) rfl rfl (Or.inl ⟨rfl,by rintro W' ⟨r0,r1,r2,r3⟩;have ry0:=r0.cell;have ry2:=r2.cell;go_simp⟩) HS.out ?_
       simp only [Act.put,sB,sZ,sS]
       refine hTk (i:=23) (d:=42) (v:= .pointer (some ⟨b,o+j * 3,none⟩)) rfl rfl (Or.inl ⟨rfl,by rintro W' ⟨r0,r1,r2,r3⟩;have ry0:=r0.cell;have ry2:=r2.cell;go_simp⟩) HS.out ?_
       simp only [Act.put,sB,sZ,sS]
       refine hTk (i:=24) (d:=43) (v:= .pointer (some ⟨b,o+j * 3+2,none⟩)) rfl rfl (Or.inl ⟨rfl,by rintro W' ⟨r0,r1,r2,r3⟩;have ry0:=r0.cell;have ry2:=r2.cell;go_simp⟩) HS.out ?_
       simp only [Act.put,sB,sZ,sS]
       refine hTk (i:=25) (d:=44) (v:=O U rj) rfl rfl (Or.inl ⟨rfl,by rintro W' ⟨r0,r1,r2,r3⟩;have ry0:=r0.cell;have ry2:=r2.cell;go_simp⟩) HS.out ?_
       simp only [Act.put,sB,sZ,sS]
       refine hTk (i:=26) (d:=45) (v:= .bool true) rfl rfl (Or.inl ⟨rfl,by rintro W' ⟨r0,r1,r2,r3⟩;have ry0:=r0.cell;have ry2:=r2.cell;go_simp⟩) HS.out ?_
       simp only [Act.put,sB,sZ,sS]
       refine hTk (i:=27) (d:=46) (v:= .bool true) rfl rfl (Or.inl ⟨rfl,by rintro W' ⟨r0,r1,r2,r3⟩;have ry0:=r0.cell;have ry2:=r2.cell;go_simp⟩) HS.out ?_
       simp only [Act.put,sB,sZ,sS]
       refine hTk (i:=28) (d:=47) (v:= .bool true) rfl rfl (Or.inl ⟨rfl,by rintro W' ⟨r0,r1,r2,r3⟩;have ry0:=r0.cell;have ry2:=r2.cell;go_simp⟩) HS.out ?_
       simp only [Act.put,sB,sZ,sS]
       refine wpAnyH_done (by kernel_rfl) ?_ _
       clear HS
       refine NoPanic.normal ?_
       (try simp only [Exit.inBlock,Exit.then])
       have HBD:=Z (show Below w.heap.size w wc0 from HB3.out.trans (hbq.mono HB3.out.size))
       have HST:=Z (show leastZ z.ls run m (k+1)=(k:Int) from by unfold leastZ;rw [HRN.out];rw [HMV.out,HF.out,decide_eq_false HFN.out,Int.toNat_natCast,HRKV.out,HRJV.out,HLB.out];rfl)
       clear hbq
       go_wp2
       refine⟨⟨k+1,by have:=HKN.out;omega,by rw [HST.out],by simp,HBD.out⟩, ?_⟩
       exact round_less HKN.out
  ·have hii:¬(k:Int)<(rn:Int):=by omega
   have hkk:k=z.ls.length:=by have:=HLL.out;omega
   subst hkk
   have HBE:=Z hbr
   clear hbr hkn hk
   go_wp2
   go_ret2
   exact⟨by first|rfl|(rw [HF.out];rfl),HBE.out⟩
set_option maxRecDepth 100000 in
set_option maxHeartbeats 8000000 in
theorem StA.least115C {w:World} {B sb:Nat} {x:SL} {C:Nat→Ci} {V:Nat→Vi} {K':Nat→Bool} {z:Zs} {fon run:List Bool} {xs:List Pm} (h:StA w B sb x C V K' z fon run xs (fun j=>j<z.np)) (hz:z.Ok) (m:Lv→Bool) (g4 g1:Nat)
  (hC:∀wx,Below w.heap.size w wx→∀u∈z.ls,Calls Tryz.prog 115 #[.agg #[O U u.pl,O U u.units,O U u.rank],.pointer (some ⟨g4,0,none⟩),.pointer (some ⟨g1,0,none⟩)] wx fun e w'=>e= .returned (.bool (m u))∧Below wx.heap.size wx w') :
  Calls Tryz.prog 112 #[.pointer (some ⟨sb,0,none⟩),.func (.func 115) #[] #[.pointer (some ⟨g4,0,none⟩),.pointer (some ⟨g1,0,none⟩)]] w fun e w'=>e= .returned (.tuple #[O U (leastZ z.ls run m z.ls.length),.bool (decide (0≤leastZ z.ls run m z.ls.length))])∧Below w.heap.size w w':=by
 have hll:=h.ll;have hrn:=h.rn;have hrr:=h.rr.2
 obtain⟨⟨lA,ln,lc⟩,hl⟩:∃s,x.loads=s:=⟨_,rfl⟩
 obtain⟨⟨rA,rn,rc⟩,hru⟩:∃s,x.run=s:=⟨_,rfl⟩
 have hlr:=h.lr;have hRr:=h.rr.1
 rw [hl] at hll hlr
 rw [hru] at hrr hRr
 simp only at hll hrr hlr hRr
 have hle:rn=ln:=by omega
 subst hle
 have hn40:rn≤40:=by have:=loadsB_len hz.lb;have:=hz.n40;omega
 have HR:=Z (show ∀wx,Below w.heap.size w wx→Rw wx sb 110 #[O U (x.N:Int),.slice x.wires.A x.wires.n x.wires.c,.slice x.feeds.A x.feeds.n x.feeds.c,O U z.g.least,.slice x.fon.A x.fon.n x.fon.c,.slice x.sw.A x.sw.n x.sw.c,.slice lA rn lc,.slice rA rn rc,.slice x.parts.A x.parts.n x.parts.c,.slice x.pof.A x.pof.n x.pof.c,.slice (some ⟨x.cb,0,none⟩) x.np x.np,.slice (some ⟨x.vb,0,none⟩) x.np x.np,.slice (some ⟨x.kb,0,none⟩) x.np x.np] from fun wx hb=>by
  have:=(h.below hb).row
  rw [hl,hru,h.le] at this
  exact this)
 have m0:=(HR.out w (Below.refl _ _)).cell
 have HZ:=Z hz;have HL:=Z hlr;have HRU:=Z hRr;have HLL:=Z hll;have HRL:=Z (show run.length=rn by omega);have HC:=Z hC
 clear h hz hlr hRr hll hrn hrr hl hru hC
 go_enter Tryz.func112,Tryz.ntmps112
 go_wp2
 clear m0
 go_loopw [6,14] (fun s6 s14 wr=>∃k:Nat,k≤rn∧s6=O U (leastZ z.ls run m k)∧s14=O U (k:Int)∧Below w.heap.size w wr) (fun _ s14 _=>rn - (intOf s14).toNat)
 case atStart=>exact⟨0,Nat.zero_le _,rfl,rfl,Below.refl _ _⟩
 case round=>
  obtain⟨k,hk,hs6,rfl,hbr⟩:=hrel
  subst hs6
  have HBR:=Z hbr
  have hlt:=leastZ_lt z.ls run m k
  obtain⟨f,hf⟩:∃f,leastZ z.ls run m k=f:=⟨_,rfl⟩
  rw [hf] at hlt ⊢
  have HF:=Z hf
  by_cases hkn:k<rn
  ·have hii:(k:Int)<(rn:Int):=by omega
   have hi0:(0:Int)≤(k:Int):=by omega
   have hab:(k:Int)+1≤1000:=by omega
   have hkl:k<z.ls.length:=by have:=HLL.out;omega
   have hkr:k<run.length:=by have:=HRL.out;omega
   obtain⟨b,o,rfl,gb,c0,c1,c2⟩:=load_at (HL.out.below hbr) hkl
   obtain⟨rb,ro,rfl,grb,d0⟩:=bool_at (HRU.out.below hbr) hkr
   rw [←lvAt_at hkl] at c0 c1 c2
   rw [←runAt_at hkr] at d0
   have hum:lvAt z.ls k∈z.ls:=by rw [lvAt_at hkl];exact List.getElem_mem hkl
   obtain⟨⟨pl,un,rk⟩,hu⟩:∃u,lvAt z.ls k=u:=⟨_,rfl⟩
   rw [hu] at c0 c1 c2 hum
   simp only at c0 c1 c2
   obtain⟨br,hbr2⟩:∃c,runAt run k=c:=⟨_,rfl⟩
   rw [hbr2] at d0
   obtain⟨mm,hmm⟩:∃c,m ⟨pl,un,rk⟩=c:=⟨_,rfl⟩
   have HRN:=Z hbr2;have HMV:=Z (show m (lvAt z.ls k)=mm from by rw [hu];exact hmm);have HRKV:=Z (show (lvAt z.ls k).rank=rk from by rw [hu])
   have HKN:=Z hkn
   have hb3:=(Below.refl wr.heap.size wr).alloc (Nat.le_refl _) (.cells #[O U pl,O U un,O U rk] 79)
   have q3:=Rw.new wr #[O U pl,O U un,O U rk] 79
   obtain⟨w3,hw3⟩:∃y,wr.alloc (.cells #[O U pl,O U un,O U rk] 79)=y:=⟨_,rfl⟩
   rw [hw3] at hb3 q3
   have hbw3:=hbr.trans (hb3.mono hbr.size)
   have HB3:=Z hbw3
   obtain⟨g3,hg3⟩:∃g,wr.heap.size=g:=⟨_,rfl⟩
   rw [hg3] at q3
   have HRQ:=Z (show ∀wx,Below w3.heap.size w3 wx→Rw wx sb 110 #[O U (x.N:Int),.slice x.wires.A x.wires.n x.wires.c,.slice x.feeds.A x.feeds.n x.feeds.c,O U z.g.least,.slice x.fon.A x.fon.n x.fon.c,.slice x.sw.A x.sw.n x.sw.c,.slice (some ⟨b,o,none⟩) rn lc,.slice (some ⟨rb,ro,none⟩) rn rc,.slice x.parts.A x.parts.n x.parts.c,.slice x.pof.A x.pof.n x.pof.c,.slice (some ⟨x.cb,0,none⟩) x.np x.np,.slice (some ⟨x.vb,0,none⟩) x.np x.np,.slice (some ⟨x.kb,0,none⟩) x.np x.np]∧wx.cell? ⟨rb,ro+k,none⟩=some (.bool br)∧Rw wx g3 79 #[O U pl,O U un,O U rk] from fun wx hb=>
    ⟨HR.out wx (hbw3.trans (hb.mono hbw3.size)),far_cell (hb.5 rb (by have:=hb3.size;have:=hbr.size;omega)) (far_cell (hb3.5 rb (by have:=hbr.size;omega)) d0),q3.below hb q3.lt⟩)
   have HCL:=Z (show ∀wx,Below w3.heap.size w3 wx→Calls Tryz.prog 115 #[.agg #[O U pl,O U un,O U rk],.pointer (some ⟨g4,0,none⟩),.pointer (some ⟨g1,0,none⟩)] wx fun e w'=>e= .returned (.bool mm)∧Below wx.heap.size wx w' from fun wx hb=>by
    rw [←hmm]
    exact HC.out wx (hbw3.trans (hb.mono hbw3.size)) _ hum)
   have q3c:=q3.cell
   clear hbr hkn hk hkl hkr gb grb d0 hu hum hbr2 hmm hb3 q3 hbw3 hf
   go_upto_region 5 with (fail)
   clear c0 c1 c2 hw3 hg3 q3c
   cases br with
   | false=>
    have hbq:Below w3.heap.size w3 w3.drew:=(Below.refl _ _).drew
    have HRS:=Z (show ∀wx,Below w3.heap.size w3 wx→Rw wx (sb) 110 #[O U (x.N:Int),.slice x.wires.A x.wires.n x.wires.c,.slice x.feeds.A x.feeds.n x.feeds.c,O U z.g.least,.slice x.fon.A x.fon.n x.fon.c,.slice x.sw.A x.sw.n x.sw.c,.slice (some ⟨b,o,none⟩) rn lc,.slice (some ⟨rb,ro,none⟩) rn rc,.slice x.parts.A x.parts.n x.parts.c,.slice x.pof.A x.pof.n x.pof.c,.slice (some ⟨x.cb,0,none⟩) x.np x.np,.slice (some ⟨x.vb,0,none⟩) x.np x.np,.slice (some ⟨x.kb,0,none⟩) x.np x.np]∧wx.cell? ⟨rb,ro+k,none⟩=some (.bool false)∧Rw wx (g3) 79 #[O U pl,O U un,O U rk] from fun wx hb=>by
     obtain⟨h1,h2,h3⟩:=HRQ.out wx hb
     exact⟨h1,h2,h3⟩)
    have HS:=Z (show (fun wx=>Rw wx (sb) 110 #[O U (x.N:Int),.slice x.wires.A x.wires.n x.wires.c,.slice x.feeds.A x.feeds.n x.feeds.c,O U z.g.least,.slice x.fon.A x.fon.n x.fon.c,.slice x.sw.A x.sw.n x.sw.c,.slice (some ⟨b,o,none⟩) rn lc,.slice (some ⟨rb,ro,none⟩) rn rc,.slice x.parts.A x.parts.n x.parts.c,.slice x.pof.A x.pof.n x.pof.c,.slice (some ⟨x.cb,0,none⟩) x.np x.np,.slice (some ⟨x.vb,0,none⟩) x.np x.np,.slice (some ⟨x.kb,0,none⟩) x.np x.np]∧wx.cell? ⟨rb,ro+k,none⟩=some (.bool false)∧Rw wx (g3) 79 #[O U pl,O U un,O U rk]) w3.drew from HRS.out _ hbq)
    refine wp_region_noPanic ?_
    refine wp_region_held_drew (S:=fun wx=>Rw wx (sb) 110 #[O U (x.N:Int),.slice x.wires.A x.wires.n x.wires.c,.slice x.feeds.A x.feeds.n x.feeds.c,O U z.g.least,.slice x.fon.A x.fon.n x.fon.c,.slice x.sw.A x.sw.n x.sw.c,.slice (some ⟨b,o,none⟩) rn lc,.slice (some ⟨rb,ro,none⟩) rn rc,.slice x.parts.A x.parts.n x.parts.c,.slice x.pof.A x.pof.n x.pof.c,.slice (some ⟨x.cb,0,none⟩) x.np x.np,.slice (some ⟨x.vb,0,none⟩) x.np x.np,.slice (some ⟨x.kb,0,none⟩) x.np x.np]∧wx.cell? ⟨rb,ro+k,none⟩=some (.bool false)∧Rw wx (g3) 79 #[O U pl,O U un,O U rk]) (by kernel_rfl) HS.out (fun _=> ?_)
    refine hTk (i:=0) (d:=19) (v:= .pointer (some ⟨sb,0,none⟩)) rfl rfl (Or.inl ⟨rfl,by rintro W' ⟨r0,r1,r2⟩;have ry0:=r0.cell;have ry2:=r2.cell;go_simp⟩) HS.out ?_
    simp only [Act.put,sB,sZ,sS]
    refine hTk (i:=1) (d:=20) (v:= .pointer (some ⟨sb,0,none⟩)) rfl rfl (Or.inl ⟨rfl,by rintro W' ⟨r0,r1,r2⟩;have ry0:=r0.cell;have ry2:=r2.cell;go_simp⟩) HS.out ?_
    simp only [Act.put,sB,sZ,sS]
    refine hTk (i:=2) (d:=21) (v:= .pointer (some ⟨sb,7,none⟩)) rfl rfl (Or.inl ⟨rfl,by rintro W' ⟨r0,r1,r2⟩;have ry0:=r0.cell;have ry2:=r2.cell;go_simp⟩) HS.out ?_
    simp only [Act.put,sB,sZ,sS]
    refine hTk (i:=3) (d:=22) (v:= .slice (some ⟨rb,ro,none⟩) rn rc) rfl rfl (Or.inl ⟨rfl,by rintro W' ⟨r0,r1,r2⟩;have ry0:=r0.cell;have ry2:=r2.cell;go_simp⟩) HS.out ?_
    simp only [Act.put,sB,sZ,sS]
    refine hTk (i:=4) (d:=23) (v:=O U (k:Int)) rfl rfl (Or.inl ⟨rfl,by rintro W' ⟨r0,r1,r2⟩;have ry0:=r0.cell;have ry2:=r2.cell;go_simp⟩) HS.out ?_
    simp only [Act.put,sB,sZ,sS]
    refine hTk (i:=5) (d:=24) (v:= .pointer (some ⟨rb,ro+k,none⟩)) rfl rfl (Or.inl ⟨rfl,by rintro W' ⟨r0,r1,r2⟩;have ry0:=r0.cell;have ry2:=r2.cell;go_simp⟩) HS.out ?_
    simp only [Act.put,sB,sZ,sS]
    refine hTk (i:=6) (d:=25) (v:= .bool false) rfl rfl (Or.inl ⟨rfl,by rintro W' ⟨r0,r1,r2⟩;have ry0:=r0.cell;have ry2:=r2.cell;go_simp⟩) HS.out ?_
    simp only [Act.put,sB,sZ,sS]
    refine hTk (i:=7) (d:=26) (v:= .bool false) rfl rfl (Or.inl ⟨rfl,by rintro W' ⟨r0,r1,r2⟩;have ry0:=r0.cell;have ry2:=r2.cell;go_simp⟩) HS.out ?_
    simp only [Act.put,sB,sZ,sS]
    refine hTk (i:=8) (d:=27) (v:=undef) rfl rfl (Or.inr ⟨rfl,rfl⟩) HS.out ?_
    simp only [Act.put,sB,sZ,sS]
    refine hTk (i:=9) (d:=28) (v:=undef) rfl rfl (Or.inr ⟨rfl,rfl⟩) HS.out ?_
    simp only [Act.put,sB,sZ,sS]
    refine hTk (i:=10) (d:=29) (v:=undef) rfl rfl (Or.inr ⟨rfl,rfl⟩) HS.out ?_
    simp only [Act.put,sB,sZ,sS]
    refine hTk (i:=11) (d:=30) (v:= .bool false) rfl rfl (Or.inl ⟨rfl,by rintro W' ⟨r0,r1,r2⟩;have ry0:=r0.cell;have ry2:=r2.cell;go_simp⟩) HS.out ?_
    simp only [Act.put,sB,sZ,sS]
    refine hTk (i:=12) (d:=31) (v:= .bool false) rfl rfl (Or.inl ⟨rfl,by rintro W' ⟨r0,r1,r2⟩;have ry0:=r0.cell;have ry2:=r2.cell;go_simp⟩) HS.out ?_
    simp only [Act.put,sB,sZ,sS]
    refine hTk (i:=13) (d:=32) (v:=undef) rfl rfl (Or.inr ⟨rfl,rfl⟩) HS.out ?_
    simp only [Act.put,sB,sZ,sS]
    refine hTk (i:=14) (d:=33) (v:=undef) rfl rfl (Or.inr ⟨rfl,rfl⟩) HS.out ?_
    simp only [Act.put,sB,sZ,sS]
    refine hTk (i:=15) (d:=34) (v:=undef) rfl rfl (Or.inr ⟨rfl,rfl⟩) HS.out ?_
    simp only [Act.put,sB,sZ,sS]
    refine hTk (i:=16) (d:=35) (v:=undef) rfl rfl (Or.inr ⟨rfl,rfl⟩) HS.out ?_
    simp only [Act.put,sB,sZ,sS]
    refine hTk (i:=17) (d:=36) (v:=undef) rfl rfl (Or.inr ⟨rfl,rfl⟩) HS.out ?_
    simp only [Act.put,sB,sZ,sS]
    refine hTk (i:=18) (d:=37) (v:=undef) rfl rfl (Or.inr ⟨rfl,rfl⟩) HS.out ?_
    simp only [Act.put,sB,sZ,sS]
    refine hTk (i:=19) (d:=38) (v:=undef) rfl rfl (Or.inr ⟨rfl,rfl⟩) HS.out ?_
    simp only [Act.put,sB,sZ,sS]
    refine hTk (i:=20) (d:=39) (v:=undef) rfl rfl (Or.inr ⟨rfl,rfl⟩) HS.out ?_
    simp only [Act.put,sB,sZ,sS]
    refine hTk (i:=21) (d:=40) (v:=undef) rfl rfl (Or.inr ⟨rfl,rfl⟩) HS.out ?_
    simp only [Act.put,sB,sZ,sS]
    refine hTk (i:=22) (d:=41) (v:=undef) rfl rfl (Or.inr ⟨rfl,rfl⟩) HS.out ?_
    simp only [Act.put,sB,sZ,sS]
    refine hTk (i:=23) (d:=42) (v:=undef) rfl rfl (Or.inr ⟨rfl,rfl⟩) HS.out ?_
    simp only [Act.put,sB,sZ,sS]
    refine hTk (i:=24) (d:=43) (v:=undef) rfl rfl (Or.inr ⟨rfl,rfl⟩) HS.out ?_
    simp only [Act.put,sB,sZ,sS]
    refine hTk (i:=25) (d:=44) (v:=undef) rfl rfl (Or.inr ⟨rfl,rfl⟩) HS.out ?_
    simp only [Act.put,sB,sZ,sS]
    refine hTk (i:=26) (d:=45) (v:=undef) rfl rfl (Or.inr ⟨rfl,rfl⟩) HS.out ?_
    simp only [Act.put,sB,sZ,sS]
    refine hTk (i:=27) (d:=46) (v:=undef) rfl rfl (Or.inr ⟨rfl,rfl⟩) HS.out ?_
    simp only [Act.put,sB,sZ,sS]
    refine hTk (i:=28) (d:=47) (v:= .bool false) rfl rfl (Or.inl ⟨rfl,by rintro W' ⟨r0,r1,r2⟩;have ry0:=r0.cell;have ry2:=r2.cell;go_simp⟩) HS.out ?_
    simp only [Act.put,sB,sZ,sS]
    refine wpAnyH_done (by kernel_rfl) ?_ _
    clear HS
    refine NoPanic.normal ?_
    (try simp only [Exit.inBlock,Exit.then])
    have HBD:=Z (show Below w.heap.size w w3.drew from HB3.out.trans (hbq.mono HB3.out.size))
    have HST:=Z (show leastZ z.ls run m (k+1)=f from by unfold leastZ;rw [HRN.out];exact HF.out)
    clear hbq
    go_wp2
    refine⟨⟨k+1,by have:=HKN.out;omega,by rw [HST.out],by simp,HBD.out⟩, ?_⟩
    exact round_less HKN.out
   | true=>
    cases mm with
    | false=>
     have hbq:Below w3.heap.size w3 w3.drew:=(Below.refl _ _).drew
     have HRS:=Z (show ∀wx,Below w3.heap.size w3 wx→Rw wx (sb) 110 #[O U (x.N:Int),.slice x.wires.A x.wires.n x.wires.c,.slice x.feeds.A x.feeds.n x.feeds.c,O U z.g.least,.slice x.fon.A x.fon.n x.fon.c,.slice x.sw.A x.sw.n x.sw.c,.slice (some ⟨b,o,none⟩) rn lc,.slice (some ⟨rb,ro,none⟩) rn rc,.slice x.parts.A x.parts.n x.parts.c,.slice x.pof.A x.pof.n x.pof.c,.slice (some ⟨x.cb,0,none⟩) x.np x.np,.slice (some ⟨x.vb,0,none⟩) x.np x.np,.slice (some ⟨x.kb,0,none⟩) x.np x.np]∧wx.cell? ⟨rb,ro+k,none⟩=some (.bool true)∧Rw wx (g3) 79 #[O U pl,O U un,O U rk] from fun wx hb=>by
      obtain⟨h1,h2,h3⟩:=HRQ.out wx hb
      exact⟨h1,h2,h3⟩)
     have HS:=Z (show (fun wx=>Rw wx (sb) 110 #[O U (x.N:Int),.slice x.wires.A x.wires.n x.wires.c,.slice x.feeds.A x.feeds.n x.feeds.c,O U z.g.least,.slice x.fon.A x.fon.n x.fon.c,.slice x.sw.A x.sw.n x.sw.c,.slice (some ⟨b,o,none⟩) rn lc,.slice (some ⟨rb,ro,none⟩) rn rc,.slice x.parts.A x.parts.n x.parts.c,.slice x.pof.A x.pof.n x.pof.c,.slice (some ⟨x.cb,0,none⟩) x.np x.np,.slice (some ⟨x.vb,0,none⟩) x.np x.np,.slice (some ⟨x.kb,0,none⟩) x.np x.np]∧wx.cell? ⟨rb,ro+k,none⟩=some (.bool true)∧Rw wx (g3) 79 #[O U pl,O U un,O U rk]) w3.drew from HRS.out _ hbq)
     refine wp_region_noPanic ?_
     refine wp_region_held_drew (S:=fun wx=>Rw wx (sb) 110 #[O U (x.N:Int),.slice x.wires.A x.wires.n x.wires.c,.slice x.feeds.A x.feeds.n x.feeds.c,O U z.g.least,.slice x.fon.A x.fon.n x.fon.c,.slice x.sw.A x.sw.n x.sw.c,.slice (some ⟨b,o,none⟩) rn lc,.slice (some ⟨rb,ro,none⟩) rn rc,.slice x.parts.A x.parts.n x.parts.c,.slice x.pof.A x.pof.n x.pof.c,.slice (some ⟨x.cb,0,none⟩) x.np x.np,.slice (some ⟨x.vb,0,none⟩) x.np x.np,.slice (some ⟨x.kb,0,none⟩) x.np x.np]∧wx.cell? ⟨rb,ro+k,none⟩=some (.bool true)∧Rw wx (g3) 79 #[O U pl,O U un,O U rk]) (by kernel_rfl) HS.out (fun _=> ?_)
     refine hTk (i:=0) (d:=19) (v:= .pointer (some ⟨sb,0,none⟩)) rfl rfl (Or.inl ⟨rfl,by rintro W' ⟨r0,r1,r2⟩;have ry0:=r0.cell;have ry2:=r2.cell;go_simp⟩) HS.out ?_
     simp only [Act.put,sB,sZ,sS]
     refine hTk (i:=1) (d:=20) (v:= .pointer (some ⟨sb,0,none⟩)) rfl rfl (Or.inl ⟨rfl,by rintro W' ⟨r0,r1,r2⟩;have ry0:=r0.cell;have ry2:=r2.cell;go_simp⟩) HS.out ?_
     simp only [Act.put,sB,sZ,sS]
     refine hTk (i:=2) (d:=21) (v:= .pointer (some ⟨sb,7,none⟩)) rfl rfl (Or.inl ⟨rfl,by rintro W' ⟨r0,r1,r2⟩;have ry0:=r0.cell;have ry2:=r2.cell;go_simp⟩) HS.out ?_
     simp only [Act.put,sB,sZ,sS]
     refine hTk (i:=3) (d:=22) (v:= .slice (some ⟨rb,ro,none⟩) rn rc) rfl rfl (Or.inl ⟨rfl,by rintro W' ⟨r0,r1,r2⟩;have ry0:=r0.cell;have ry2:=r2.cell;go_simp⟩) HS.out ?_
     simp only [Act.put,sB,sZ,sS]
     refine hTk (i:=4) (d:=23) (v:=O U (k:Int)) rfl rfl (Or.inl ⟨rfl,by rintro W' ⟨r0,r1,r2⟩;have ry0:=r0.cell;have ry2:=r2.cell;go_simp⟩) HS.out ?_
     simp only [Act.put,sB,sZ,sS]
     refine hTk (i:=5) (d:=24) (v:= .pointer (some ⟨rb,ro+k,none⟩)) rfl rfl (Or.inl ⟨rfl,by rintro W' ⟨r0,r1,r2⟩;have ry0:=r0.cell;have ry2:=r2.cell;go_simp⟩) HS.out ?_
     simp only [Act.put,sB,sZ,sS]
     refine hTk (i:=6) (d:=25) (v:= .bool true) rfl rfl (Or.inl ⟨rfl,by rintro W' ⟨r0,r1,r2⟩;have ry0:=r0.cell;have ry2:=r2.cell;go_simp⟩) HS.out ?_
     simp only [Act.put,sB,sZ,sS]
     refine hTk (i:=7) (d:=26) (v:= .bool true) rfl rfl (Or.inl ⟨rfl,by rintro W' ⟨r0,r1,r2⟩;have ry0:=r0.cell;have ry2:=r2.cell;go_simp⟩) HS.out ?_
     simp only [Act.put,sB,sZ,sS]
     refine hTk (i:=8) (d:=27) (v:= .func (.func 115) #[] #[.pointer (some ⟨g4,0,none⟩),.pointer (some ⟨g1,0,none⟩)]) rfl rfl (Or.inl ⟨rfl,by rintro W' ⟨r0,r1,r2⟩;have ry0:=r0.cell;have ry2:=r2.cell;go_simp⟩) HS.out ?_
     simp only [Act.put,sB,sZ,sS]
     refine hTk (i:=9) (d:=28) (v:= .agg #[O U pl,O U un,O U rk]) rfl rfl (Or.inl ⟨rfl,by rintro W' ⟨r0,r1,r2⟩;have ry0:=r0.cell;have ry2:=r2.cell;go_simp⟩) HS.out ?_
     simp only [Act.put,sB,sZ,sS]
     refine wpAnyH_ready (rs:= [10]) (by kernel_rfl) (by simp) ?_
     refine AllReadyH.cons rfl (fun K hK=> ?_) AllReadyH.nil
     rw [if_pos (by rfl)]
     go_simp
     go_at_call 115
     (with_reducible refine (HCL.out _ hbq).mono ?_)
     rintro e wc0 ⟨rfl,hbn⟩
     replace hbq:=hbq.trans (hbn.mono hbq.size)
     clear hbn
     have HS:=Z (show (fun wx=>Rw wx (sb) 110 #[O U (x.N:Int),.slice x.wires.A x.wires.n x.wires.c,.slice x.feeds.A x.feeds.n x.feeds.c,O U z.g.least,.slice x.fon.A x.fon.n x.fon.c,.slice x.sw.A x.sw.n x.sw.c,.slice (some ⟨b,o,none⟩) rn lc,.slice (some ⟨rb,ro,none⟩) rn rc,.slice x.parts.A x.parts.n x.parts.c,.slice x.pof.A x.pof.n x.pof.c,.slice (some ⟨x.cb,0,none⟩) x.np x.np,.slice (some ⟨x.vb,0,none⟩) x.np x.np,.slice (some ⟨x.kb,0,none⟩) x.np x.np]∧wx.cell? ⟨rb,ro+k,none⟩=some (.bool true)∧Rw wx (g3) 79 #[O U pl,O U un,O U rk]) wc0 from HRS.out _ hbq)
     refine hK.out _ _ HS.out (fun _=> ?_)
     clear hK K
     try simp only [Act.put,sB,sZ,sS]
     refine hTk (i:=11) (d:=30) (v:= .bool false) rfl rfl (Or.inl ⟨rfl,by rintro W' ⟨r0,r1,r2⟩;have ry0:=r0.cell;have ry2:=r2.cell;go_simp⟩) HS.out ?_
     simp only [Act.put,sB,sZ,sS]
     refine hTk (i:=12) (d:=31) (v:= .bool false) rfl rfl (Or.inl ⟨rfl,by rintro W' ⟨r0,r1,r2⟩;have ry0:=r0.cell;have ry2:=r2.cell;go_simp⟩) HS.out ?_
     simp only [Act.put,sB,sZ,sS]
     refine hTk (i:=13) (d:=32) (v:=undef) rfl rfl (Or.inr ⟨rfl,rfl⟩) HS.out ?_
     simp only [Act.put,sB,sZ,sS]
     refine hTk (i:=14) (d:=33) (v:=undef) rfl rfl (Or.inr ⟨rfl,rfl⟩) HS.out ?_
     simp only [Act.put,sB,sZ,sS]
     refine hTk (i:=15) (d:=34) (v:=undef) rfl rfl (Or.inr ⟨rfl,rfl⟩) HS.out ?_
     simp only [Act.put,sB,sZ,sS]
     refine hTk (i:=16) (d:=35) (v:=undef) rfl rfl (Or.inr ⟨rfl,rfl⟩) HS.out ?_
     simp only [Act.put,sB,sZ,sS]
     refine hTk (i:=17) (d:=36) (v:=undef) rfl rfl (Or.inr ⟨rfl,rfl⟩) HS.out ?_
     simp only [Act.put,sB,sZ,sS]
     refine hTk (i:=18) (d:=37) (v:=undef) rfl rfl (Or.inr ⟨rfl,rfl⟩) HS.out ?_
     simp only [Act.put,sB,sZ,sS]
     refine hTk (i:=19) (d:=38) (v:=undef) rfl rfl (Or.inr ⟨rfl,rfl⟩) HS.out ?_
     simp only [Act.put,sB,sZ,sS]
     refine hTk (i:=20) (d:=39) (v:=undef) rfl rfl (Or.inr ⟨rfl,rfl⟩) HS.out ?_
     simp only [Act.put,sB,sZ,sS]
     refine hTk (i:=21) (d:=40) (v:=undef) rfl rfl (Or.inr ⟨rfl,rfl⟩) HS.out ?_
     simp only [Act.put,sB,sZ,sS]
     refine hTk (i:=22) (d:=41) (v:=undef) rfl rfl (Or.inr ⟨rfl,rfl⟩) HS.out ?_
     simp only [Act.put,sB,sZ,sS]
     refine hTk (i:=23) (d:=42) (v:=undef) rfl rfl (Or.inr ⟨rfl,rfl⟩) HS.out ?_
     simp only [Act.put,sB,sZ,sS]
     refine hTk (i:=24) (d:=43) (v:=undef) rfl rfl (Or.inr ⟨rfl,rfl⟩) HS.out ?_
     simp only [Act.put,sB,sZ,sS]
     refine hTk (i:=25) (d:=44) (v:=undef) rfl rfl (Or.inr ⟨rfl,rfl⟩) HS.out ?_
     simp only [Act.put,sB,sZ,sS]
     refine hTk (i:=26) (d:=45) (v:=undef) rfl rfl (Or.inr ⟨rfl,rfl⟩) HS.out ?_
     simp only [Act.put,sB,sZ,sS]
     refine hTk (i:=27) (d:=46) (v:=undef) rfl rfl (Or.inr ⟨rfl,rfl⟩) HS.out ?_
     simp only [Act.put,sB,sZ,sS]
     refine hTk (i:=28) (d:=47) (v:= .bool false) rfl rfl (Or.inl ⟨rfl,by rintro W' ⟨r0,r1,r2⟩;have ry0:=r0.cell;have ry2:=r2.cell;go_simp⟩) HS.out ?_
     simp only [Act.put,sB,sZ,sS]
     refine wpAnyH_done (by kernel_rfl) ?_ _
     clear HS
     refine NoPanic.normal ?_
     (try simp only [Exit.inBlock,Exit.then])
     have HBD:=Z (show Below w.heap.size w wc0 from HB3.out.trans (hbq.mono HB3.out.size))
     have HST:=Z (show leastZ z.ls run m (k+1)=f from by unfold leastZ;rw [HRN.out];rw [HMV.out];exact HF.out)
     clear hbq
     go_wp2
     refine⟨⟨k+1,by have:=HKN.out;omega,by rw [HST.out],by simp,HBD.out⟩, ?_⟩
     exact round_less HKN.out
    | true=>
     by_cases hfn:f<0
     ·have HFN:=Z hfn
      have HFK:=Z hlt
      clear hlt
      have hbq:Below w3.heap.size w3 w3.drew:=(Below.refl _ _).drew
      have HRS:=Z (show ∀wx,Below w3.heap.size w3 wx→Rw wx (sb) 110 #[O U (x.N:Int),.slice x.wires.A x.wires.n x.wires.c,.slice x.feeds.A x.feeds.n x.feeds.c,O U z.g.least,.slice x.fon.A x.fon.n x.fon.c,.slice x.sw.A x.sw.n x.sw.c,.slice (some ⟨b,o,none⟩) rn lc,.slice (some ⟨rb,ro,none⟩) rn rc,.slice x.parts.A x.parts.n x.parts.c,.slice x.pof.A x.pof.n x.pof.c,.slice (some ⟨x.cb,0,none⟩) x.np x.np,.slice (some ⟨x.vb,0,none⟩) x.np x.np,.slice (some ⟨x.kb,0,none⟩) x.np x.np]∧wx.cell? ⟨rb,ro+k,none⟩=some (.bool true)∧Rw wx (g3) 79 #[O U pl,O U un,O U rk] from fun wx hb=>by
       obtain⟨h1,h2,h3⟩:=HRQ.out wx hb
       exact⟨h1,h2,h3⟩)
      have HS:=Z (show (fun wx=>Rw wx (sb) 110 #[O U (x.N:Int),.slice x.wires.A x.wires.n x.wires.c,.slice x.feeds.A x.feeds.n x.feeds.c,O U z.g.least,.slice x.fon.A x.fon.n x.fon.c,.slice x.sw.A x.sw.n x.sw.c,.slice (some ⟨b,o,none⟩) rn lc,.slice (some ⟨rb,ro,none⟩) rn rc,.slice x.parts.A x.parts.n x.parts.c,.slice x.pof.A x.pof.n x.pof.c,.slice (some ⟨x.cb,0,none⟩) x.np x.np,.slice (some ⟨x.vb,0,none⟩) x.np x.np,.slice (some ⟨x.kb,0,none⟩) x.np x.np]∧wx.cell? ⟨rb,ro+k,none⟩=some (.bool true)∧Rw wx (g3) 79 #[O U pl,O U un,O U rk]) w3.drew from HRS.out _ hbq)
      refine wp_region_noPanic ?_
      refine wp_region_held_drew (S:=fun wx=>Rw wx (sb) 110 #[O U (x.N:Int),.slice x.wires.A x.wires.n x.wires.c,.slice x.feeds.A x.feeds.n x.feeds.c,O U z.g.least,.slice x.fon.A x.fon.n x.fon.c,.slice x.sw.A x.sw.n x.sw.c,.slice (some ⟨b,o,none⟩) rn lc,.slice (some ⟨rb,ro,none⟩) rn rc,.slice x.parts.A x.parts.n x.parts.c,.slice x.pof.A x.pof.n x.pof.c,.slice (some ⟨x.cb,0,none⟩) x.np x.np,.slice (some ⟨x.vb,0,none⟩) x.np x.np,.slice (some ⟨x.kb,0,none⟩) x.np x.np]∧wx.cell? ⟨rb,ro+k,none⟩=some (.bool true)∧Rw wx (g3) 79 #[O U pl,O U un,O U rk]) (by kernel_rfl) HS.out (fun _=> ?_)
      refine hTk (i:=0) (d:=19) (v:= .pointer (some ⟨sb,0,none⟩)) rfl rfl (Or.inl ⟨rfl,by rintro W' ⟨r0,r1,r2⟩;have ry0:=r0.cell;have ry2:=r2.cell;go_simp⟩) HS.out ?_
      simp only [Act.put,sB,sZ,sS]
      refine hTk (i:=1) (d:=20) (v:= .pointer (some ⟨sb,0,none⟩)) rfl rfl (Or.inl ⟨rfl,by rintro W' ⟨r0,r1,r2⟩;have ry0:=r0.cell;have ry2:=r2.cell;go_simp⟩) HS.out ?_
      simp only [Act.put,sB,sZ,sS]
      refine hTk (i:=2) (d:=21) (v:= .pointer (some ⟨sb,7,none⟩)) rfl rfl (Or.inl ⟨rfl,by rintro W' ⟨r0,r1,r2⟩;have ry0:=r0.cell;have ry2:=r2.cell;go_simp⟩) HS.out ?_
      simp only [Act.put,sB,sZ,sS]
      refine hTk (i:=3) (d:=22) (v:= .slice (some ⟨rb,ro,none⟩) rn rc) rfl rfl (Or.inl ⟨rfl,by rintro W' ⟨r0,r1,r2⟩;have ry0:=r0.cell;have ry2:=r2.cell;go_simp⟩) HS.out ?_
      simp only [Act.put,sB,sZ,sS]
      refine hTk (i:=4) (d:=23) (v:=O U (k:Int)) rfl rfl (Or.inl ⟨rfl,by rintro W' ⟨r0,r1,r2⟩;have ry0:=r0.cell;have ry2:=r2.cell;go_simp⟩) HS.out ?_
      simp only [Act.put,sB,sZ,sS]
      refine hTk (i:=5) (d:=24) (v:= .pointer (some ⟨rb,ro+k,none⟩)) rfl rfl (Or.inl ⟨rfl,by rintro W' ⟨r0,r1,r2⟩;have ry0:=r0.cell;have ry2:=r2.cell;go_simp⟩) HS.out ?_
      simp only [Act.put,sB,sZ,sS]
      refine hTk (i:=6) (d:=25) (v:= .bool true) rfl rfl (Or.inl ⟨rfl,by rintro W' ⟨r0,r1,r2⟩;have ry0:=r0.cell;have ry2:=r2.cell;go_simp⟩) HS.out ?_
      simp only [Act.put,sB,sZ,sS]
      refine hTk (i:=7) (d:=26) (v:= .bool true) rfl rfl (Or.inl ⟨rfl,by rintro W' ⟨r0,r1,r2⟩;have ry0:=r0.cell;have ry2:=r2.cell;go_simp⟩) HS.out ?_
      simp only [Act.put,sB,sZ,sS]
      refine hTk (i:=8) (d:=27) (v:= .func (.func 115) #[] #[.pointer (some ⟨g4,0,none⟩),.pointer (some ⟨g1,0,none⟩)]) rfl rfl (Or.inl ⟨rfl,by rintro W' ⟨r0,r1,r2⟩;have ry0:=r0.cell;have ry2:=r2.cell;go_simp⟩) HS.out ?_
      simp only [Act.put,sB,sZ,sS]
      refine hTk (i:=9) (d:=28) (v:= .agg #[O U pl,O U un,O U rk]) rfl rfl (Or.inl ⟨rfl,by rintro W' ⟨r0,r1,r2⟩;have ry0:=r0.cell;have ry2:=r2.cell;go_simp⟩) HS.out ?_
      simp only [Act.put,sB,sZ,sS]
      refine wpAnyH_ready (rs:= [10]) (by kernel_rfl) (by simp) ?_
      refine AllReadyH.cons rfl (fun K hK=> ?_) AllReadyH.nil
      rw [if_pos (by rfl)]
      go_simp
      go_at_call 115
      (with_reducible refine (HCL.out _ hbq).mono ?_)
      rintro e wc0 ⟨rfl,hbn⟩
      replace hbq:=hbq.trans (hbn.mono hbq.size)
      clear hbn
      have HS:=Z (show (fun wx=>Rw wx (sb) 110 #[O U (x.N:Int),.slice x.wires.A x.wires.n x.wires.c,.slice x.feeds.A x.feeds.n x.feeds.c,O U z.g.least,.slice x.fon.A x.fon.n x.fon.c,.slice x.sw.A x.sw.n x.sw.c,.slice (some ⟨b,o,none⟩) rn lc,.slice (some ⟨rb,ro,none⟩) rn rc,.slice x.parts.A x.parts.n x.parts.c,.slice x.pof.A x.pof.n x.pof.c,.slice (some ⟨x.cb,0,none⟩) x.np x.np,.slice (some ⟨x.vb,0,none⟩) x.np x.np,.slice (some ⟨x.kb,0,none⟩) x.np x.np]∧wx.cell? ⟨rb,ro+k,none⟩=some (.bool true)∧Rw wx (g3) 79 #[O U pl,O U un,O U rk]) wc0 from HRS.out _ hbq)
      refine hK.out _ _ HS.out (fun _=> ?_)
      clear hK K
      try simp only [Act.put,sB,sZ,sS]
      refine hTk (i:=11) (d:=30) (v:= .bool true) rfl rfl (Or.inl ⟨rfl,by rintro W' ⟨r0,r1,r2⟩;have ry0:=r0.cell;have ry2:=r2.cell;go_simp⟩) HS.out ?_
      simp only [Act.put,sB,sZ,sS]
      refine hTk (i:=12) (d:=31) (v:= .bool true) rfl rfl (Or.inl ⟨rfl,by rintro W' ⟨r0,r1,r2⟩;have ry0:=r0.cell;have ry2:=r2.cell;go_simp⟩) HS.out ?_
      simp only [Act.put,sB,sZ,sS]
      refine hTk (i:=13) (d:=32) (v:=O U f) rfl rfl (Or.inl ⟨rfl,by rintro W' ⟨r0,r1,r2⟩;have ry0:=r0.cell;have ry2:=r2.cell;go_simp⟩) HS.out ?_
      simp only [Act.put,sB,sZ,sS]
      refine hTk (i:=14) (d:=33) (v:= .bool true) rfl rfl (Or.inl ⟨rfl,by rintro W' ⟨r0,r1,r2⟩;have ry0:=r0.cell;have ry2:=r2.cell;go_simp⟩) HS.out ?_
      simp only [Act.put,sB,sZ,sS]
      refine hTk (i:=15) (d:=34) (v:= .bool true) rfl rfl (Or.inl ⟨rfl,by rintro W' ⟨r0,r1,r2⟩;have ry0:=r0.cell;have ry2:=r2.cell;go_simp⟩) HS.out ?_
      simp only [Act.put,sB,sZ,sS]
      refine hTk (i:=16) (d:=35) (v:=undef) rfl rfl (Or.inr ⟨rfl,rfl⟩) HS.out ?_
      simp only [Act.put,sB,sZ,sS]
      refine hTk (i:=17) (d:=36) (v:=undef) rfl rfl (Or.inr ⟨rfl,rfl⟩) HS.out ?_
      simp only [Act.put,sB,sZ,sS]
      refine hTk (i:=18) (d:=37) (v:=undef) rfl rfl (Or.inr ⟨rfl,rfl⟩) HS.out ?_
      simp only [Act.put,sB,sZ,sS]
      refine hTk (i:=19) (d:=38) (v:=undef) rfl rfl (Or.inr ⟨rfl,rfl⟩) HS.out ?_
      simp only [Act.put,sB,sZ,sS]
      refine hTk (i:=20) (d:=39) (v:=undef) rfl rfl (Or.inr ⟨rfl,rfl⟩) HS.out ?_
      simp only [Act.put,sB,sZ,sS]
      refine hTk (i:=21) (d:=40) (v:=undef) rfl rfl (Or.inr ⟨rfl,rfl⟩) HS.out ?_
      simp only [Act.put,sB,sZ,sS]
      refine hTk (i:=22) (d:=41) (v:=undef) rfl rfl (Or.inr ⟨rfl,rfl⟩) HS.out ?_
      simp only [Act.put,sB,sZ,sS]
      refine hTk (i:=23) (d:=42) (v:=undef) rfl rfl (Or.inr ⟨rfl,rfl⟩) HS.out ?_
      simp only [Act.put,sB,sZ,sS]
      refine hTk (i:=24) (d:=43) (v:=undef) rfl rfl (Or.inr ⟨rfl,rfl⟩) HS.out ?_
      simp only [Act.put,sB,sZ,sS]
      refine hTk (i:=25) (d:=44) (v:=undef) rfl rfl (Or.inr ⟨rfl,rfl⟩) HS.out ?_
      simp only [Act.put,sB,sZ,sS]
      refine hTk (i:=26) (d:=45) (v:=undef) rfl rfl (Or.inr ⟨rfl,rfl⟩) HS.out ?_
      simp only [Act.put,sB,sZ,sS]
      refine hTk (i:=27) (d:=46) (v:= .bool true) rfl rfl (Or.inl ⟨rfl,by rintro W' ⟨r0,r1,r2⟩;have ry0:=r0.cell;have ry2:=r2.cell;go_simp⟩) HS.out ?_
      simp only [Act.put,sB,sZ,sS]
      refine hTk (i:=28) (d:=47) (v:= .bool true) rfl rfl (Or.inl ⟨rfl,by rintro W' ⟨r0,r1,r2⟩;have ry0:=r0.cell;have ry2:=r2.cell;go_simp⟩) HS.out ?_
      simp only [Act.put,sB,sZ,sS]
      refine wpAnyH_done (by kernel_rfl) ?_ _
      clear HS
      refine NoPanic.normal ?_
      (try simp only [Exit.inBlock,Exit.then])
      have HBD:=Z (show Below w.heap.size w wc0 from HB3.out.trans (hbq.mono HB3.out.size))
      have HST:=Z (show leastZ z.ls run m (k+1)=(k:Int) from by unfold leastZ;rw [HRN.out];rw [HMV.out,HF.out,decide_eq_true HFN.out];rfl)
      clear hbq
      go_wp2
      refine⟨⟨k+1,by have:=HKN.out;omega,by rw [HST.out],by simp,HBD.out⟩, ?_⟩
      exact round_less HKN.out
     ·have HFN:=Z hfn
      obtain⟨j,rfl⟩:∃j:Nat,f=(j:Int):=⟨f.toNat,by omega⟩
      have hjl:j<z.ls.length:=by have:=HLL.out;have:=HKN.out;omega
      obtain⟨rj,hrj⟩:∃r,(lvAt z.ls j).rank=r:=⟨_,rfl⟩
      have HRJV:=Z hrj
      obtain⟨lb,hlb⟩:∃b,decide (rk≤rj)=b:=⟨_,rfl⟩
      have HLB:=Z hlb
      have HRJ:=Z (show ∀wx,Below w3.heap.size w3 wx→wx.cell? ⟨b,o+j * 3+2,none⟩=some (O U rj) from fun wx hb=>by
       obtain⟨b',o',e,_,_,_,e2⟩:=load_at (HL.out.below (HB3.out.trans (hb.mono HB3.out.size))) hjl
       injection e with e;injection e with e1 e3;subst e1;subst e3
       rw [←lvAt_at hjl,hrj] at e2;exact e2)
      have hj0:(0:Int)≤(j:Int):=by omega
      have hj1:(j:Int)<(rn:Int):=by have:=HKN.out;omega
      clear hfn hlt hjl hrj
      cases lb with
      | false=>
       have hrr:¬rk≤rj:=of_decide_eq_false hlb
       clear hlb
       have hbq:Below w3.heap.size w3 w3.drew:=(Below.refl _ _).drew
       have HRS:=Z (show ∀wx,Below w3.heap.size w3 wx→Rw wx (sb) 110 #[O U (x.N:Int),.slice x.wires.A x.wires.n x.wires.c,.slice x.feeds.A x.feeds.n x.feeds.c,O U z.g.least,.slice x.fon.A x.fon.n x.fon.c,.slice x.sw.A x.sw.n x.sw.c,.slice (some ⟨b,o,none⟩) rn lc,.slice (some ⟨rb,ro,none⟩) rn rc,.slice x.parts.A x.parts.n x.parts.c,.slice x.pof.A x.pof.n x.pof.c,.slice (some ⟨x.cb,0,none⟩) x.np x.np,.slice (some ⟨x.vb,0,none⟩) x.np x.np,.slice (some ⟨x.kb,0,none⟩) x.np x.np]∧wx.cell? ⟨rb,ro+k,none⟩=some (.bool true)∧Rw wx (g3) 79 #[O U pl,O U un,O U rk]∧wx.cell? ⟨b,o+j * 3+2,none⟩=some (O U rj) from fun wx hb=>by
        obtain⟨h1,h2,h3⟩:=HRQ.out wx hb
        exact⟨h1,h2,h3,HRJ.out wx hb⟩)
       have HS:=Z (show (fun wx=>Rw wx (sb) 110 #[O U (x.N:Int),.slice x.wires.A x.wires.n x.wires.c,.slice x.feeds.A x.feeds.n x.feeds.c,O U z.g.least,.slice x.fon.A x.fon.n x.fon.c,.slice x.sw.A x.sw.n x.sw.c,.slice (some ⟨b,o,none⟩) rn lc,.slice (some ⟨rb,ro,none⟩) rn rc,.slice x.parts.A x.parts.n x.parts.c,.slice x.pof.A x.pof.n x.pof.c,.slice (some ⟨x.cb,0,none⟩) x.np x.np,.slice (some ⟨x.vb,0,none⟩) x.np x.np,.slice (some ⟨x.kb,0,none⟩) x.np x.np]∧wx.cell? ⟨rb,ro+k,none⟩=some (.bool true)∧Rw wx (g3) 79 #[O U pl,O U un,O U rk]∧wx.cell? ⟨b,o+j * 3+2,none⟩=some (O U rj)) w3.drew from HRS.out _ hbq)
       refine wp_region_noPanic ?_
       refine wp_region_held_drew (S:=fun wx=>Rw wx (sb) 110 #[O U (x.N:Int),.slice x.wires.A x.wires.n x.wires.c,.slice x.feeds.A x.feeds.n x.feeds.c,O U z.g.least,.slice x.fon.A x.fon.n x.fon.c,.slice x.sw.A x.sw.n x.sw.c,.slice (some ⟨b,o,none⟩) rn lc,.slice (some ⟨rb,ro,none⟩) rn rc,.slice x.parts.A x.parts.n x.parts.c,.slice x.pof.A x.pof.n x.pof.c,.slice (some ⟨x.cb,0,none⟩) x.np x.np,.slice (some ⟨x.vb,0,none⟩) x.np x.np,.slice (some ⟨x.kb,0,none⟩) x.np x.np]∧wx.cell? ⟨rb,ro+k,none⟩=some (.bool true)∧Rw wx (g3) 79 #[O U pl,O U un,O U rk]∧wx.cell? ⟨b,o+j * 3+2,none⟩=some (O U rj)) (by kernel_rfl) HS.out (fun _=> ?_)
       refine hTk (i:=0) (d:=19) (v:= .pointer (some ⟨sb,0,none⟩)) rfl rfl (Or.inl ⟨rfl,by rintro W' ⟨r0,r1,r2,r3⟩;have ry0:=r0.cell;have ry2:=r2.cell;go_simp⟩) HS.out ?_
       simp only [Act.put,sB,sZ,sS]
       refine hTk (i:=1) (d:=20) (v:= .pointer (some ⟨sb,0,none⟩)) rfl rfl (Or.inl ⟨rfl,by rintro W' ⟨r0,r1,r2,r3⟩;have ry0:=r0.cell;have ry2:=r2.cell;go_simp⟩) HS.out ?_
       simp only [Act.put,sB,sZ,sS]
       refine hTk (i:=2) (d:=21) (v:= .pointer (some ⟨sb,7,none⟩)) rfl rfl (Or.inl ⟨rfl,by rintro W' ⟨r0,r1,r2,r3⟩;have ry0:=r0.cell;have ry2:=r2.cell;go_simp⟩) HS.out ?_
       simp only [Act.put,sB,sZ,sS]
       refine hTk (i:=3) (d:=22) (v:= .slice (some ⟨rb,ro,none⟩) rn rc) rfl rfl (Or.inl ⟨rfl,by rintro W' ⟨r0,r1,r2,r3⟩;have ry0:=r0.cell;have ry2:=r2.cell;go_simp⟩) HS.out ?_
       simp only [Act.put,sB,sZ,sS]
       refine hTk (i:=4) (d:=23) (v:=O U (k:Int)) rfl rfl (Or.inl ⟨rfl,by rintro W' ⟨r0,r1,r2,r3⟩;have ry0:=r0.cell;have ry2:=r2.cell;go_simp⟩) HS.out ?_
       simp only [Act.put,sB,sZ,sS]
       refine hTk (i:=5) (d:=24) (v:= .pointer (some ⟨rb,ro+k,none⟩)) rfl rfl (Or.inl ⟨rfl,by rintro W' ⟨r0,r1,r2,r3⟩;have ry0:=r0.cell;have ry2:=r2.cell;go_simp⟩) HS.out ?_
       simp only [Act.put,sB,sZ,sS]
       refine hTk (i:=6) (d:=25) (v:= .bool true) rfl rfl (Or.inl ⟨rfl,by rintro W' ⟨r0,r1,r2,r3⟩;have ry0:=r0.cell;have ry2:=r2.cell;go_simp⟩) HS.out ?_
       simp only [Act.put,sB,sZ,sS]
       refine hTk (i:=7) (d:=26) (v:= .bool true) rfl rfl (Or.inl ⟨rfl,by rintro W' ⟨r0,r1,r2,r3⟩;have ry0:=r0.cell;have ry2:=r2.cell;go_simp⟩) HS.out ?_
       simp only [Act.put,sB,sZ,sS]
       refine hTk (i:=8) (d:=27) (v:= .func (.func 115) #[] #[.pointer (some ⟨g4,0,none⟩),.pointer (some ⟨g1,0,none⟩)]) rfl rfl (Or.inl ⟨rfl,by rintro W' ⟨r0,r1,r2,r3⟩;have ry0:=r0.cell;have ry2:=r2.cell;go_simp⟩) HS.out ?_
       simp only [Act.put,sB,sZ,sS]
       refine hTk (i:=9) (d:=28) (v:= .agg #[O U pl,O U un,O U rk]) rfl rfl (Or.inl ⟨rfl,by rintro W' ⟨r0,r1,r2,r3⟩;have ry0:=r0.cell;have ry2:=r2.cell;go_simp⟩) HS.out ?_
       simp only [Act.put,sB,sZ,sS]
       refine wpAnyH_ready (rs:= [10]) (by kernel_rfl) (by simp) ?_
       refine AllReadyH.cons rfl (fun K hK=> ?_) AllReadyH.nil
       rw [if_pos (by rfl)]
       go_simp
       go_at_call 115
       (with_reducible refine (HCL.out _ hbq).mono ?_)
       rintro e wc0 ⟨rfl,hbn⟩
       replace hbq:=hbq.trans (hbn.mono hbq.size)
       clear hbn
       have HS:=Z (show (fun wx=>Rw wx (sb) 110 #[O U (x.N:Int),.slice x.wires.A x.wires.n x.wires.c,.slice x.feeds.A x.feeds.n x.feeds.c,O U z.g.least,.slice x.fon.A x.fon.n x.fon.c,.slice x.sw.A x.sw.n x.sw.c,.slice (some ⟨b,o,none⟩) rn lc,.slice (some ⟨rb,ro,none⟩) rn rc,.slice x.parts.A x.parts.n x.parts.c,.slice x.pof.A x.pof.n x.pof.c,.slice (some ⟨x.cb,0,none⟩) x.np x.np,.slice (some ⟨x.vb,0,none⟩) x.np x.np,.slice (some ⟨x.kb,0,none⟩) x.np x.np]∧wx.cell? ⟨rb,ro+k,none⟩=some (.bool true)∧Rw wx (g3) 79 #[O U pl,O U un,O U rk]∧wx.cell? ⟨b,o+j * 3+2,none⟩=some (O U rj)) wc0 from HRS.out _ hbq)
       refine hK.out _ _ HS.out (fun _=> ?_)
       clear hK K
       try simp only [Act.put,sB,sZ,sS]
       refine hTk (i:=11) (d:=30) (v:= .bool true) rfl rfl (Or.inl ⟨rfl,by rintro W' ⟨r0,r1,r2,r3⟩;have ry0:=r0.cell;have ry2:=r2.cell;go_simp⟩) HS.out ?_
       simp only [Act.put,sB,sZ,sS]
       refine hTk (i:=12) (d:=31) (v:= .bool true) rfl rfl (Or.inl ⟨rfl,by rintro W' ⟨r0,r1,r2,r3⟩;have ry0:=r0.cell;have ry2:=r2.cell;go_simp⟩) HS.out ?_
       simp only [Act.put,sB,sZ,sS]
       refine hTk (i:=13) (d:=32) (v:=O U (j:Int)) rfl rfl (Or.inl ⟨rfl,by rintro W' ⟨r0,r1,r2,r3⟩;have ry0:=r0.cell;have ry2:=r2.cell;go_simp⟩) HS.out ?_
       simp only [Act.put,sB,sZ,sS]
       refine hTk (i:=14) (d:=33) (v:= .bool false) rfl rfl (Or.inl ⟨rfl,by rintro W' ⟨r0,r1,r2,r3⟩;have ry0:=r0.cell;have ry2:=r2.cell;go_simp⟩) HS.out ?_
       simp only [Act.put,sB,sZ,sS]
       refine hTk (i:=15) (d:=34) (v:= .bool false) rfl rfl (Or.inl ⟨rfl,by rintro W' ⟨r0,r1,r2,r3⟩;have ry0:=r0.cell;have ry2:=r2.cell;go_simp⟩) HS.out ?_
       simp only [Act.put,sB,sZ,sS]
       refine hTk (i:=16) (d:=35) (v:= .pointer (some ⟨g3,2,none⟩)) rfl rfl (Or.inl ⟨rfl,by rintro W' ⟨r0,r1,r2,r3⟩;have ry0:=r0.cell;have ry2:=r2.cell;go_simp⟩) HS.out ?_
       simp only [Act.put,sB,sZ,sS]
       refine hTk (i:=17) (d:=36) (v:=O U rk) rfl rfl (Or.inl ⟨rfl,by rintro W' ⟨r0,r1,r2,r3⟩;have ry0:=r0.cell;have ry2:=r2.cell;go_simp⟩) HS.out ?_
       simp only [Act.put,sB,sZ,sS]
       refine hTk (i:=18) (d:=37) (v:= .pointer (some ⟨sb,0,none⟩)) rfl rfl (Or.inl ⟨rfl,by rintro W' ⟨r0,r1,r2,r3⟩;have ry0:=r0.cell;have ry2:=r2.cell;go_simp⟩) HS.out ?_
       simp only [Act.put,sB,sZ,sS]
       refine hTk (i:=19) (d:=38) (v:= .pointer (some ⟨sb,0,none⟩)) rfl rfl (Or.inl ⟨rfl,by rintro W' ⟨r0,r1,r2,r3⟩;have ry0:=r0.cell;have ry2:=r2.cell;go_simp⟩) HS.out ?_
       simp only [Act.put,sB,sZ,sS]
       refine hTk (i:=20) (d:=39) (v:= .pointer (some ⟨sb,6,none⟩)) rfl rfl (Or.inl ⟨rfl,by rintro W' ⟨r0,r1,r2,r3⟩;have ry0:=r0.cell;have ry2:=r2.cell;go_simp⟩) HS.out ?_
       simp only [Act.put,sB,sZ,sS]
       refine hTk (i:=21) (d:=40) (v:= .slice (some ⟨b,o,none⟩) rn lc) rfl rfl (Or.inl ⟨rfl,by rintro W' ⟨r0,r1,r2,r3⟩;have ry0:=r0.cell;have ry2:=r2.cell;go_simp⟩) HS.out ?_
       simp only [Act.put,sB,sZ,sS]
       refine hTk (i:=22) (d:=41) (v:=O U (j:Int)) rfl rfl (Or.inl ⟨rfl,by rintro W' ⟨r0,r1,r2,r3⟩;have ry0:=r0.cell;have ry2:=r2.cell;go_simp⟩) HS.out ?_
       simp only [Act.put,sB,sZ,sS]
       refine hTk (i:=23) (d:=42) (v:= .pointer (some ⟨b,o+j * 3,none⟩)) rfl rfl (Or.inl ⟨rfl,by rintro W' ⟨r0,r1,r2,r3⟩;have ry0:=r0.cell;have ry2:=r2.cell;go_simp⟩) HS.out ?_
       simp only [Act.put,sB,sZ,sS]
       refine hTk (i:=24) (d:=43) (v:= .pointer (some ⟨b,o+j * 3+2,none⟩)) rfl rfl (Or.inl ⟨rfl,by rintro W' ⟨r0,r1,r2,r3⟩;have ry0:=r0.cell;have ry2:=r2.cell;go_simp⟩) HS.out ?_
       simp only [Act.put,sB,sZ,sS]
       refine hTk (i:=25) (d:=44) (v:=O U rj) rfl rfl (Or.inl ⟨rfl,by rintro W' ⟨r0,r1,r2,r3⟩;have ry0:=r0.cell;have ry2:=r2.cell;go_simp⟩) HS.out ?_
       simp only [Act.put,sB,sZ,sS]
       refine hTk (i:=26) (d:=45) (v:= .bool false) rfl rfl (Or.inl ⟨rfl,by rintro W' ⟨r0,r1,r2,r3⟩;have ry0:=r0.cell;have ry2:=r2.cell;go_simp⟩) HS.out ?_
       simp only [Act.put,sB,sZ,sS]
       refine hTk (i:=27) (d:=46) (v:= .bool false) rfl rfl (Or.inl ⟨rfl,by rintro W' ⟨r0,r1,r2,r3⟩;have ry0:=r0.cell;have ry2:=r2.cell;go_simp⟩) HS.out ?_
       simp only [Act.put,sB,sZ,sS]
       refine hTk (i:=28) (d:=47) (v:= .bool false) rfl rfl (Or.inl ⟨rfl,by rintro W' ⟨r0,r1,r2,r3⟩;have ry0:=r0.cell;have ry2:=r2.cell;go_simp⟩) HS.out ?_
       simp only [Act.put,sB,sZ,sS]
       refine wpAnyH_done (by kernel_rfl) ?_ _
       clear HS
       refine NoPanic.normal ?_
       (try simp only [Exit.inBlock,Exit.then])
       have HBD:=Z (show Below w.heap.size w wc0 from HB3.out.trans (hbq.mono HB3.out.size))
       have HST:=Z (show leastZ z.ls run m (k+1)=(j:Int) from by unfold leastZ;rw [HRN.out];rw [HMV.out,HF.out,decide_eq_false HFN.out,Int.toNat_natCast,HRKV.out,HRJV.out,HLB.out];rfl)
       clear hbq
       go_wp2
       refine⟨⟨k+1,by have:=HKN.out;omega,by rw [HST.out],by simp,HBD.out⟩, ?_⟩
       exact round_less HKN.out
      | true=>
       have hrr:rk≤rj:=of_decide_eq_true hlb
       clear hlb
       have hbq:Below w3.heap.size w3 w3.drew:=(Below.refl _ _).drew
       have HRS:=Z (show ∀wx,Below w3.heap.size w3 wx→Rw wx (sb) 110 #[O U (x.N:Int),.slice x.wires.A x.wires.n x.wires.c,.slice x.feeds.A x.feeds.n x.feeds.c,O U z.g.least,.slice x.fon.A x.fon.n x.fon.c,.slice x.sw.A x.sw.n x.sw.c,.slice (some ⟨b,o,none⟩) rn lc,.slice (some ⟨rb,ro,none⟩) rn rc,.slice x.parts.A x.parts.n x.parts.c,.slice x.pof.A x.pof.n x.pof.c,.slice (some ⟨x.cb,0,none⟩) x.np x.np,.slice (some ⟨x.vb,0,none⟩) x.np x.np,.slice (some ⟨x.kb,0,none⟩) x.np x.np]∧wx.cell? ⟨rb,ro+k,none⟩=some (.bool true)∧Rw wx (g3) 79 #[O U pl,O U un,O U rk]∧wx.cell? ⟨b,o+j * 3+2,none⟩=some (O U rj) from fun wx hb=>by
        obtain⟨h1,h2,h3⟩:=HRQ.out wx hb
        exact⟨h1,h2,h3,HRJ.out wx hb⟩)
       have HS:=Z (show (fun wx=>Rw wx (sb) 110 #[O U (x.N:Int),.slice x.wires.A x.wires.n x.wires.c,.slice x.feeds.A x.feeds.n x.feeds.c,O U z.g.least,.slice x.fon.A x.fon.n x.fon.c,.slice x.sw.A x.sw.n x.sw.c,.slice (some ⟨b,o,none⟩) rn lc,.slice (some ⟨rb,ro,none⟩) rn rc,.slice x.parts.A x.parts.n x.parts.c,.slice x.pof.A x.pof.n x.pof.c,.slice (some ⟨x.cb,0,none⟩) x.np x.np,.slice (some ⟨x.vb,0,none⟩) x.np x.np,.slice (some ⟨x.kb,0,none⟩) x.np x.np]∧wx.cell? ⟨rb,ro+k,none⟩=some (.bool true)∧Rw wx (g3) 79 #[O U pl,O U un,O U rk]∧wx.cell? ⟨b,o+j * 3+2,none⟩=some (O U rj)) w3.drew from HRS.out _ hbq)
       refine wp_region_noPanic ?_
       refine wp_region_held_drew (S:=fun wx=>Rw wx (sb) 110 #[O U (x.N:Int),.slice x.wires.A x.wires.n x.wires.c,.slice x.feeds.A x.feeds.n x.feeds.c,O U z.g.least,.slice x.fon.A x.fon.n x.fon.c,.slice x.sw.A x.sw.n x.sw.c,.slice (some ⟨b,o,none⟩) rn lc,.slice (some ⟨rb,ro,none⟩) rn rc,.slice x.parts.A x.parts.n x.parts.c,.slice x.pof.A x.pof.n x.pof.c,.slice (some ⟨x.cb,0,none⟩) x.np x.np,.slice (some ⟨x.vb,0,none⟩) x.np x.np,.slice (some ⟨x.kb,0,none⟩) x.np x.np]∧wx.cell? ⟨rb,ro+k,none⟩=some (.bool true)∧Rw wx (g3) 79 #[O U pl,O U un,O U rk]∧wx.cell? ⟨b,o+j * 3+2,none⟩=some (O U rj)) (by kernel_rfl) HS.out (fun _=> ?_)
       refine hTk (i:=0) (d:=19) (v:= .pointer (some ⟨sb,0,none⟩)) rfl rfl (Or.inl ⟨rfl,by rintro W' ⟨r0,r1,r2,r3⟩;have ry0:=r0.cell;have ry2:=r2.cell;go_simp⟩) HS.out ?_
       simp only [Act.put,sB,sZ,sS]
       refine hTk (i:=1) (d:=20) (v:= .pointer (some ⟨sb,0,none⟩)) rfl rfl (Or.inl ⟨rfl,by rintro W' ⟨r0,r1,r2,r3⟩;have ry0:=r0.cell;have ry2:=r2.cell;go_simp⟩) HS.out ?_
       simp only [Act.put,sB,sZ,sS]
       refine hTk (i:=2) (d:=21) (v:= .pointer (some ⟨sb,7,none⟩)) rfl rfl (Or.inl ⟨rfl,by rintro W' ⟨r0,r1,r2,r3⟩;have ry0:=r0.cell;have ry2:=r2.cell;go_simp⟩) HS.out ?_
       simp only [Act.put,sB,sZ,sS]
       refine hTk (i:=3) (d:=22) (v:= .slice (some ⟨rb,ro,none⟩) rn rc) rfl rfl (Or.inl ⟨rfl,by rintro W' ⟨r0,r1,r2,r3⟩;have ry0:=r0.cell;have ry2:=r2.cell;go_simp⟩) HS.out ?_
       simp only [Act.put,sB,sZ,sS]
       refine hTk (i:=4) (d:=23) (v:=O U (k:Int)) rfl rfl (Or.inl ⟨rfl,by rintro W' ⟨r0,r1,r2,r3⟩;have ry0:=r0.cell;have ry2:=r2.cell;go_simp⟩) HS.out ?_
       simp only [Act.put,sB,sZ,sS]
       refine hTk (i:=5) (d:=24) (v:= .pointer (some ⟨rb,ro+k,none⟩)) rfl rfl (Or.inl ⟨rfl,by rintro W' ⟨r0,r1,r2,r3⟩;have ry0:=r0.cell;have ry2:=r2.cell;go_simp⟩) HS.out ?_
       simp only [Act.put,sB,sZ,sS]
       refine hTk (i:=6) (d:=25) (v:= .bool true) rfl rfl (Or.inl ⟨rfl,by rintro W' ⟨r0,r1,r2,r3⟩;have ry0:=r0.cell;have ry2:=r2.cell;go_simp⟩) HS.out ?_
       simp only [Act.put,sB,sZ,sS]
       refine hTk (i:=7) (d:=26) (v:= .bool true) rfl rfl (Or.inl ⟨rfl,by rintro W' ⟨r0,r1,r2,r3⟩;have ry0:=r0.cell;have ry2:=r2.cell;go_simp⟩) HS.out ?_
       simp only [Act.put,sB,sZ,sS]
       refine hTk (i:=8) (d:=27) (v:= .func (.func 115) #[] #[.pointer (some ⟨g4,0,none⟩),.pointer (some ⟨g1,0,none⟩)]) rfl rfl (Or.inl ⟨rfl,by rintro W' ⟨r0,r1,r2,r3⟩;have ry0:=r0.cell;have ry2:=r2.cell;go_simp⟩) HS.out ?_
       simp only [Act.put,sB,sZ,sS]
       refine hTk (i:=9) (d:=28) (v:= .agg #[O U pl,O U un,O U rk]) rfl rfl (Or.inl ⟨rfl,by rintro W' ⟨r0,r1,r2,r3⟩;have ry0:=r0.cell;have ry2:=r2.cell;go_simp⟩) HS.out ?_
       simp only [Act.put,sB,sZ,sS]
       refine wpAnyH_ready (rs:= [10]) (by kernel_rfl) (by simp) ?_
       refine AllReadyH.cons rfl (fun K hK=> ?_) AllReadyH.nil
       rw [if_pos (by rfl)]
       go_simp
       go_at_call 115
       (with_reducible refine (HCL.out _ hbq).mono ?_)
       rintro e wc0 ⟨rfl,hbn⟩
       replace hbq:=hbq.trans (hbn.mono hbq.size)
       clear hbn
       have HS:=Z (show (fun wx=>Rw wx (sb) 110 #[O U (x.N:Int),.slice x.wires.A x.wires.n x.wires.c,.slice x.feeds.A x.feeds.n x.feeds.c,O U z.g.least,.slice x.fon.A x.fon.n x.fon.c,.slice x.sw.A x.sw.n x.sw.c,.slice (some ⟨b,o,none⟩) rn lc,.slice (some ⟨rb,ro,none⟩) rn rc,.slice x.parts.A x.parts.n x.parts.c,.slice x.pof.A x.pof.n x.pof.c,.slice (some ⟨x.cb,0,none⟩) x.np x.np,.slice (some ⟨x.vb,0,none⟩) x.np x.np,.slice (some ⟨x.kb,0,none⟩) x.np x.np]∧wx.cell? ⟨rb,ro+k,none⟩=some (.bool true)∧Rw wx (g3) 79 #[O U pl,O U un,O U rk]∧wx.cell? ⟨b,o+j * 3+2,none⟩=some (O U rj)) wc0 from HRS.out _ hbq)
       refine hK.out _ _ HS.out (fun _=> ?_)
       clear hK K
       try simp only [Act.put,sB,sZ,sS]
       refine hTk (i:=11) (d:=30) (v:= .bool true) rfl rfl (Or.inl ⟨rfl,by rintro W' ⟨r0,r1,r2,r3⟩;have ry0:=r0.cell;have ry2:=r2.cell;go_simp⟩) HS.out ?_
       simp only [Act.put,sB,sZ,sS]
       refine hTk (i:=12) (d:=31) (v:= .bool true) rfl rfl (Or.inl ⟨rfl,by rintro W' ⟨r0,r1,r2,r3⟩;have ry0:=r0.cell;have ry2:=r2.cell;go_simp⟩) HS.out ?_
       simp only [Act.put,sB,sZ,sS]
       refine hTk (i:=13) (d:=32) (v:=O U (j:Int)) rfl rfl (Or.inl ⟨rfl,by rintro W' ⟨r0,r1,r2,r3⟩;have ry0:=r0.cell;have ry2:=r2.cell;go_simp⟩) HS.out ?_
       simp only [Act.put,sB,sZ,sS]
       refine hTk (i:=14) (d:=33) (v:= .bool false) rfl rfl (Or.inl ⟨rfl,by rintro W' ⟨r0,r1,r2,r3⟩;have ry0:=r0.cell;have ry2:=r2.cell;go_simp⟩) HS.out ?_
       simp only [Act.put,sB,sZ,sS]
       refine hTk (i:=15) (d:=34) (v:= .bool false) rfl rfl (Or.inl ⟨rfl,by rintro W' ⟨r0,r1,r2,r3⟩;have ry0:=r0.cell;have ry2:=r2.cell;go_simp⟩) HS.out ?_
       simp only [Act.put,sB,sZ,sS]
       refine hTk (i:=16) (d:=35) (v:= .pointer (some ⟨g3,2,none⟩)) rfl rfl (Or.inl ⟨rfl,by rintro W' ⟨r0,r1,r2,r3⟩;have ry0:=r0.cell;have ry2:=r2.cell;go_simp⟩) HS.out ?_
       simp only [Act.put,sB,sZ,sS]
       refine hTk (i:=17) (d:=36) (v:=O U rk) rfl rfl (Or.inl ⟨rfl,by rintro W' ⟨r0,r1,r2,r3⟩;have ry0:=r0.cell;have ry2:=r2.cell;go_simp⟩) HS.out ?_
       simp only [Act.put,sB,sZ,sS]
       refine hTk (i:=18) (d:=37) (v:= .pointer (some ⟨sb,0,none⟩)) rfl rfl (Or.inl ⟨rfl,by rintro W' ⟨r0,r1,r2,r3⟩;have ry0:=r0.cell;have ry2:=r2.cell;go_simp⟩) HS.out ?_
       simp only [Act.put,sB,sZ,sS]
       refine hTk (i:=19) (d:=38) (v:= .pointer (some ⟨sb,0,none⟩)) rfl rfl (Or.inl ⟨rfl,by rintro W' ⟨r0,r1,r2,r3⟩;have ry0:=r0.cell;have ry2:=r2.cell;go_simp⟩) HS.out ?_
       simp only [Act.put,sB,sZ,sS]
       refine hTk (i:=20) (d:=39) (v:= .pointer (some ⟨sb,6,none⟩)) rfl rfl (Or.inl ⟨rfl,by rintro W' ⟨r0,r1,r2,r3⟩;have ry0:=r0.cell;have ry2:=r2.cell;go_simp⟩) HS.out ?_
       simp only [Act.put,sB,sZ,sS]
       refine hTk (i:=21) (d:=40) (v:= .slice (some ⟨b,o,none⟩) rn lc) rfl rfl (Or.inl ⟨rfl,by rintro W' ⟨r0,r1,r2,r3⟩;have ry0:=r0.cell;have ry2:=r2.cell;go_simp⟩) HS.out ?_
       simp only [Act.put,sB,sZ,sS]
       refine hTk (i:=22) (d:=41) (v:=O U (j:Int)) rfl rfl (Or.inl ⟨rfl,by rintro W' ⟨r0,r1,r2,r3⟩;have ry0:=r0.cell;have ry2:=r2.cell;go_simp⟩) HS.out ?_
       simp only [Act.put,sB,sZ,sS]
       refine hTk (i:=23) (d:=42) (v:= .pointer (some ⟨b,o+j * 3,none⟩)) rfl rfl (Or.inl ⟨rfl,by rintro W' ⟨r0,r1,r2,r3⟩;have ry0:=r0.cell;have ry2:=r2.cell;go_simp⟩) HS.out ?_
       simp only [Act.put,sB,sZ,sS]
       refine hTk (i:=24) (d:=43) (v:= .pointer (some ⟨b,o+j * 3+2,none⟩)) rfl rfl (Or.inl ⟨rfl,by rintro W' ⟨r0,r1,r2,r3⟩;have ry0:=r0.cell;have ry2:=r2.cell;go_simp⟩) HS.out ?_
       simp only [Act.put,sB,sZ,sS]
       refine hTk (i:=25) (d:=44) (v:=O U rj) rfl rfl (Or.inl ⟨rfl,by rintro W' ⟨r0,r1,r2,r3⟩;have ry0:=r0.cell;have ry2:=r2.cell;go_simp⟩) HS.out ?_
       simp only [Act.put,sB,sZ,sS]
       refine hTk (i:=26) (d:=45) (v:= .bool true) rfl rfl (Or.inl ⟨rfl,by rintro W' ⟨r0,r1,r2,r3⟩;have ry0:=r0.cell;have ry2:=r2.cell;go_simp⟩) HS.out ?_
       simp only [Act.put,sB,sZ,sS]
       refine hTk (i:=27) (d:=46) (v:= .bool true) rfl rfl (Or.inl ⟨rfl,by rintro W' ⟨r0,r1,r2,r3⟩;have ry0:=r0.cell;have ry2:=r2.cell;go_simp⟩) HS.out ?_
       simp only [Act.put,sB,sZ,sS]
       refine hTk (i:=28) (d:=47) (v:= .bool true) rfl rfl (Or.inl ⟨rfl,by rintro W' ⟨r0,r1,r2,r3⟩;have ry0:=r0.cell;have ry2:=r2.cell;go_simp⟩) HS.out ?_
       simp only [Act.put,sB,sZ,sS]
       refine wpAnyH_done (by kernel_rfl) ?_ _
       clear HS
       refine NoPanic.normal ?_
       (try simp only [Exit.inBlock,Exit.then])
       have HBD:=Z (show Below w.heap.size w wc0 from HB3.out.trans (hbq.mono HB3.out.size))
       have HST:=Z (show leastZ z.ls run m (k+1)=(k:Int) from by unfold leastZ;rw [HRN.out];rw [HMV.out,HF.out,decide_eq_false HFN.out,Int.toNat_natCast,HRKV.out,HRJV.out,HLB.out];rfl)
       clear hbq
       go_wp2
       refine⟨⟨k+1,by have:=HKN.out;omega,by rw [HST.out],by simp,HBD.out⟩, ?_⟩
       exact round_less HKN.out
  ·have hii:¬(k:Int)<(rn:Int):=by omega
   have hkk:k=z.ls.length:=by have:=HLL.out;omega
   subst hkk
   have HBE:=Z hbr
   clear hbr hkn hk
   go_wp2
   go_ret2
   exact⟨by first|rfl|(rw [HF.out];rfl),HBE.out⟩
end Go.Proofs.YtbnfnpakibkboaaGreat
