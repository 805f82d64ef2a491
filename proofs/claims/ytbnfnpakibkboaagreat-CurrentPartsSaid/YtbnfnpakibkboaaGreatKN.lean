/- Texts C44 C45. -/
import Derived.Test.YtbnfnpakibkboaaGreatKM
set_option linter.unusedVariables false
set_option linter.unusedSimpArgs false
open Go.Value renaming int→O
open Go.IntKind renaming i64→U
open Go.Lib renaming hid→Z
namespace Go.Proofs.YtbnfnpakibkboaaGreat
open Go.RowKit
theorem find_range {n k:Nat} {p:Nat→Bool} (hk:k<n) (hp:p k=true) (hb:∀j,j<k→p j=false):(List.range n).find? p=some k:=by
 rw [List.find?_range_eq_some]
 exact⟨hp,List.mem_range.2 hk,fun j hj=>by rw [hb j hj];rfl⟩
theorem find_range_none {n:Nat} {p:Nat→Bool} (hb:∀j,j<n→p j=false):(List.range n).find? p=none:=by
 rw [List.find?_eq_none]
 intro j hj
 rw [hb j (List.mem_range.1 hj)];simp
theorem info92:(Tryz.prog.info? 92).map (fun i=>(i.zero,i.size,i.bytes))=some (some (.agg #[O U 0,O U 0,O U 0,O U 0]),4,32):=by kernel_rfl
set_option maxRecDepth 100000 in
set_option maxHeartbeats 8000000 in
theorem StA.deadC {w:World} {B sb:Nat} {x:SL} {C:Nat→Ci} {V:Nat→Vi} {K':Nat→Bool} {z:Zs} {fon run:List Bool} {xs:List Pm} (h:StA w B sb x C V K' z fon run xs (fun j=>j<z.np)) (hz:z.Ok) :
  Calls Tryz.prog 98 #[.pointer (some ⟨sb,0,none⟩)] w fun e w'=>RuP (z.dead fon run) w e w':=by
 have hll:=h.ll;have hrn:=h.rn;have hrr:=h.rr.2
 obtain⟨pb,hpof,hpb,hpr⟩:=h.P
 obtain⟨⟨lA,ln,lc⟩,hl⟩:∃s,x.loads=s:=⟨_,rfl⟩
 obtain⟨⟨rA,rn,rc⟩,hru⟩:∃s,x.run=s:=⟨_,rfl⟩
 have hlr:=h.lr;have hRr:=h.rr.1
 rw [hl] at hll hlr
 rw [hru] at hrr hRr
 simp only at hll hrr hlr hRr
 have hle:rn=ln:=by omega
 subst hle
 have hn40:rn≤40:=by have:=loadsB_len hz.lb;have:=hz.n40;omega
 have HR:=Z (show ∀wx,Below w.heap.size w wx→Rw wx sb 110 #[O U (x.N:Int),.slice x.wires.A x.wires.n x.wires.c,.slice x.feeds.A x.feeds.n x.feeds.c,O U z.g.least,.slice x.fon.A x.fon.n x.fon.c,.slice x.sw.A x.sw.n x.sw.c,.slice lA rn lc,.slice rA rn rc,.slice x.parts.A x.parts.n x.parts.c,.slice (some ⟨pb,0,none⟩) z.N z.N,.slice (some ⟨x.cb,0,none⟩) x.np x.np,.slice (some ⟨x.vb,0,none⟩) x.np x.np,.slice (some ⟨x.kb,0,none⟩) x.np x.np] from fun wx hb=>by
  have:=(h.below hb).row
  rw [hl,hru,hpof,h.le] at this
  exact this)
 have HP:=Z (show ∀wx,Below w.heap.size w wx→Rf wx pb 3 z.N (fun c=>O U (z.pof c:Int)) from fun wx hb=>hpr.below hb hpr.lt)
 have m:=(HR.out w (Below.refl _ _)).cell
 have HH:=Z h;have HZ:=Z hz;have HL:=Z hlr;have HRU:=Z hRr;have HLL:=Z hll;have HRL:=Z (show run.length=rn by omega)
 have hb1:=(Below.refl w.heap.size w).alloc (Nat.le_refl _) (.cells #[O U 0,O U 0,O U 0,O U 0] 92)
 have q1:=Rw.new w #[O U 0,O U 0,O U 0,O U 0] 92
 have m1:=(HR.out _ hb1).cell
 obtain⟨W1,hW1⟩:∃y,w.alloc (.cells #[O U 0,O U 0,O U 0,O U 0] 92)=y:=⟨_,rfl⟩
 rw [hW1] at hb1 q1 m1
 have HBW:=Z hb1;have HQ1:=Z q1
 clear h hz hlr hRr hll hrn hrr hpof hpb hpr hl hru hb1 q1
 go_enter Tryz.func98,Tryz.ntmps98
 go_wp2
 clear m m1
 go_loopw [11] (fun s11 wr=>∃k:Nat,k≤rn∧s11=O U (k:Int)∧Below W1.heap.size W1 wr∧(∀j,j<k→z.deadP fon run j=false)) (fun s11 _=>rn - (intOf s11).toNat)
 case atStart=>exact⟨0,Nat.zero_le _,rfl,Below.refl _ _,fun j hj=>absurd hj (Nat.not_lt_zero _)⟩
 case round=>
  obtain⟨k,hk,rfl,hbr,hpr⟩:=hrel
  have HPR:=Z hpr;have HBR:=Z hbr
  by_cases hkn:k<rn
  ·have hii:(k:Int)<(rn:Int):=by omega
   have hi0:(0:Int)≤(k:Int):=by omega
   have hab:(k:Int)+1≤1000:=by omega
   have hkl:k<z.ls.length:=by have:=HLL.out;omega
   have hkr:k<run.length:=by have:=HRL.out;omega
   have hbw:=HBW.out.trans (hbr.mono HBW.out.size)
   obtain⟨b,o,rfl,gb,c0,c1,c2⟩:=load_at (HL.out.below hbw) hkl
   obtain⟨rb,ro,rfl,grb,d0⟩:=bool_at (HRU.out.below hbw) hkr
   have hlv:=HZ.out.lv hkl
   rw [←lvAt_at hkl] at c0 c1 c2
   rw [←runAt_at hkr] at d0
   obtain⟨c,hc⟩:∃c,(lvAt z.ls k).pl.toNat=c:=⟨_,rfl⟩
   rw [hc] at hlv
   obtain⟨un,hun⟩:∃c,(lvAt z.ls k).units=c:=⟨_,rfl⟩
   obtain⟨rk,hrk⟩:∃c,(lvAt z.ls k).rank=c:=⟨_,rfl⟩
   obtain⟨br,hbr2⟩:∃c,runAt run k=c:=⟨_,rfl⟩
   rw [←hlv.1] at c0
   rw [hun] at c1;rw [hrk] at c2;rw [hbr2] at d0
   obtain⟨q,hq⟩:∃q,z.pof c=q:=⟨_,rfl⟩
   have hqn:q<z.np:=by rw [←hq];exact HZ.out.pof_lt hlv.2.1
   obtain⟨al,hal⟩:∃a,(z.on fon q).isEmpty=a:=⟨_,rfl⟩
   have HALV:=Z hal;have HRN:=Z hbr2;have HUN:=Z hun;have HCQ:=Z (show z.pof (lvAt z.ls k).pl.toNat=q from by rw [hc];exact hq)
   have hcN:=hlv.2.1
   have hcz:(c:Int)<(z.N:Int):=by omega
   have hcz0:(0:Int)≤(c:Int):=by omega
   have HKN:=Z hkn
   have hb3:=(Below.refl wr.heap.size wr).alloc (Nat.le_refl _) (.cells #[O U (c:Int),O U un,O U rk] 79)
   have q3:=Rw.new wr #[O U (c:Int),O U un,O U rk] 79
   obtain⟨w3,hw3⟩:∃y,wr.alloc (.cells #[O U (c:Int),O U un,O U rk] 79)=y:=⟨_,rfl⟩
   rw [hw3] at hb3 q3
   have hbw3:=hbw.trans (hb3.mono hbw.size)
   have HB3:=Z (hbr.trans (hb3.mono hbr.size))
   have hp3:=HP.out _ hbw3
   have hpc:=hp3.cell hcN
   rw [hq] at hpc
   obtain⟨g3,hg3⟩:∃g,wr.heap.size=g:=⟨_,rfl⟩
   rw [hg3] at q3
   have HRQ:=Z (show ∀wx,Below w3.heap.size w3 wx→Rw wx sb 110 #[O U (x.N:Int),.slice x.wires.A x.wires.n x.wires.c,.slice x.feeds.A x.feeds.n x.feeds.c,O U z.g.least,.slice x.fon.A x.fon.n x.fon.c,.slice x.sw.A x.sw.n x.sw.c,.slice (some ⟨b,o,none⟩) rn lc,.slice (some ⟨rb,ro,none⟩) rn rc,.slice x.parts.A x.parts.n x.parts.c,.slice (some ⟨pb,0,none⟩) z.N z.N,.slice (some ⟨x.cb,0,none⟩) x.np x.np,.slice (some ⟨x.vb,0,none⟩) x.np x.np,.slice (some ⟨x.kb,0,none⟩) x.np x.np]∧wx.cell? ⟨rb,ro+k,none⟩=some (.bool br)∧Rw wx g3 79 #[O U (c:Int),O U un,O U rk]∧wx.cell? ⟨pb,c,none⟩=some (O U (q:Int)) from fun wx hb=>
    ⟨HR.out wx (hbw3.trans (hb.mono hbw3.size)),far_cell (hb.5 rb (by have:=hb3.size;have:=hbr.size;have:=HBW.out.size;omega)) (far_cell (hb3.5 rb (by have:=hbr.size;have:=HBW.out.size;omega)) d0),q3.below hb q3.lt,far_cell (hb.5 pb hp3.lt) hpc⟩)
   have HAL:=Z (show ∀wx,Below w3.heap.size w3 wx→Calls Tryz.prog 111 #[.pointer (some ⟨sb,0,none⟩),O U (q:Int)] wx fun e w'=>e= .returned (.bool (!al))∧wx=w' from fun wx hb=>by
    rw [←hal]
    exact (HH.out.below (hbw3.trans (hb.mono hbw3.size))).aliveC HZ.out hqn)
   have q3c:=q3.cell
   clear hbr hpr hkn hk hkl hkr hbw gb grb d0 hlv hc hun hrk hbr2 hq hqn hal hb3 q3 hbw3 hp3 hpc
   go_upto_region 4 with (fail)
   clear c0 c1 c2 hw3 hg3 q3c
   cases br with
   | false=>
    have hbq:Below w3.heap.size w3 w3.drew:=(Below.refl _ _).drew
    have HRS:=Z (show ∀wx,Below w3.heap.size w3 wx→Rw wx (sb) 110 #[O U (x.N:Int),.slice x.wires.A x.wires.n x.wires.c,.slice x.feeds.A x.feeds.n x.feeds.c,O U z.g.least,.slice x.fon.A x.fon.n x.fon.c,.slice x.sw.A x.sw.n x.sw.c,.slice (some ⟨b,o,none⟩) rn lc,.slice (some ⟨rb,ro,none⟩) rn rc,.slice x.parts.A x.parts.n x.parts.c,.slice (some ⟨pb,0,none⟩) z.N z.N,.slice (some ⟨x.cb,0,none⟩) x.np x.np,.slice (some ⟨x.vb,0,none⟩) x.np x.np,.slice (some ⟨x.kb,0,none⟩) x.np x.np]∧wx.cell? ⟨rb,ro+k,none⟩=some (.bool false)∧Rw wx (g3) 79 #[O U (c:Int),O U un,O U rk]∧wx.cell? ⟨pb,c,none⟩=some (O U (q:Int)) from fun wx hb=>HRQ.out wx hb)
    have HS:=Z (show (fun wx=>Rw wx (sb) 110 #[O U (x.N:Int),.slice x.wires.A x.wires.n x.wires.c,.slice x.feeds.A x.feeds.n x.feeds.c,O U z.g.least,.slice x.fon.A x.fon.n x.fon.c,.slice x.sw.A x.sw.n x.sw.c,.slice (some ⟨b,o,none⟩) rn lc,.slice (some ⟨rb,ro,none⟩) rn rc,.slice x.parts.A x.parts.n x.parts.c,.slice (some ⟨pb,0,none⟩) z.N z.N,.slice (some ⟨x.cb,0,none⟩) x.np x.np,.slice (some ⟨x.vb,0,none⟩) x.np x.np,.slice (some ⟨x.kb,0,none⟩) x.np x.np]∧wx.cell? ⟨rb,ro+k,none⟩=some (.bool false)∧Rw wx (g3) 79 #[O U (c:Int),O U un,O U rk]∧wx.cell? ⟨pb,c,none⟩=some (O U (q:Int))) w3.drew from HRS.out _ hbq)
    refine wp_region_noPanic ?_
    refine wp_region_held_drew (S:=fun wx=>Rw wx (sb) 110 #[O U (x.N:Int),.slice x.wires.A x.wires.n x.wires.c,.slice x.feeds.A x.feeds.n x.feeds.c,O U z.g.least,.slice x.fon.A x.fon.n x.fon.c,.slice x.sw.A x.sw.n x.sw.c,.slice (some ⟨b,o,none⟩) rn lc,.slice (some ⟨rb,ro,none⟩) rn rc,.slice x.parts.A x.parts.n x.parts.c,.slice (some ⟨pb,0,none⟩) z.N z.N,.slice (some ⟨x.cb,0,none⟩) x.np x.np,.slice (some ⟨x.vb,0,none⟩) x.np x.np,.slice (some ⟨x.kb,0,none⟩) x.np x.np]∧wx.cell? ⟨rb,ro+k,none⟩=some (.bool false)∧Rw wx (g3) 79 #[O U (c:Int),O U un,O U rk]∧wx.cell? ⟨pb,c,none⟩=some (O U (q:Int))) (by kernel_rfl) HS.out (fun _=> ?_)
    refine hTk (i:=0) (d:=16) (v:= .pointer (some ⟨sb,0,none⟩)) rfl rfl (Or.inl ⟨rfl,by rintro W' ⟨r0,r1,r2,r3⟩;have ry0:=r0.cell;have ry2:=r2.cell;go_simp⟩) HS.out ?_
    simp only [Act.put,sB,sZ,sS]
    refine hTk (i:=1) (d:=17) (v:= .pointer (some ⟨sb,0,none⟩)) rfl rfl (Or.inl ⟨rfl,by rintro W' ⟨r0,r1,r2,r3⟩;have ry0:=r0.cell;have ry2:=r2.cell;go_simp⟩) HS.out ?_
    simp only [Act.put,sB,sZ,sS]
    refine hTk (i:=2) (d:=18) (v:= .pointer (some ⟨sb,7,none⟩)) rfl rfl (Or.inl ⟨rfl,by rintro W' ⟨r0,r1,r2,r3⟩;have ry0:=r0.cell;have ry2:=r2.cell;go_simp⟩) HS.out ?_
    simp only [Act.put,sB,sZ,sS]
    refine hTk (i:=3) (d:=19) (v:= .slice (some ⟨rb,ro,none⟩) rn rc) rfl rfl (Or.inl ⟨rfl,by rintro W' ⟨r0,r1,r2,r3⟩;have ry0:=r0.cell;have ry2:=r2.cell;go_simp⟩) HS.out ?_
    simp only [Act.put,sB,sZ,sS]
    refine hTk (i:=4) (d:=20) (v:=O U (k:Int)) rfl rfl (Or.inl ⟨rfl,by rintro W' ⟨r0,r1,r2,r3⟩;have ry0:=r0.cell;have ry2:=r2.cell;go_simp⟩) HS.out ?_
    simp only [Act.put,sB,sZ,sS]
    refine hTk (i:=5) (d:=21) (v:= .pointer (some ⟨rb,ro+k,none⟩)) rfl rfl (Or.inl ⟨rfl,by rintro W' ⟨r0,r1,r2,r3⟩;have ry0:=r0.cell;have ry2:=r2.cell;go_simp⟩) HS.out ?_
    simp only [Act.put,sB,sZ,sS]
    refine hTk (i:=6) (d:=22) (v:= .bool false) rfl rfl (Or.inl ⟨rfl,by rintro W' ⟨r0,r1,r2,r3⟩;have ry0:=r0.cell;have ry2:=r2.cell;go_simp⟩) HS.out ?_
    simp only [Act.put,sB,sZ,sS]
    refine hTk (i:=7) (d:=23) (v:= .bool false) rfl rfl (Or.inl ⟨rfl,by rintro W' ⟨r0,r1,r2,r3⟩;have ry0:=r0.cell;have ry2:=r2.cell;go_simp⟩) HS.out ?_
    simp only [Act.put,sB,sZ,sS]
    refine hTk (i:=8) (d:=24) (v:=undef) rfl rfl (Or.inr ⟨rfl,rfl⟩) HS.out ?_
    simp only [Act.put,sB,sZ,sS]
    refine hTk (i:=9) (d:=25) (v:=undef) rfl rfl (Or.inr ⟨rfl,rfl⟩) HS.out ?_
    simp only [Act.put,sB,sZ,sS]
    refine hTk (i:=10) (d:=26) (v:=undef) rfl rfl (Or.inr ⟨rfl,rfl⟩) HS.out ?_
    simp only [Act.put,sB,sZ,sS]
    refine hTk (i:=11) (d:=27) (v:= .bool false) rfl rfl (Or.inl ⟨rfl,by rintro W' ⟨r0,r1,r2,r3⟩;have ry0:=r0.cell;have ry2:=r2.cell;go_simp⟩) HS.out ?_
    simp only [Act.put,sB,sZ,sS]
    refine hTk (i:=12) (d:=28) (v:= .bool false) rfl rfl (Or.inl ⟨rfl,by rintro W' ⟨r0,r1,r2,r3⟩;have ry0:=r0.cell;have ry2:=r2.cell;go_simp⟩) HS.out ?_
    simp only [Act.put,sB,sZ,sS]
    refine hTk (i:=13) (d:=29) (v:=undef) rfl rfl (Or.inr ⟨rfl,rfl⟩) HS.out ?_
    simp only [Act.put,sB,sZ,sS]
    refine hTk (i:=14) (d:=30) (v:=undef) rfl rfl (Or.inr ⟨rfl,rfl⟩) HS.out ?_
    simp only [Act.put,sB,sZ,sS]
    refine hTk (i:=15) (d:=31) (v:=undef) rfl rfl (Or.inr ⟨rfl,rfl⟩) HS.out ?_
    simp only [Act.put,sB,sZ,sS]
    refine hTk (i:=16) (d:=32) (v:=undef) rfl rfl (Or.inr ⟨rfl,rfl⟩) HS.out ?_
    simp only [Act.put,sB,sZ,sS]
    refine hTk (i:=17) (d:=33) (v:=undef) rfl rfl (Or.inr ⟨rfl,rfl⟩) HS.out ?_
    simp only [Act.put,sB,sZ,sS]
    refine hTk (i:=18) (d:=34) (v:=undef) rfl rfl (Or.inr ⟨rfl,rfl⟩) HS.out ?_
    simp only [Act.put,sB,sZ,sS]
    refine hTk (i:=19) (d:=35) (v:=undef) rfl rfl (Or.inr ⟨rfl,rfl⟩) HS.out ?_
    simp only [Act.put,sB,sZ,sS]
    refine hTk (i:=20) (d:=36) (v:=undef) rfl rfl (Or.inr ⟨rfl,rfl⟩) HS.out ?_
    simp only [Act.put,sB,sZ,sS]
    refine hTk (i:=21) (d:=37) (v:=undef) rfl rfl (Or.inr ⟨rfl,rfl⟩) HS.out ?_
    simp only [Act.put,sB,sZ,sS]
    refine hTk (i:=22) (d:=38) (v:=undef) rfl rfl (Or.inr ⟨rfl,rfl⟩) HS.out ?_
    simp only [Act.put,sB,sZ,sS]
    refine hTk (i:=23) (d:=39) (v:=undef) rfl rfl (Or.inr ⟨rfl,rfl⟩) HS.out ?_
    simp only [Act.put,sB,sZ,sS]
    refine hTk (i:=24) (d:=40) (v:= .bool false) rfl rfl (Or.inl ⟨rfl,by rintro W' ⟨r0,r1,r2,r3⟩;have ry0:=r0.cell;have ry2:=r2.cell;go_simp⟩) HS.out ?_
    simp only [Act.put,sB,sZ,sS]
    refine wpAnyH_done (by kernel_rfl) ?_ _
    clear HS
    refine NoPanic.normal ?_
    (try simp only [Exit.inBlock,Exit.then])
    have HBD:=Z (show Below W1.heap.size W1 w3.drew from HB3.out.drew)
    have HNX:=Z (show ∀j,j<k+1→z.deadP fon run j=false from fun j hj=>by
     rcases Nat.lt_or_ge j k with q|q
     ·exact HPR.out j q
     ·have:j=k:=by omega
      subst this
      unfold Zs.deadP;rw [HRN.out];rfl)
    go_wp2
    refine⟨⟨k+1,by have:=HKN.out;omega,by simp,HBD.out,HNX.out⟩, ?_⟩
    exact round_less HKN.out
   | true=>
    by_cases hu0:un=0
    ·subst hu0
     have hbq:Below w3.heap.size w3 w3.drew:=(Below.refl _ _).drew
     have HRS:=Z (show ∀wx,Below w3.heap.size w3 wx→Rw wx (sb) 110 #[O U (x.N:Int),.slice x.wires.A x.wires.n x.wires.c,.slice x.feeds.A x.feeds.n x.feeds.c,O U z.g.least,.slice x.fon.A x.fon.n x.fon.c,.slice x.sw.A x.sw.n x.sw.c,.slice (some ⟨b,o,none⟩) rn lc,.slice (some ⟨rb,ro,none⟩) rn rc,.slice x.parts.A x.parts.n x.parts.c,.slice (some ⟨pb,0,none⟩) z.N z.N,.slice (some ⟨x.cb,0,none⟩) x.np x.np,.slice (some ⟨x.vb,0,none⟩) x.np x.np,.slice (some ⟨x.kb,0,none⟩) x.np x.np]∧wx.cell? ⟨rb,ro+k,none⟩=some (.bool true)∧Rw wx (g3) 79 #[O U (c:Int),O U 0,O U rk]∧wx.cell? ⟨pb,c,none⟩=some (O U (q:Int)) from fun wx hb=>HRQ.out wx hb)
     have HS:=Z (show (fun wx=>Rw wx (sb) 110 #[O U (x.N:Int),.slice x.wires.A x.wires.n x.wires.c,.slice x.feeds.A x.feeds.n x.feeds.c,O U z.g.least,.slice x.fon.A x.fon.n x.fon.c,.slice x.sw.A x.sw.n x.sw.c,.slice (some ⟨b,o,none⟩) rn lc,.slice (some ⟨rb,ro,none⟩) rn rc,.slice x.parts.A x.parts.n x.parts.c,.slice (some ⟨pb,0,none⟩) z.N z.N,.slice (some ⟨x.cb,0,none⟩) x.np x.np,.slice (some ⟨x.vb,0,none⟩) x.np x.np,.slice (some ⟨x.kb,0,none⟩) x.np x.np]∧wx.cell? ⟨rb,ro+k,none⟩=some (.bool true)∧Rw wx (g3) 79 #[O U (c:Int),O U 0,O U rk]∧wx.cell? ⟨pb,c,none⟩=some (O U (q:Int))) w3.drew from HRS.out _ hbq)
     refine wp_region_noPanic ?_
     refine wp_region_held_drew (S:=fun wx=>Rw wx (sb) 110 #[O U (x.N:Int),.slice x.wires.A x.wires.n x.wires.c,.slice x.feeds.A x.feeds.n x.feeds.c,O U z.g.least,.slice x.fon.A x.fon.n x.fon.c,.slice x.sw.A x.sw.n x.sw.c,.slice (some ⟨b,o,none⟩) rn lc,.slice (some ⟨rb,ro,none⟩) rn rc,.slice x.parts.A x.parts.n x.parts.c,.slice (some ⟨pb,0,none⟩) z.N z.N,.slice (some ⟨x.cb,0,none⟩) x.np x.np,.slice (some ⟨x.vb,0,none⟩) x.np x.np,.slice (some ⟨x.kb,0,none⟩) x.np x.np]∧wx.cell? ⟨rb,ro+k,none⟩=some (.bool true)∧Rw wx (g3) 79 #[O U (c:Int),O U 0,O U rk]∧wx.cell? ⟨pb,c,none⟩=some (O U (q:Int))) (by kernel_rfl) HS.out (fun _=> ?_)
     refine hTk (i:=0) (d:=16) (v:= .pointer (some ⟨sb,0,none⟩)) rfl rfl (Or.inl ⟨rfl,by rintro W' ⟨r0,r1,r2,r3⟩;have ry0:=r0.cell;have ry2:=r2.cell;go_simp⟩) HS.out ?_
     simp only [Act.put,sB,sZ,sS]
     refine hTk (i:=1) (d:=17) (v:= .pointer (some ⟨sb,0,none⟩)) rfl rfl (Or.inl ⟨rfl,by rintro W' ⟨r0,r1,r2,r3⟩;have ry0:=r0.cell;have ry2:=r2.cell;go_simp⟩) HS.out ?_
     simp only [Act.put,sB,sZ,sS]
     refine hTk (i:=2) (d:=18) (v:= .pointer (some ⟨sb,7,none⟩)) rfl rfl (Or.inl ⟨rfl,by rintro W' ⟨r0,r1,r2,r3⟩;have ry0:=r0.cell;have ry2:=r2.cell;go_simp⟩) HS.out ?_
     simp only [Act.put,sB,sZ,sS]
     refine hTk (i:=3) (d:=19) (v:= .slice (some ⟨rb,ro,none⟩) rn rc) rfl rfl (Or.inl ⟨rfl,by rintro W' ⟨r0,r1,r2,r3⟩;have ry0:=r0.cell;have ry2:=r2.cell;go_simp⟩) HS.out ?_
     simp only [Act.put,sB,sZ,sS]
     refine hTk (i:=4) (d:=20) (v:=O U (k:Int)) rfl rfl (Or.inl ⟨rfl,by rintro W' ⟨r0,r1,r2,r3⟩;have ry0:=r0.cell;have ry2:=r2.cell;go_simp⟩) HS.out ?_
     simp only [Act.put,sB,sZ,sS]
     refine hTk (i:=5) (d:=21) (v:= .pointer (some ⟨rb,ro+k,none⟩)) rfl rfl (Or.inl ⟨rfl,by rintro W' ⟨r0,r1,r2,r3⟩;have ry0:=r0.cell;have ry2:=r2.cell;go_simp⟩) HS.out ?_
     simp only [Act.put,sB,sZ,sS]
     refine hTk (i:=6) (d:=22) (v:= .bool true) rfl rfl (Or.inl ⟨rfl,by rintro W' ⟨r0,r1,r2,r3⟩;have ry0:=r0.cell;have ry2:=r2.cell;go_simp⟩) HS.out ?_
     simp only [Act.put,sB,sZ,sS]
     refine hTk (i:=7) (d:=23) (v:= .bool true) rfl rfl (Or.inl ⟨rfl,by rintro W' ⟨r0,r1,r2,r3⟩;have ry0:=r0.cell;have ry2:=r2.cell;go_simp⟩) HS.out ?_
     simp only [Act.put,sB,sZ,sS]
     refine hTk (i:=8) (d:=24) (v:= .pointer (some ⟨g3,1,none⟩)) rfl rfl (Or.inl ⟨rfl,by rintro W' ⟨r0,r1,r2,r3⟩;have ry0:=r0.cell;have ry2:=r2.cell;go_simp⟩) HS.out ?_
     simp only [Act.put,sB,sZ,sS]
     refine hTk (i:=9) (d:=25) (v:=O U 0) rfl rfl (Or.inl ⟨rfl,by rintro W' ⟨r0,r1,r2,r3⟩;have ry0:=r0.cell;have ry2:=r2.cell;go_simp⟩) HS.out ?_
     simp only [Act.put,sB,sZ,sS]
     refine hTk (i:=10) (d:=26) (v:= .bool false) rfl rfl (Or.inl ⟨rfl,by rintro W' ⟨r0,r1,r2,r3⟩;have ry0:=r0.cell;have ry2:=r2.cell;go_simp⟩) HS.out ?_
     simp only [Act.put,sB,sZ,sS]
     refine hTk (i:=11) (d:=27) (v:= .bool false) rfl rfl (Or.inl ⟨rfl,by rintro W' ⟨r0,r1,r2,r3⟩;have ry0:=r0.cell;have ry2:=r2.cell;go_simp⟩) HS.out ?_
     simp only [Act.put,sB,sZ,sS]
     refine hTk (i:=12) (d:=28) (v:= .bool false) rfl rfl (Or.inl ⟨rfl,by rintro W' ⟨r0,r1,r2,r3⟩;have ry0:=r0.cell;have ry2:=r2.cell;go_simp⟩) HS.out ?_
     simp only [Act.put,sB,sZ,sS]
     refine hTk (i:=13) (d:=29) (v:=undef) rfl rfl (Or.inr ⟨rfl,rfl⟩) HS.out ?_
     simp only [Act.put,sB,sZ,sS]
     refine hTk (i:=14) (d:=30) (v:=undef) rfl rfl (Or.inr ⟨rfl,rfl⟩) HS.out ?_
     simp only [Act.put,sB,sZ,sS]
     refine hTk (i:=15) (d:=31) (v:=undef) rfl rfl (Or.inr ⟨rfl,rfl⟩) HS.out ?_
     simp only [Act.put,sB,sZ,sS]
     refine hTk (i:=16) (d:=32) (v:=undef) rfl rfl (Or.inr ⟨rfl,rfl⟩) HS.out ?_
     simp only [Act.put,sB,sZ,sS]
     refine hTk (i:=17) (d:=33) (v:=undef) rfl rfl (Or.inr ⟨rfl,rfl⟩) HS.out ?_
     simp only [Act.put,sB,sZ,sS]
     refine hTk (i:=18) (d:=34) (v:=undef) rfl rfl (Or.inr ⟨rfl,rfl⟩) HS.out ?_
     simp only [Act.put,sB,sZ,sS]
     refine hTk (i:=19) (d:=35) (v:=undef) rfl rfl (Or.inr ⟨rfl,rfl⟩) HS.out ?_
     simp only [Act.put,sB,sZ,sS]
     refine hTk (i:=20) (d:=36) (v:=undef) rfl rfl (Or.inr ⟨rfl,rfl⟩) HS.out ?_
     simp only [Act.put,sB,sZ,sS]
     refine hTk (i:=21) (d:=37) (v:=undef) rfl rfl (Or.inr ⟨rfl,rfl⟩) HS.out ?_
     simp only [Act.put,sB,sZ,sS]
     refine hTk (i:=22) (d:=38) (v:=undef) rfl rfl (Or.inr ⟨rfl,rfl⟩) HS.out ?_
     simp only [Act.put,sB,sZ,sS]
     refine hTk (i:=23) (d:=39) (v:=undef) rfl rfl (Or.inr ⟨rfl,rfl⟩) HS.out ?_
     simp only [Act.put,sB,sZ,sS]
     refine hTk (i:=24) (d:=40) (v:= .bool false) rfl rfl (Or.inl ⟨rfl,by rintro W' ⟨r0,r1,r2,r3⟩;have ry0:=r0.cell;have ry2:=r2.cell;go_simp⟩) HS.out ?_
     simp only [Act.put,sB,sZ,sS]
     refine wpAnyH_done (by kernel_rfl) ?_ _
     clear HS
     refine NoPanic.normal ?_
     (try simp only [Exit.inBlock,Exit.then])
     have HBD:=Z (show Below W1.heap.size W1 w3.drew from HB3.out.drew)
     have HNX:=Z (show ∀j,j<k+1→z.deadP fon run j=false from fun j hj=>by
      rcases Nat.lt_or_ge j k with q|q
      ·exact HPR.out j q
      ·have:j=k:=by omega
       subst this
       unfold Zs.deadP;rw [HRN.out,HUN.out];rfl)
     go_wp2
     refine⟨⟨k+1,by have:=HKN.out;omega,by simp,HBD.out,HNX.out⟩, ?_⟩
     exact round_less HKN.out
    ·have hub:(un == 0)=false:=by simp [hu0]
     have HNE:=Z hu0
     cases al with
     | false=>
      have hbq:Below w3.heap.size w3 w3.drew:=(Below.refl _ _).drew
      have HRS:=Z (show ∀wx,Below w3.heap.size w3 wx→Rw wx (sb) 110 #[O U (x.N:Int),.slice x.wires.A x.wires.n x.wires.c,.slice x.feeds.A x.feeds.n x.feeds.c,O U z.g.least,.slice x.fon.A x.fon.n x.fon.c,.slice x.sw.A x.sw.n x.sw.c,.slice (some ⟨b,o,none⟩) rn lc,.slice (some ⟨rb,ro,none⟩) rn rc,.slice x.parts.A x.parts.n x.parts.c,.slice (some ⟨pb,0,none⟩) z.N z.N,.slice (some ⟨x.cb,0,none⟩) x.np x.np,.slice (some ⟨x.vb,0,none⟩) x.np x.np,.slice (some ⟨x.kb,0,none⟩) x.np x.np]∧wx.cell? ⟨rb,ro+k,none⟩=some (.bool true)∧Rw wx (g3) 79 #[O U (c:Int),O U un,O U rk]∧wx.cell? ⟨pb,c,none⟩=some (O U (q:Int)) from fun wx hb=>HRQ.out wx hb)
      have HS:=Z (show (fun wx=>Rw wx (sb) 110 #[O U (x.N:Int),.slice x.wires.A x.wires.n x.wires.c,.slice x.feeds.A x.feeds.n x.feeds.c,O U z.g.least,.slice x.fon.A x.fon.n x.fon.c,.slice x.sw.A x.sw.n x.sw.c,.slice (some ⟨b,o,none⟩) rn lc,.slice (some ⟨rb,ro,none⟩) rn rc,.slice x.parts.A x.parts.n x.parts.c,.slice (some ⟨pb,0,none⟩) z.N z.N,.slice (some ⟨x.cb,0,none⟩) x.np x.np,.slice (some ⟨x.vb,0,none⟩) x.np x.np,.slice (some ⟨x.kb,0,none⟩) x.np x.np]∧wx.cell? ⟨rb,ro+k,none⟩=some (.bool true)∧Rw wx (g3) 79 #[O U (c:Int),O U un,O U rk]∧wx.cell? ⟨pb,c,none⟩=some (O U (q:Int))) w3.drew from HRS.out _ hbq)
      refine wp_region_noPanic ?_
      refine wp_region_held_drew (S:=fun wx=>Rw wx (sb) 110 #[O U (x.N:Int),.slice x.wires.A x.wires.n x.wires.c,.slice x.feeds.A x.feeds.n x.feeds.c,O U z.g.least,.slice x.fon.A x.fon.n x.fon.c,.slice x.sw.A x.sw.n x.sw.c,.slice (some ⟨b,o,none⟩) rn lc,.slice (some ⟨rb,ro,none⟩) rn rc,.slice x.parts.A x.parts.n x.parts.c,.slice (some ⟨pb,0,none⟩) z.N z.N,.slice (some ⟨x.cb,0,none⟩) x.np x.np,.slice (some ⟨x.vb,0,none⟩) x.np x.np,.slice (some ⟨x.kb,0,none⟩) x.np x.np]∧wx.cell? ⟨rb,ro+k,none⟩=some (.bool true)∧Rw wx (g3) 79 #[O U (c:Int),O U un,O U rk]∧wx.cell? ⟨pb,c,none⟩=some (O U (q:Int))) (by kernel_rfl) HS.out (fun _=> ?_)
      refine hTk (i:=0) (d:=16) (v:= .pointer (some ⟨sb,0,none⟩)) rfl rfl (Or.inl ⟨rfl,by rintro W' ⟨r0,r1,r2,r3⟩;have ry0:=r0.cell;have ry2:=r2.cell;go_simp⟩) HS.out ?_
      simp only [Act.put,sB,sZ,sS]
      refine hTk (i:=1) (d:=17) (v:= .pointer (some ⟨sb,0,none⟩)) rfl rfl (Or.inl ⟨rfl,by rintro W' ⟨r0,r1,r2,r3⟩;have ry0:=r0.cell;have ry2:=r2.cell;go_simp⟩) HS.out ?_
      simp only [Act.put,sB,sZ,sS]
      refine hTk (i:=2) (d:=18) (v:= .pointer (some ⟨sb,7,none⟩)) rfl rfl (Or.inl ⟨rfl,by rintro W' ⟨r0,r1,r2,r3⟩;have ry0:=r0.cell;have ry2:=r2.cell;go_simp⟩) HS.out ?_
      simp only [Act.put,sB,sZ,sS]
      refine hTk (i:=3) (d:=19) (v:= .slice (some ⟨rb,ro,none⟩) rn rc) rfl rfl (Or.inl ⟨rfl,by rintro W' ⟨r0,r1,r2,r3⟩;have ry0:=r0.cell;have ry2:=r2.cell;go_simp⟩) HS.out ?_
      simp only [Act.put,sB,sZ,sS]
      refine hTk (i:=4) (d:=20) (v:=O U (k:Int)) rfl rfl (Or.inl ⟨rfl,by rintro W' ⟨r0,r1,r2,r3⟩;have ry0:=r0.cell;have ry2:=r2.cell;go_simp⟩) HS.out ?_
      simp only [Act.put,sB,sZ,sS]
      refine hTk (i:=5) (d:=21) (v:= .pointer (some ⟨rb,ro+k,none⟩)) rfl rfl (Or.inl ⟨rfl,by rintro W' ⟨r0,r1,r2,r3⟩;have ry0:=r0.cell;have ry2:=r2.cell;go_simp⟩) HS.out ?_
      simp only [Act.put,sB,sZ,sS]
      refine hTk (i:=6) (d:=22) (v:= .bool true) rfl rfl (Or.inl ⟨rfl,by rintro W' ⟨r0,r1,r2,r3⟩;have ry0:=r0.cell;have ry2:=r2.cell;go_simp⟩) HS.out ?_
      simp only [Act.put,sB,sZ,sS]
      refine hTk (i:=7) (d:=23) (v:= .bool true) rfl rfl (Or.inl ⟨rfl,by rintro W' ⟨r0,r1,r2,r3⟩;have ry0:=r0.cell;have ry2:=r2.cell;go_simp⟩) HS.out ?_
      simp only [Act.put,sB,sZ,sS]
      refine hTk (i:=8) (d:=24) (v:= .pointer (some ⟨g3,1,none⟩)) rfl rfl (Or.inl ⟨rfl,by rintro W' ⟨r0,r1,r2,r3⟩;have ry0:=r0.cell;have ry2:=r2.cell;go_simp⟩) HS.out ?_
      simp only [Act.put,sB,sZ,sS]
      refine hTk (i:=9) (d:=25) (v:=O U un) rfl rfl (Or.inl ⟨rfl,by rintro W' ⟨r0,r1,r2,r3⟩;have ry0:=r0.cell;have ry2:=r2.cell;go_simp⟩) HS.out ?_
      simp only [Act.put,sB,sZ,sS]
      refine hTk (i:=10) (d:=26) (v:= .bool true) rfl rfl (Or.inl ⟨rfl,by rintro W' ⟨r0,r1,r2,r3⟩;have ry0:=r0.cell;have ry2:=r2.cell;go_simp⟩) HS.out ?_
      simp only [Act.put,sB,sZ,sS]
      refine hTk (i:=11) (d:=27) (v:= .bool true) rfl rfl (Or.inl ⟨rfl,by rintro W' ⟨r0,r1,r2,r3⟩;have ry0:=r0.cell;have ry2:=r2.cell;go_simp⟩) HS.out ?_
      simp only [Act.put,sB,sZ,sS]
      refine hTk (i:=12) (d:=28) (v:= .bool true) rfl rfl (Or.inl ⟨rfl,by rintro W' ⟨r0,r1,r2,r3⟩;have ry0:=r0.cell;have ry2:=r2.cell;go_simp⟩) HS.out ?_
      simp only [Act.put,sB,sZ,sS]
      refine hTk (i:=13) (d:=29) (v:= .pointer (some ⟨sb,0,none⟩)) rfl rfl (Or.inl ⟨rfl,by rintro W' ⟨r0,r1,r2,r3⟩;have ry0:=r0.cell;have ry2:=r2.cell;go_simp⟩) HS.out ?_
      simp only [Act.put,sB,sZ,sS]
      refine hTk (i:=14) (d:=30) (v:= .pointer (some ⟨sb,0,none⟩)) rfl rfl (Or.inl ⟨rfl,by rintro W' ⟨r0,r1,r2,r3⟩;have ry0:=r0.cell;have ry2:=r2.cell;go_simp⟩) HS.out ?_
      simp only [Act.put,sB,sZ,sS]
      refine hTk (i:=15) (d:=31) (v:= .pointer (some ⟨sb,0,none⟩)) rfl rfl (Or.inl ⟨rfl,by rintro W' ⟨r0,r1,r2,r3⟩;have ry0:=r0.cell;have ry2:=r2.cell;go_simp⟩) HS.out ?_
      simp only [Act.put,sB,sZ,sS]
      refine hTk (i:=16) (d:=32) (v:= .pointer (some ⟨sb,9,none⟩)) rfl rfl (Or.inl ⟨rfl,by rintro W' ⟨r0,r1,r2,r3⟩;have ry0:=r0.cell;have ry2:=r2.cell;go_simp⟩) HS.out ?_
      simp only [Act.put,sB,sZ,sS]
      refine hTk (i:=17) (d:=33) (v:= .slice (some ⟨pb,0,none⟩) z.N z.N) rfl rfl (Or.inl ⟨rfl,by rintro W' ⟨r0,r1,r2,r3⟩;have ry0:=r0.cell;have ry2:=r2.cell;go_simp⟩) HS.out ?_
      simp only [Act.put,sB,sZ,sS]
      refine hTk (i:=18) (d:=34) (v:= .pointer (some ⟨g3,0,none⟩)) rfl rfl (Or.inl ⟨rfl,by rintro W' ⟨r0,r1,r2,r3⟩;have ry0:=r0.cell;have ry2:=r2.cell;go_simp⟩) HS.out ?_
      simp only [Act.put,sB,sZ,sS]
      refine hTk (i:=19) (d:=35) (v:=O U (c:Int)) rfl rfl (Or.inl ⟨rfl,by rintro W' ⟨r0,r1,r2,r3⟩;have ry0:=r0.cell;have ry2:=r2.cell;go_simp⟩) HS.out ?_
      simp only [Act.put,sB,sZ,sS]
      refine hTk (i:=20) (d:=36) (v:= .pointer (some ⟨pb,c,none⟩)) rfl rfl (Or.inl ⟨rfl,by rintro W' ⟨r0,r1,r2,r3⟩;have ry0:=r0.cell;have ry2:=r2.cell;go_simp⟩) HS.out ?_
      simp only [Act.put,sB,sZ,sS]
      refine hTk (i:=21) (d:=37) (v:=O U (q:Int)) rfl rfl (Or.inl ⟨rfl,by rintro W' ⟨r0,r1,r2,r3⟩;have ry0:=r0.cell;have ry2:=r2.cell;go_simp⟩) HS.out ?_
      simp only [Act.put,sB,sZ,sS]
      refine wpAnyH_ready (rs:= [22]) (by kernel_rfl) (by simp) ?_
      refine AllReadyH.cons rfl (fun K hK=> ?_) AllReadyH.nil
      rw [if_pos (by rfl)]
      go_simp
      go_at_call 111
      (with_reducible refine (HAL.out _ hbq).mono ?_)
      rintro e wc0 ⟨rfl,rfl⟩
      have HS:=Z (show (fun wx=>Rw wx (sb) 110 #[O U (x.N:Int),.slice x.wires.A x.wires.n x.wires.c,.slice x.feeds.A x.feeds.n x.feeds.c,O U z.g.least,.slice x.fon.A x.fon.n x.fon.c,.slice x.sw.A x.sw.n x.sw.c,.slice (some ⟨b,o,none⟩) rn lc,.slice (some ⟨rb,ro,none⟩) rn rc,.slice x.parts.A x.parts.n x.parts.c,.slice (some ⟨pb,0,none⟩) z.N z.N,.slice (some ⟨x.cb,0,none⟩) x.np x.np,.slice (some ⟨x.vb,0,none⟩) x.np x.np,.slice (some ⟨x.kb,0,none⟩) x.np x.np]∧wx.cell? ⟨rb,ro+k,none⟩=some (.bool true)∧Rw wx (g3) 79 #[O U (c:Int),O U un,O U rk]∧wx.cell? ⟨pb,c,none⟩=some (O U (q:Int))) w3.drew from HRS.out _ hbq)
      refine hK.out _ _ HS.out (fun _=> ?_)
      clear hK K
      try simp only [Act.put,sB,sZ,sS]
      refine hTk (i:=23) (d:=39) (v:= .bool false) rfl rfl (Or.inl ⟨rfl,by rintro W' ⟨r0,r1,r2,r3⟩;have ry0:=r0.cell;have ry2:=r2.cell;go_simp⟩) HS.out ?_
      simp only [Act.put,sB,sZ,sS]
      refine hTk (i:=24) (d:=40) (v:= .bool false) rfl rfl (Or.inl ⟨rfl,by rintro W' ⟨r0,r1,r2,r3⟩;have ry0:=r0.cell;have ry2:=r2.cell;go_simp⟩) HS.out ?_
      simp only [Act.put,sB,sZ,sS]
      refine wpAnyH_done (by kernel_rfl) ?_ _
      clear HS
      refine NoPanic.normal ?_
      (try simp only [Exit.inBlock,Exit.then])
      have HBD:=Z (show Below W1.heap.size W1 w3.drew from HB3.out.drew)
      have HNX:=Z (show ∀j,j<k+1→z.deadP fon run j=false from fun j hj=>by
       rcases Nat.lt_or_ge j k with q|q
       ·exact HPR.out j q
       ·have:j=k:=by omega
        subst this
        unfold Zs.deadP;rw [HRN.out,HUN.out,HCQ.out,HALV.out,decide_eq_false HNE.out];rfl)
      go_wp2
      refine⟨⟨k+1,by have:=HKN.out;omega,by simp,HBD.out,HNX.out⟩, ?_⟩
      exact round_less HKN.out
     | true=>
      have hbq:Below w3.heap.size w3 w3.drew:=(Below.refl _ _).drew
      have HRS:=Z (show ∀wx,Below w3.heap.size w3 wx→Rw wx (sb) 110 #[O U (x.N:Int),.slice x.wires.A x.wires.n x.wires.c,.slice x.feeds.A x.feeds.n x.feeds.c,O U z.g.least,.slice x.fon.A x.fon.n x.fon.c,.slice x.sw.A x.sw.n x.sw.c,.slice (some ⟨b,o,none⟩) rn lc,.slice (some ⟨rb,ro,none⟩) rn rc,.slice x.parts.A x.parts.n x.parts.c,.slice (some ⟨pb,0,none⟩) z.N z.N,.slice (some ⟨x.cb,0,none⟩) x.np x.np,.slice (some ⟨x.vb,0,none⟩) x.np x.np,.slice (some ⟨x.kb,0,none⟩) x.np x.np]∧wx.cell? ⟨rb,ro+k,none⟩=some (.bool true)∧Rw wx (g3) 79 #[O U (c:Int),O U un,O U rk]∧wx.cell? ⟨pb,c,none⟩=some (O U (q:Int)) from fun wx hb=>HRQ.out wx hb)
      have HS:=Z (show (fun wx=>Rw wx (sb) 110 #[O U (x.N:Int),.slice x.wires.A x.wires.n x.wires.c,.slice x.feeds.A x.feeds.n x.feeds.c,O U z.g.least,.slice x.fon.A x.fon.n x.fon.c,.slice x.sw.A x.sw.n x.sw.c,.slice (some ⟨b,o,none⟩) rn lc,.slice (some ⟨rb,ro,none⟩) rn rc,.slice x.parts.A x.parts.n x.parts.c,.slice (some ⟨pb,0,none⟩) z.N z.N,.slice (some ⟨x.cb,0,none⟩) x.np x.np,.slice (some ⟨x.vb,0,none⟩) x.np x.np,.slice (some ⟨x.kb,0,none⟩) x.np x.np]∧wx.cell? ⟨rb,ro+k,none⟩=some (.bool true)∧Rw wx (g3) 79 #[O U (c:Int),O U un,O U rk]∧wx.cell? ⟨pb,c,none⟩=some (O U (q:Int))) w3.drew from HRS.out _ hbq)
      refine wp_region_noPanic ?_
      refine wp_region_held_drew (S:=fun wx=>Rw wx (sb) 110 #[O U (x.N:Int),.slice x.wires.A x.wires.n x.wires.c,.slice x.feeds.A x.feeds.n x.feeds.c,O U z.g.least,.slice x.fon.A x.fon.n x.fon.c,.slice x.sw.A x.sw.n x.sw.c,.slice (some ⟨b,o,none⟩) rn lc,.slice (some ⟨rb,ro,none⟩) rn rc,.slice x.parts.A x.parts.n x.parts.c,.slice (some ⟨pb,0,none⟩) z.N z.N,.slice (some ⟨x.cb,0,none⟩) x.np x.np,.slice (some ⟨x.vb,0,none⟩) x.np x.np,.slice (some ⟨x.kb,0,none⟩) x.np x.np]∧wx.cell? ⟨rb,ro+k,none⟩=some (.bool true)∧Rw wx (g3) 79 #[O U (c:Int),O U un,O U rk]∧wx.cell? ⟨pb,c,none⟩=some (O U (q:Int))) (by kernel_rfl) HS.out (fun _=> ?_)
      refine hTk (i:=0) (d:=16) (v:= .pointer (some ⟨sb,0,none⟩)) rfl rfl (Or.inl ⟨rfl,by rintro W' ⟨r0,r1,r2,r3⟩;have ry0:=r0.cell;have ry2:=r2.cell;go_simp⟩) HS.out ?_
      simp only [Act.put,sB,sZ,sS]
      refine hTk (i:=1) (d:=17) (v:= .pointer (some ⟨sb,0,none⟩)) rfl rfl (Or.inl ⟨rfl,by rintro W' ⟨r0,r1,r2,r3⟩;have ry0:=r0.cell;have ry2:=r2.cell;go_simp⟩) HS.out ?_
      simp only [Act.put,sB,sZ,sS]
      refine hTk (i:=2) (d:=18) (v:= .pointer (some ⟨sb,7,none⟩)) rfl rfl (Or.inl ⟨rfl,by rintro W' ⟨r0,r1,r2,r3⟩;have ry0:=r0.cell;have ry2:=r2.cell;go_simp⟩) HS.out ?_
      simp only [Act.put,sB,sZ,sS]
      refine hTk (i:=3) (d:=19) (v:= .slice (some ⟨rb,ro,none⟩) rn rc) rfl rfl (Or.inl ⟨rfl,by rintro W' ⟨r0,r1,r2,r3⟩;have ry0:=r0.cell;have ry2:=r2.cell;go_simp⟩) HS.out ?_
      simp only [Act.put,sB,sZ,sS]
      refine hTk (i:=4) (d:=20) (v:=O U (k:Int)) rfl rfl (Or.inl ⟨rfl,by rintro W' ⟨r0,r1,r2,r3⟩;have ry0:=r0.cell;have ry2:=r2.cell;go_simp⟩) HS.out ?_
      simp only [Act.put,sB,sZ,sS]
      refine hTk (i:=5) (d:=21) (v:= .pointer (some ⟨rb,ro+k,none⟩)) rfl rfl (Or.inl ⟨rfl,by rintro W' ⟨r0,r1,r2,r3⟩;have ry0:=r0.cell;have ry2:=r2.cell;go_simp⟩) HS.out ?_
      simp only [Act.put,sB,sZ,sS]
      refine hTk (i:=6) (d:=22) (v:= .bool true) rfl rfl (Or.inl ⟨rfl,by rintro W' ⟨r0,r1,r2,r3⟩;have ry0:=r0.cell;have ry2:=r2.cell;go_simp⟩) HS.out ?_
      simp only [Act.put,sB,sZ,sS]
      refine hTk (i:=7) (d:=23) (v:= .bool true) rfl rfl (Or.inl ⟨rfl,by rintro W' ⟨r0,r1,r2,r3⟩;have ry0:=r0.cell;have ry2:=r2.cell;go_simp⟩) HS.out ?_
      simp only [Act.put,sB,sZ,sS]
      refine hTk (i:=8) (d:=24) (v:= .pointer (some ⟨g3,1,none⟩)) rfl rfl (Or.inl ⟨rfl,by rintro W' ⟨r0,r1,r2,r3⟩;have ry0:=r0.cell;have ry2:=r2.cell;go_simp⟩) HS.out ?_
      simp only [Act.put,sB,sZ,sS]
      refine hTk (i:=9) (d:=25) (v:=O U un) rfl rfl (Or.inl ⟨rfl,by rintro W' ⟨r0,r1,r2,r3⟩;have ry0:=r0.cell;have ry2:=r2.cell;go_simp⟩) HS.out ?_
      simp only [Act.put,sB,sZ,sS]
      refine hTk (i:=10) (d:=26) (v:= .bool true) rfl rfl (Or.inl ⟨rfl,by rintro W' ⟨r0,r1,r2,r3⟩;have ry0:=r0.cell;have ry2:=r2.cell;go_simp⟩) HS.out ?_
      simp only [Act.put,sB,sZ,sS]
      refine hTk (i:=11) (d:=27) (v:= .bool true) rfl rfl (Or.inl ⟨rfl,by rintro W' ⟨r0,r1,r2,r3⟩;have ry0:=r0.cell;have ry2:=r2.cell;go_simp⟩) HS.out ?_
      simp only [Act.put,sB,sZ,sS]
      refine hTk (i:=12) (d:=28) (v:= .bool true) rfl rfl (Or.inl ⟨rfl,by rintro W' ⟨r0,r1,r2,r3⟩;have ry0:=r0.cell;have ry2:=r2.cell;go_simp⟩) HS.out ?_
      simp only [Act.put,sB,sZ,sS]
      refine hTk (i:=13) (d:=29) (v:= .pointer (some ⟨sb,0,none⟩)) rfl rfl (Or.inl ⟨rfl,by rintro W' ⟨r0,r1,r2,r3⟩;have ry0:=r0.cell;have ry2:=r2.cell;go_simp⟩) HS.out ?_
      simp only [Act.put,sB,sZ,sS]
      refine hTk (i:=14) (d:=30) (v:= .pointer (some ⟨sb,0,none⟩)) rfl rfl (Or.inl ⟨rfl,by rintro W' ⟨r0,r1,r2,r3⟩;have ry0:=r0.cell;have ry2:=r2.cell;go_simp⟩) HS.out ?_
      simp only [Act.put,sB,sZ,sS]
      refine hTk (i:=15) (d:=31) (v:= .pointer (some ⟨sb,0,none⟩)) rfl rfl (Or.inl ⟨rfl,by rintro W' ⟨r0,r1,r2,r3⟩;have ry0:=r0.cell;have ry2:=r2.cell;go_simp⟩) HS.out ?_
      simp only [Act.put,sB,sZ,sS]
      refine hTk (i:=16) (d:=32) (v:= .pointer (some ⟨sb,9,none⟩)) rfl rfl (Or.inl ⟨rfl,by rintro W' ⟨r0,r1,r2,r3⟩;have ry0:=r0.cell;have ry2:=r2.cell;go_simp⟩) HS.out ?_
      simp only [Act.put,sB,sZ,sS]
      refine hTk (i:=17) (d:=33) (v:= .slice (some ⟨pb,0,none⟩) z.N z.N) rfl rfl (Or.inl ⟨rfl,by rintro W' ⟨r0,r1,r2,r3⟩;have ry0:=r0.cell;have ry2:=r2.cell;go_simp⟩) HS.out ?_
      simp only [Act.put,sB,sZ,sS]
      refine hTk (i:=18) (d:=34) (v:= .pointer (some ⟨g3,0,none⟩)) rfl rfl (Or.inl ⟨rfl,by rintro W' ⟨r0,r1,r2,r3⟩;have ry0:=r0.cell;have ry2:=r2.cell;go_simp⟩) HS.out ?_
      simp only [Act.put,sB,sZ,sS]
      refine hTk (i:=19) (d:=35) (v:=O U (c:Int)) rfl rfl (Or.inl ⟨rfl,by rintro W' ⟨r0,r1,r2,r3⟩;have ry0:=r0.cell;have ry2:=r2.cell;go_simp⟩) HS.out ?_
      simp only [Act.put,sB,sZ,sS]
      refine hTk (i:=20) (d:=36) (v:= .pointer (some ⟨pb,c,none⟩)) rfl rfl (Or.inl ⟨rfl,by rintro W' ⟨r0,r1,r2,r3⟩;have ry0:=r0.cell;have ry2:=r2.cell;go_simp⟩) HS.out ?_
      simp only [Act.put,sB,sZ,sS]
      refine hTk (i:=21) (d:=37) (v:=O U (q:Int)) rfl rfl (Or.inl ⟨rfl,by rintro W' ⟨r0,r1,r2,r3⟩;have ry0:=r0.cell;have ry2:=r2.cell;go_simp⟩) HS.out ?_
      simp only [Act.put,sB,sZ,sS]
      refine wpAnyH_ready (rs:= [22]) (by kernel_rfl) (by simp) ?_
      refine AllReadyH.cons rfl (fun K hK=> ?_) AllReadyH.nil
      rw [if_pos (by rfl)]
      go_simp
      go_at_call 111
      (with_reducible refine (HAL.out _ hbq).mono ?_)
      rintro e wc0 ⟨rfl,rfl⟩
      have HS:=Z (show (fun wx=>Rw wx (sb) 110 #[O U (x.N:Int),.slice x.wires.A x.wires.n x.wires.c,.slice x.feeds.A x.feeds.n x.feeds.c,O U z.g.least,.slice x.fon.A x.fon.n x.fon.c,.slice x.sw.A x.sw.n x.sw.c,.slice (some ⟨b,o,none⟩) rn lc,.slice (some ⟨rb,ro,none⟩) rn rc,.slice x.parts.A x.parts.n x.parts.c,.slice (some ⟨pb,0,none⟩) z.N z.N,.slice (some ⟨x.cb,0,none⟩) x.np x.np,.slice (some ⟨x.vb,0,none⟩) x.np x.np,.slice (some ⟨x.kb,0,none⟩) x.np x.np]∧wx.cell? ⟨rb,ro+k,none⟩=some (.bool true)∧Rw wx (g3) 79 #[O U (c:Int),O U un,O U rk]∧wx.cell? ⟨pb,c,none⟩=some (O U (q:Int))) w3.drew from HRS.out _ hbq)
      refine hK.out _ _ HS.out (fun _=> ?_)
      clear hK K
      try simp only [Act.put,sB,sZ,sS]
      refine hTk (i:=23) (d:=39) (v:= .bool true) rfl rfl (Or.inl ⟨rfl,by rintro W' ⟨r0,r1,r2,r3⟩;have ry0:=r0.cell;have ry2:=r2.cell;go_simp⟩) HS.out ?_
      simp only [Act.put,sB,sZ,sS]
      refine hTk (i:=24) (d:=40) (v:= .bool true) rfl rfl (Or.inl ⟨rfl,by rintro W' ⟨r0,r1,r2,r3⟩;have ry0:=r0.cell;have ry2:=r2.cell;go_simp⟩) HS.out ?_
      simp only [Act.put,sB,sZ,sS]
      refine wpAnyH_done (by kernel_rfl) ?_ _
      clear HS
      refine NoPanic.normal ?_
      (try simp only [Exit.inBlock,Exit.then])
      have HBD:=Z (show Below W1.heap.size W1 w3.drew from HB3.out.drew)
      have HFD:=Z (show z.dead fon run=some (1,k,(0,1)) from by
       unfold Zs.dead
       rw [find_range (k:=k) (by have:=HKN.out;have:=HLL.out;omega) (by unfold Zs.deadP;rw [HRN.out,HUN.out,HCQ.out,HALV.out,decide_eq_false HNE.out];rfl) HPR.out];rfl)
      have HFR:=Z (show Calls Tryz.prog 77 #[O U 0,O U 1] w3.drew fun e w'=>e= .returned (.agg #[O U 0,O U 1])∧Below w3.drew.heap.size w3.drew w' from by
       have:=frac_any 0 1 w3.drew (by decide) (by decide) (by decide) (by decide)
       simpa using this)
      go_wp2_with fail
      (with_reducible refine (HFR.out).mono ?_)
      rintro e w5 ⟨rfl,hb5⟩
      have hbw:=HBD.out.trans (hb5.mono HBD.out.size)
      have hq:=HQ1.out.below hbw HQ1.out.lt
      have y:=hq.cell;have f:=hq.frozen
      have HR5:=Z (show Rw ((((w5.setCell ⟨w.heap.size,0,none⟩ (O U 1)).setCell ⟨w.heap.size,1,none⟩ (O U (k:Int))).setCell ⟨w.heap.size,2,none⟩ (O U 0)).setCell ⟨w.heap.size,3,none⟩ (O U 1)) w.heap.size 92 #[O U 1,O U (k:Int),O U 0,O U 1] from (((hq.set 0 _).set 1 _).set 2 _).set 3 _)
      have HBE:=Z ((((HBW.out.trans (hbw.mono HBW.out.size)).setCell (p:=⟨w.heap.size,0,none⟩) (Nat.le_refl _) (O U 1)).setCell (p:=⟨w.heap.size,1,none⟩) (Nat.le_refl _) (O U (k:Int))).setCell (p:=⟨w.heap.size,2,none⟩) (Nat.le_refl _) (O U 0) |>.setCell (p:=⟨w.heap.size,3,none⟩) (Nat.le_refl _) (O U 1))
      clear hb5 hbw hq
      go_wp2
      (try simp only [Exit.inBlock,Exit.then])
      refine bodyPost_ret (res_ct rfl _ _ _ _ _ _ _ rfl rfl HR5.out Tryz.underlying92 rfl (by kernel_rfl)) rfl ?_
      exact⟨by rw [HFD.out];rfl,HBE.out⟩
  ·have hii:¬(k:Int)<(rn:Int):=by omega
   have hkk:k=z.ls.length:=by have:=HLL.out;omega
   have HFD:=Z (show z.dead fon run=none from by
    unfold Zs.dead
    rw [find_range_none (fun j hj=>hpr j (by omega))];rfl)
   have hq:=HQ1.out.below hbr HQ1.out.lt
   have y:=hq.cell;have f:=hq.frozen
   have HR5:=Z (show Rw ((((wr.setCell ⟨w.heap.size,0,none⟩ (O U 0)).setCell ⟨w.heap.size,1,none⟩ (O U 0)).setCell ⟨w.heap.size,2,none⟩ (O U 0)).setCell ⟨w.heap.size,3,none⟩ (O U 0)) w.heap.size 92 #[O U 0,O U 0,O U 0,O U 0] from (((hq.set 0 _).set 1 _).set 2 _).set 3 _)
   have HBE:=Z ((((HBW.out.trans (hbr.mono HBW.out.size)).setCell (p:=⟨w.heap.size,0,none⟩) (Nat.le_refl _) (O U 0)).setCell (p:=⟨w.heap.size,1,none⟩) (Nat.le_refl _) (O U 0)).setCell (p:=⟨w.heap.size,2,none⟩) (Nat.le_refl _) (O U 0) |>.setCell (p:=⟨w.heap.size,3,none⟩) (Nat.le_refl _) (O U 0))
   clear hbr hpr hkk hkn hk hq
   go_wp2
   (try simp only [Exit.inBlock,Exit.then])
   refine bodyPost_ret (res_ct rfl _ _ _ _ _ _ _ rfl rfl HR5.out Tryz.underlying92 rfl (by kernel_rfl)) rfl ?_
   exact⟨by rw [HFD.out];rfl,HBE.out⟩
open Go.RowKit
section
variable {w:World} {B sb:Nat} {x:SL} {C:Nat→Ci} {V:Nat→Vi} {K':Nat→Bool} {z:Zs} {fon run:List Bool} {xs:List Pm}
set_option maxRecDepth 100000 in
set_option maxHeartbeats 8000000 in
theorem StA.back1C (h:StA w B sb x C V K' z fon run xs (fun j=>j<z.np)) (hz:z.Ok) (g1:Nat) (hg:Rw w g1 97 #[.pointer (some ⟨sb,0,none⟩)]) (u:Lv) (hu:u∈z.ls) :
  Calls Tryz.prog 113 #[.agg #[O U u.pl,O U u.units,O U u.rank],.pointer (some ⟨g1,0,none⟩)] w fun e w'=>e= .returned (.bool (z.backQ fon run u))∧Below w.heap.size w w':=by
 obtain⟨pl,un,rk⟩:=u
 have hlb:=loadsB_at hz.lb hu
 simp only at hlb
 obtain⟨c,rfl⟩:∃c:Nat,pl=(c:Int):=⟨pl.toNat,by omega⟩
 have hcN:c<z.N:=by omega
 obtain⟨q,hq⟩:∃q,z.pof c=q:=⟨_,rfl⟩
 have hqn:q<z.np:=by rw [←hq];exact hz.pof_lt hcN
 obtain⟨pb,hpof,hpb,hpr⟩:=h.P
 have hbq:z.backQ fon run ⟨(c:Int),un,rk⟩=(decide (un<0) && (!(z.on fon q).isEmpty && decide (total (z.nd q).length (z.tk run q)<0))):=by
  unfold Zs.backQ;simp only [Int.toNat_natCast,hq]
 rw [hbq]
 clear hbq
 have hrow:=h.row
 rw [hpof] at hrow
 have hpc:=hpr.cell hcN
 rw [hq] at hpc
 have HALV:=Z (show ∀wx,Below w.heap.size w wx→Calls Tryz.prog 111 #[.pointer (some ⟨sb,0,none⟩),O U (q:Int)] wx fun e w'=>e= .returned (.bool (!(z.on fon q).isEmpty))∧wx=w' from fun wx hb=>(h.below hb).aliveC hz hqn)
 have HTOT:=Z (show ∀wx,Below w.heap.size w wx→Calls Tryz.prog 114 #[.agg #[.slice (C q).s1.A (C q).s1.n (C q).s1.c,.slice (C q).s2.A (C q).s2.n (C q).s2.c,.slice (C q).s3.A (C q).s3.n (C q).s3.c,.slice (C q).so.A (C q).so.n (C q).so.c,.slice (C q).sk.A (C q).sk.n (C q).sk.c]] wx fun e w'=>e= .returned (O U (total (z.nd q).length (z.tk run q)))∧Below wx.heap.size wx w' from fun wx hb=>by
  have hh:=h.below hb
  obtain⟨y,hy,hyp,hc1,hsol⟩:=hh.pm hz hqn
  obtain⟨hcir,hn1,hn2⟩:=hc1.cir hy hyp hz hqn
  have hn10:=(hz.nd_len hqn).2
  have:=total_any (C q).s1 (C q).s2 (C q).s3 (C q).so (C q).sk ((List.range (z.nd q).length).map (z.tk run q)) wx (by simp [hn2]) (by omega) (fun t ht=>by obtain⟨j,_,rfl⟩:=List.mem_map.1 ht;exact hz.tk_bd run q j) hcir.T
  rw [sumI_total] at this;exact this)
 have hqx:q<x.np:=by rw [h.np];exact hqn
 obtain⟨v1,v2,v3,v4,v5⟩:=h.st.c5 hqx
 have hcl:=h.st.c.lt;have hpl:=hpr.lt;have hrl:=hrow.lt;have hgl:=hg.lt
 have hqi0:(0:Int)≤(q:Int):=by omega
 have hqi1:(q:Int)<(x.np:Int):=by omega
 have hci0:(0:Int)≤(c:Int):=by omega
 have hci1:(c:Int)<(z.N:Int):=by omega
 obtain⟨X,hX⟩:∃X,C q=X:=⟨_,rfl⟩
 rw [hX] at v1 v2 v3 v4 v5 HTOT
 unfold Sc.v at v1 v2 v3 v4 v5
 obtain⟨al,hal⟩:∃a,(!(z.on fon q).isEmpty)=a:=⟨_,rfl⟩
 rw [hal] at HALV ⊢
 obtain⟨tt,htt⟩:∃a,total (z.nd q).length (z.tk run q)=a:=⟨_,rfl⟩
 rw [htt] at HTOT ⊢
 have hb1:=(Below.refl w.heap.size w).alloc (Nat.le_refl _) (.cells #[O U (c:Int),O U un,O U rk] 79)
 have q1:=Rw.new w #[O U (c:Int),O U un,O U rk] 79
 have HF:=Z (show ∀wx,Below w.heap.size w wx→Rw wx sb 110 #[O U (x.N:Int),.slice x.wires.A x.wires.n x.wires.c,.slice x.feeds.A x.feeds.n x.feeds.c,O U x.least,.slice x.fon.A x.fon.n x.fon.c,.slice x.sw.A x.sw.n x.sw.c,.slice x.loads.A x.loads.n x.loads.c,.slice x.run.A x.run.n x.run.c,.slice x.parts.A x.parts.n x.parts.c,.slice (some ⟨pb,0,none⟩) z.N z.N,.slice (some ⟨x.cb,0,none⟩) x.np x.np,.slice (some ⟨x.vb,0,none⟩) x.np x.np,.slice (some ⟨x.kb,0,none⟩) x.np x.np]∧Rw wx g1 97 #[.pointer (some ⟨sb,0,none⟩)]∧wx.cell? ⟨pb,c,none⟩=some (O U (q:Int))∧wx.cell? ⟨x.cb,q * 5,none⟩=some (.slice X.s1.A X.s1.n X.s1.c)∧wx.cell? ⟨x.cb,q * 5+1,none⟩=some (.slice X.s2.A X.s2.n X.s2.c)∧wx.cell? ⟨x.cb,q * 5+2,none⟩=some (.slice X.s3.A X.s3.n X.s3.c)∧wx.cell? ⟨x.cb,q * 5+3,none⟩=some (.slice X.so.A X.so.n X.so.c)∧wx.cell? ⟨x.cb,q * 5+4,none⟩=some (.slice X.sk.A X.sk.n X.sk.c) from fun wx hb=>
  ⟨hrow.below hb hrl,hg.below hb hgl,far_cell (hb.5 pb hpl) hpc,far_cell (hb.5 x.cb hcl) v1,far_cell (hb.5 x.cb hcl) v2,far_cell (hb.5 x.cb hcl) v3,far_cell (hb.5 x.cb hcl) v4,far_cell (hb.5 x.cb hcl) v5⟩)
 obtain⟨W1,hW1⟩:∃y,w.alloc (.cells #[O U (c:Int),O U un,O U rk] 79)=y:=⟨_,rfl⟩
 rw [hW1] at hb1 q1
 obtain⟨f1,f2,f3,f4,f5,f6,f7,f8⟩:=HF.out _ hb1
 have m1:=f1.cell;have m2:=f2.cell;have m3:=q1.cell
 have HB1:=Z hb1;have HQ1:=Z q1
 clear h hz hg hu hlb hcN hq hqn hpof hpb hpr hrow hpc hqx v1 v2 v3 v4 v5 hcl hpl hrl hgl hX hal htt hb1 q1 f1 f2 f4 f5 f6 f7 f8
 go_enter Tryz.func113,Tryz.ntmps113
 go_upto_region 1 with (fail)
 refine wp_region_noPanic ?_
 go_region
 refine NoPanic.normal ?_
 (try simp only [Exit.inBlock,Exit.then])
 have hbd:=HB1.out.drew
 obtain⟨f1,f2,g3,f4,f5,f6,f7,f8⟩:=HF.out _ hbd
 have n1:=f1.cell;have n2:=f2.cell;have n3:=HQ1.out.drew.cell
 have HBD:=Z hbd
 clear f1 f2 hbd m1 m2 m3 f3 hW1
 obtain⟨wd,hwd⟩:∃y,W1.drew=y:=⟨_,rfl⟩
 rw [hwd] at HBD n1 n2 n3 g3 f4 f5 f6 f7 f8 ⊢
 clear hwd
 by_cases hu:un<0
 ·have HA:=Z (HALV.out _ HBD.out)
  go_wp2_with fail
  (with_reducible refine (HA.out).mono ?_)
  rintro e w3 ⟨rfl,rfl⟩
  cases al with
  | false=>
   go_wp2
   go_ret
   exact⟨by simp,HBD.out⟩
  | true=>
   have HT:=Z (HTOT.out _ HBD.out)
   go_wp2_with fail
   (with_reducible refine (HT.out).mono ?_)
   rintro e w4 ⟨rfl,hb4⟩
   have HB4:=Z (HBD.out.trans (hb4.mono HBD.out.size))
   clear n1 n2 n3 g3 f4 f5 f6 f7 f8 hb4
   go_wp2
   go_ret
   exact⟨by simp [hu],HB4.out⟩
 ·go_wp2
  go_ret
  exact⟨by simp;intros;omega,HBD.out⟩
set_option maxRecDepth 100000 in
set_option maxHeartbeats 8000000 in
theorem StA.low1C (h:StA w B sb x C V K' z fon run xs (fun j=>j<z.np)) (hz:z.Ok) (g1 g4 gw:Nat) (hg:Rw w g1 97 #[.pointer (some ⟨sb,0,none⟩)]) (hg4:Rw w g4 26 #[.slice (some ⟨gw,0,none⟩) x.np x.np]) (hw:Rf w gw 4 x.np (fun q=> .bool (z.weak fon run z.ls.length q))) (u:Lv) (hu:u∈z.ls) :
  Calls Tryz.prog 115 #[.agg #[O U u.pl,O U u.units,O U u.rank],.pointer (some ⟨g4,0,none⟩),.pointer (some ⟨g1,0,none⟩)] w fun e w'=>e= .returned (.bool (z.lowQ fon run u))∧Below w.heap.size w w':=by
 obtain⟨pl,un,rk⟩:=u
 have hlb:=loadsB_at hz.lb hu
 simp only at hlb
 obtain⟨c,rfl⟩:∃c:Nat,pl=(c:Int):=⟨pl.toNat,by omega⟩
 have hcN:c<z.N:=by omega
 obtain⟨q,hq⟩:∃q,z.pof c=q:=⟨_,rfl⟩
 have hqn:q<z.np:=by rw [←hq];exact hz.pof_lt hcN
 have hqx:q<x.np:=by rw [h.np];exact hqn
 obtain⟨pb,hpof,hpb,hpr⟩:=h.P
 have hbq:z.lowQ fon run ⟨(c:Int),un,rk⟩=(decide (0<un) && z.weak fon run z.ls.length q):=by
  unfold Zs.lowQ;simp only [Int.toNat_natCast,hq]
 rw [hbq]
 have hrow:=h.row
 rw [hpof] at hrow
 have hpc:=hpr.cell hcN
 rw [hq] at hpc
 have hwc:=hw.cell hqx
 obtain⟨wk,hwk⟩:∃a,z.weak fon run z.ls.length q=a:=⟨_,rfl⟩
 rw [hwk] at hwc ⊢
 have hpl:=hpr.lt;have hwl:=hw.lt
 have hqi0:(0:Int)≤(q:Int):=by omega
 have hqi1:(q:Int)<(x.np:Int):=by omega
 have hci0:(0:Int)≤(c:Int):=by omega
 have hci1:(c:Int)<(z.N:Int):=by omega
 have hb1:=(Below.refl w.heap.size w).alloc (Nat.le_refl _) (.cells #[O U (c:Int),O U un,O U rk] 79)
 have q1:=Rw.new w #[O U (c:Int),O U un,O U rk] 79
 obtain⟨W1,hW1⟩:∃y,w.alloc (.cells #[O U (c:Int),O U un,O U rk] 79)=y:=⟨_,rfl⟩
 rw [hW1] at hb1 q1
 have m1:=(hrow.below hb1 hrow.lt).cell;have m2:=(hg.below hb1 hg.lt).cell;have m3:=q1.cell;have m4:=(hg4.below hb1 hg4.lt).cell
 have p1:=far_cell (hb1.5 pb hpl) hpc;have p2:=far_cell (hb1.5 gw hwl) hwc
 have HB1:=Z hb1
 clear h hz hg hg4 hw hu hlb hcN hq hqn hqx hpof hpb hpr hbq hrow hpc hwc hwk hpl hwl hb1 q1
 go_enter Tryz.func115,Tryz.ntmps115
 by_cases hu:(0:Int)<un
 ·go_upto_region 1 with (fail)
  refine wp_region_noPanic ?_
  go_region
  refine NoPanic.normal ?_
  (try simp only [Exit.inBlock,Exit.then])
  go_wp2
  go_ret
  exact⟨by simp [hu],HB1.out.drew⟩
 ·go_upto_region 1 with (fail)
  refine wp_region_noPanic ?_
  go_region
  refine NoPanic.normal ?_
  (try simp only [Exit.inBlock,Exit.then])
  go_wp2
  go_ret
  exact⟨by simp;intros;omega,HB1.out.drew⟩
end
end Go.Proofs.YtbnfnpakibkboaaGreat
