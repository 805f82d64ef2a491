/- Contract: the reference's Drive. -/
import Derived.Test.YtfhkbbjddjddmaaGreatM62
set_option linter.unusedVariables false
set_option linter.unusedSimpArgs false
open Go.Value renaming int→O
open Go.IntKind renaming i64→U
open Go.Lib renaming hid→Z
namespace Go.Proofs.YtfhkbbjddjddmaaGreat
open Go.RowKit Go.Shelf Go.Lib Go.BigFrame
theorem Rw.set15 {w:World} {g:Nat} {t:TypeId} {c0 c1 c2 c3 c4 c5 c6 c7 c8 c9 c10 c11 c12 c13 c14:Value} (h:Rw w g t #[c0,c1,c2,c3,c4,c5,c6,c7,c8,c9,c10,c11,c12,c13,c14]) (v0 v1 v2 v3 v4 v5 v6 v7 v8 v9 v10 v11 v12 v13 v14:Value):Rw (((((((((((((((w.setCell ⟨g,0,none⟩ v0).setCell ⟨g,1,none⟩ v1).setCell ⟨g,2,none⟩ v2).setCell ⟨g,3,none⟩ v3).setCell ⟨g,4,none⟩ v4).setCell ⟨g,5,none⟩ v5).setCell ⟨g,6,none⟩ v6).setCell ⟨g,7,none⟩ v7).setCell ⟨g,8,none⟩ v8).setCell ⟨g,9,none⟩ v9).setCell ⟨g,10,none⟩ v10).setCell ⟨g,11,none⟩ v11).setCell ⟨g,12,none⟩ v12).setCell ⟨g,13,none⟩ v13).setCell ⟨g,14,none⟩ v14) g t #[v0,v1,v2,v3,v4,v5,v6,v7,v8,v9,v10,v11,v12,v13,v14]:=by
 have h1:Rw (w.setCell ⟨g,0,none⟩ v0) g t #[v0,c1,c2,c3,c4,c5,c6,c7,c8,c9,c10,c11,c12,c13,c14]:=h.set 0 v0
 have h2:Rw ((w.setCell ⟨g,0,none⟩ v0).setCell ⟨g,1,none⟩ v1) g t #[v0,v1,c2,c3,c4,c5,c6,c7,c8,c9,c10,c11,c12,c13,c14]:=h1.set 1 v1
 have h3:Rw (((w.setCell ⟨g,0,none⟩ v0).setCell ⟨g,1,none⟩ v1).setCell ⟨g,2,none⟩ v2) g t #[v0,v1,v2,c3,c4,c5,c6,c7,c8,c9,c10,c11,c12,c13,c14]:=h2.set 2 v2
 have h4:Rw ((((w.setCell ⟨g,0,none⟩ v0).setCell ⟨g,1,none⟩ v1).setCell ⟨g,2,none⟩ v2).setCell ⟨g,3,none⟩ v3) g t #[v0,v1,v2,v3,c4,c5,c6,c7,c8,c9,c10,c11,c12,c13,c14]:=h3.set 3 v3
 have h5:Rw (((((w.setCell ⟨g,0,none⟩ v0).setCell ⟨g,1,none⟩ v1).setCell ⟨g,2,none⟩ v2).setCell ⟨g,3,none⟩ v3).setCell ⟨g,4,none⟩ v4) g t #[v0,v1,v2,v3,v4,c5,c6,c7,c8,c9,c10,c11,c12,c13,c14]:=h4.set 4 v4
 have h6:Rw ((((((w.setCell ⟨g,0,none⟩ v0).setCell ⟨g,1,none⟩ v1).setCell ⟨g,2,none⟩ v2).setCell ⟨g,3,none⟩ v3).setCell ⟨g,4,none⟩ v4).setCell ⟨g,5,none⟩ v5) g t #[v0,v1,v2,v3,v4,v5,c6,c7,c8,c9,c10,c11,c12,c13,c14]:=h5.set 5 v5
 have h7:Rw (((((((w.setCell ⟨g,0,none⟩ v0).setCell ⟨g,1,none⟩ v1).setCell ⟨g,2,none⟩ v2).setCell ⟨g,3,none⟩ v3).setCell ⟨g,4,none⟩ v4).setCell ⟨g,5,none⟩ v5).setCell ⟨g,6,none⟩ v6) g t #[v0,v1,v2,v3,v4,v5,v6,c7,c8,c9,c10,c11,c12,c13,c14]:=h6.set 6 v6
 have h8:Rw ((((((((w.setCell ⟨g,0,none⟩ v0).setCell ⟨g,1,none⟩ v1).setCell ⟨g,2,none⟩ v2).setCell ⟨g,3,none⟩ v3).setCell ⟨g,4,none⟩ v4).setCell ⟨g,5,none⟩ v5).setCell ⟨g,6,none⟩ v6).setCell ⟨g,7,none⟩ v7) g t #[v0,v1,v2,v3,v4,v5,v6,v7,c8,c9,c10,c11,c12,c13,c14]:=h7.set 7 v7
 have h9:Rw (((((((((w.setCell ⟨g,0,none⟩ v0).setCell ⟨g,1,none⟩ v1).setCell ⟨g,2,none⟩ v2).setCell ⟨g,3,none⟩ v3).setCell ⟨g,4,none⟩ v4).setCell ⟨g,5,none⟩ v5).setCell ⟨g,6,none⟩ v6).setCell ⟨g,7,none⟩ v7).setCell ⟨g,8,none⟩ v8) g t #[v0,v1,v2,v3,v4,v5,v6,v7,v8,c9,c10,c11,c12,c13,c14]:=h8.set 8 v8
 have h10:Rw ((((((((((w.setCell ⟨g,0,none⟩ v0).setCell ⟨g,1,none⟩ v1).setCell ⟨g,2,none⟩ v2).setCell ⟨g,3,none⟩ v3).setCell ⟨g,4,none⟩ v4).setCell ⟨g,5,none⟩ v5).setCell ⟨g,6,none⟩ v6).setCell ⟨g,7,none⟩ v7).setCell ⟨g,8,none⟩ v8).setCell ⟨g,9,none⟩ v9) g t #[v0,v1,v2,v3,v4,v5,v6,v7,v8,v9,c10,c11,c12,c13,c14]:=h9.set 9 v9
 have h11:Rw (((((((((((w.setCell ⟨g,0,none⟩ v0).setCell ⟨g,1,none⟩ v1).setCell ⟨g,2,none⟩ v2).setCell ⟨g,3,none⟩ v3).setCell ⟨g,4,none⟩ v4).setCell ⟨g,5,none⟩ v5).setCell ⟨g,6,none⟩ v6).setCell ⟨g,7,none⟩ v7).setCell ⟨g,8,none⟩ v8).setCell ⟨g,9,none⟩ v9).setCell ⟨g,10,none⟩ v10) g t #[v0,v1,v2,v3,v4,v5,v6,v7,v8,v9,v10,c11,c12,c13,c14]:=h10.set 10 v10
 have h12:Rw ((((((((((((w.setCell ⟨g,0,none⟩ v0).setCell ⟨g,1,none⟩ v1).setCell ⟨g,2,none⟩ v2).setCell ⟨g,3,none⟩ v3).setCell ⟨g,4,none⟩ v4).setCell ⟨g,5,none⟩ v5).setCell ⟨g,6,none⟩ v6).setCell ⟨g,7,none⟩ v7).setCell ⟨g,8,none⟩ v8).setCell ⟨g,9,none⟩ v9).setCell ⟨g,10,none⟩ v10).setCell ⟨g,11,none⟩ v11) g t #[v0,v1,v2,v3,v4,v5,v6,v7,v8,v9,v10,v11,c12,c13,c14]:=h11.set 11 v11
 have h13:Rw (((((((((((((w.setCell ⟨g,0,none⟩ v0).setCell ⟨g,1,none⟩ v1).setCell ⟨g,2,none⟩ v2).setCell ⟨g,3,none⟩ v3).setCell ⟨g,4,none⟩ v4).setCell ⟨g,5,none⟩ v5).setCell ⟨g,6,none⟩ v6).setCell ⟨g,7,none⟩ v7).setCell ⟨g,8,none⟩ v8).setCell ⟨g,9,none⟩ v9).setCell ⟨g,10,none⟩ v10).setCell ⟨g,11,none⟩ v11).setCell ⟨g,12,none⟩ v12) g t #[v0,v1,v2,v3,v4,v5,v6,v7,v8,v9,v10,v11,v12,c13,c14]:=h12.set 12 v12
 have h14:Rw ((((((((((((((w.setCell ⟨g,0,none⟩ v0).setCell ⟨g,1,none⟩ v1).setCell ⟨g,2,none⟩ v2).setCell ⟨g,3,none⟩ v3).setCell ⟨g,4,none⟩ v4).setCell ⟨g,5,none⟩ v5).setCell ⟨g,6,none⟩ v6).setCell ⟨g,7,none⟩ v7).setCell ⟨g,8,none⟩ v8).setCell ⟨g,9,none⟩ v9).setCell ⟨g,10,none⟩ v10).setCell ⟨g,11,none⟩ v11).setCell ⟨g,12,none⟩ v12).setCell ⟨g,13,none⟩ v13) g t #[v0,v1,v2,v3,v4,v5,v6,v7,v8,v9,v10,v11,v12,v13,c14]:=h13.set 13 v13
 have h15:Rw (((((((((((((((w.setCell ⟨g,0,none⟩ v0).setCell ⟨g,1,none⟩ v1).setCell ⟨g,2,none⟩ v2).setCell ⟨g,3,none⟩ v3).setCell ⟨g,4,none⟩ v4).setCell ⟨g,5,none⟩ v5).setCell ⟨g,6,none⟩ v6).setCell ⟨g,7,none⟩ v7).setCell ⟨g,8,none⟩ v8).setCell ⟨g,9,none⟩ v9).setCell ⟨g,10,none⟩ v10).setCell ⟨g,11,none⟩ v11).setCell ⟨g,12,none⟩ v12).setCell ⟨g,13,none⟩ v13).setCell ⟨g,14,none⟩ v14) g t #[v0,v1,v2,v3,v4,v5,v6,v7,v8,v9,v10,v11,v12,v13,v14]:=h14.set 14 v14
 exact h15
theorem below_set15 {B:Nat} {a w:World} (h:Below B a w) {g:Nat} (hg:B≤g) (v0 v1 v2 v3 v4 v5 v6 v7 v8 v9 v10 v11 v12 v13 v14:Value):Below B a (((((((((((((((w.setCell ⟨g,0,none⟩ v0).setCell ⟨g,1,none⟩ v1).setCell ⟨g,2,none⟩ v2).setCell ⟨g,3,none⟩ v3).setCell ⟨g,4,none⟩ v4).setCell ⟨g,5,none⟩ v5).setCell ⟨g,6,none⟩ v6).setCell ⟨g,7,none⟩ v7).setCell ⟨g,8,none⟩ v8).setCell ⟨g,9,none⟩ v9).setCell ⟨g,10,none⟩ v10).setCell ⟨g,11,none⟩ v11).setCell ⟨g,12,none⟩ v12).setCell ⟨g,13,none⟩ v13).setCell ⟨g,14,none⟩ v14):=
 (((((((((((((((h.setCell (p:=⟨g,0,none⟩) hg v0).setCell (p:=⟨g,1,none⟩) hg v1).setCell (p:=⟨g,2,none⟩) hg v2).setCell (p:=⟨g,3,none⟩) hg v3).setCell (p:=⟨g,4,none⟩) hg v4).setCell (p:=⟨g,5,none⟩) hg v5).setCell (p:=⟨g,6,none⟩) hg v6).setCell (p:=⟨g,7,none⟩) hg v7).setCell (p:=⟨g,8,none⟩) hg v8).setCell (p:=⟨g,9,none⟩) hg v9).setCell (p:=⟨g,10,none⟩) hg v10).setCell (p:=⟨g,11,none⟩) hg v11).setCell (p:=⟨g,12,none⟩) hg v12).setCell (p:=⟨g,13,none⟩) hg v13).setCell (p:=⟨g,14,none⟩) hg v14)
set_option maxRecDepth 100000 in
set_option maxHeartbeats 4000000 in
theorem rDrive_any (A A2:Option Addr) (c c2:Nat) (p:Pl) (Aw:Option Addr) (cw n:Nat) (l:List E) (t:Tr) (At:Option Addr) (nt ct:Nat) (st:Int) (As:Option Addr) (ns cs:Nat) (stops:List Int) (w:World) (hC:RfC w A A2 c c2 p Aw cw n l t At nt ct st) (hns:stops.length=ns) (hn1:2≤ns) (hn2:ns≤100) (hS:Sl w w.heap.size 1 CI As stops) (hst:∀s∈stops,t.len≤s∧s≤3000000000000) :
  Calls Tryz.prog 35 #[.agg #[.slice A p.nodes.length c,.slice A2 p.rails.length c2],.slice Aw n cw,.agg #[O U t.mass,O U t.len,O U t.speed,O U t.effort,O U t.brake,O U t.power,O U t.resist,O U t.rise,O U t.back,.slice At nt ct],O U st,.slice As ns cs] w (RDPost (legsR t (adhZ t (gripZ t st)) (slpR p l) (limR p l t) (stops.drop 1) (10 * t.mass * stops.getD 0 0) []) w):=by
 obtain⟨i0,hi,hzr,hz1,hz2⟩:=info_parts info72
 obtain⟨bs,os,es,gs,c0⟩:=int_at hS (i:=0) (by omega)
 subst es
 have hs0:=hst stops[0] (List.getElem_mem _)
 rw [show stops.getD 0 0=stops[0] from by rw [List.getD_eq_getElem?_getD,List.getElem?_eq_getElem (by omega)];rfl]
 obtain⟨s0,hs0e⟩:∃s,stops[0]=s:=⟨_,rfl⟩
 rw [hs0e] at hs0 c0 ⊢
 clear hs0e
 have hb1:=((Below.refl w.heap.size w).alloc (Nat.le_refl _) (.cells #[.slice A p.nodes.length c,.slice A2 p.rails.length c2] 60)).alloc (by simp) (.cells #[O U t.mass,O U t.len,O U t.speed,O U t.effort,O U t.brake,O U t.power,O U t.resist,O U t.rise,O U t.back,.slice At nt ct] 24)
 obtain⟨q1,q2⟩:=rows2 w #[.slice A p.nodes.length c,.slice A2 p.rails.length c2] #[O U t.mass,O U t.len,O U t.speed,O U t.effort,O U t.brake,O U t.power,O U t.resist,O U t.rise,O U t.back,.slice At nt ct] 60 24
 have hzw:((w.alloc (.cells #[.slice A p.nodes.length c,.slice A2 p.rails.length c2] 60)).alloc (.cells #[O U t.mass,O U t.len,O U t.speed,O U t.effort,O U t.brake,O U t.power,O U t.resist,O U t.rise,O U t.back,.slice At nt ct] 24)).heap.size=w.heap.size+2:=by simp
 obtain⟨W1,hW1⟩:∃z,(w.alloc (.cells #[.slice A p.nodes.length c,.slice A2 p.rails.length c2] 60)).alloc (.cells #[O U t.mass,O U t.len,O U t.speed,O U t.effort,O U t.brake,O U t.power,O U t.resist,O U t.rise,O U t.back,.slice At nt ct] 24)=z:=⟨_,rfl⟩
 rw [hW1] at hb1 q1 q2 hzw
 obtain⟨B0,hB0⟩:∃B,w.heap.size=B:=⟨_,rfl⟩
 rw [hB0] at q1 q2 hzw
 have HBE:=Z hB0;have HZ1:=Z hzw
 have HB1:=Z hb1;have HCX:=Z hC;have HNS:=Z hns
 have HQ12:=Z (And.intro q1 q2)
 have HCB:=Z (show ∀wx,Below w.heap.size w wx→RfC wx A A2 c c2 p Aw cw n l t At nt ct st from fun wx h=>hC.below h)
 have HSB:=Z (show ∀wx,Below w.heap.size w wx→Sl wx w.heap.size 1 CI (some ⟨bs,os,none⟩) stops from fun wx h=>hS.below h)
 have HST:=Z hst
 obtain⟨a,ha⟩:∃a,adhZ t (gripZ t st)=a:=⟨_,rfl⟩
 rw [ha]
 have HAE:=Z ha
 obtain⟨R,hR⟩:∃R,legsR t a (slpR p l) (limR p l t) (stops.drop 1) (10 * t.mass * s0) []=R:=⟨_,rfl⟩
 rw [hR]
 have HRR:=Z hR
 have hmm:=And.intro hC.tr.m1 hC.tr.m2
 have hpr:0≤10 * t.mass * s0∧10 * t.mass * s0≤2400000000000000000:=by
  have hl1:=hC.tr.l1
  refine⟨Int.mul_nonneg (by omega) (by omega), ?_⟩
  have h1:10 * t.mass * s0≤10 * t.mass * 3000000000000:=Int.mul_le_mul_of_nonneg_left (by omega) (by omega)
  omega
 have HPR:=Z hpr
 have HW1:=Z (show IntKind.i64.wrap (10 * t.mass)=10 * t.mass from by rw [IntKind.wrap_i64];omega)
 have HW2:=Z (show IntKind.i64.wrap (10 * t.mass * s0)=10 * t.mass * s0 from by rw [IntKind.wrap_i64];omega)
 have HPL0:=Z (show t.len≤10 * t.mass * s0 / (10 * t.mass) from by rw [Int.mul_ediv_cancel_left _ (by omega)];exact hs0.1)
 have HNSi:=Z (show ¬ns=0 from by omega)
 have HSK:=Z (show ∀wx,Below W1.heap.size W1 wx→Rw wx (B0+1) 24 #[O U t.mass,O U t.len,O U t.speed,O U t.effort,O U t.brake,O U t.power,O U t.resist,O U t.rise,O U t.back,.slice At nt ct]∧wx.cell? ⟨bs,os,none⟩=some (O U s0) from fun wx h=>⟨q2.below h q2.lt,(h.cell (p:=⟨bs,os,none⟩) (by show bs<W1.heap.size;have:=hb1.size;omega)).trans ((hb1.cell (p:=⟨bs,os,none⟩) gs).trans (by simpa using c0))⟩)
 clear hb1 q1 q2 hC hns hS hst hs0 c0 ha hR hpr hmm hzw gs
 go_enter Tryz.func35,Tryz.ntmps35
 go_upto_region 1 with (fail)
 clear hW1 hB0
 have hbq:Below W1.heap.size W1 W1.drew:=(Below.refl _ _).drew
 have HS:=Z (HSK.out _ hbq)
 refine wp_region_held_drew (S:=fun wx=>Rw wx (B0+1) 24 #[O U t.mass,O U t.len,O U t.speed,O U t.effort,O U t.brake,O U t.power,O U t.resist,O U t.rise,O U t.back,.slice At nt ct]∧wx.cell? ⟨bs,os,none⟩=some (O U s0)) (by kernel_rfl) HS.out (fun _=> ?_)
 have hzd:W1.drew.heap.size=B0+2:=HZ1.out
 obtain⟨wd,hwd⟩:∃z,W1.drew=z:=⟨_,rfl⟩
 rw [hwd] at hbq HS hzd ⊢
 have HZD:=Z hzd
 clear hwd hzd
 refine hTk (i:=0) (d:=26) (v:= .pointer (some ⟨B0+1,0,none⟩)) rfl rfl (Or.inl ⟨rfl,by rintro W' ⟨u0,u1⟩;have y:=u0.cell;have hw1:=HW1.out;have hw2:=HW2.out;have hns:=HNSi.out;go_simp⟩) HS.out ?_
 simp only [Act.put,sB,sZ,sS]
 refine hTk (i:=1) (d:=27) (v:=O U t.mass) rfl rfl (Or.inl ⟨rfl,by rintro W' ⟨u0,u1⟩;have y:=u0.cell;have hw1:=HW1.out;have hw2:=HW2.out;have hns:=HNSi.out;go_simp⟩) HS.out ?_
 simp only [Act.put,sB,sZ,sS]
 refine hTk (i:=2) (d:=28) (v:=O U (10 * t.mass)) rfl rfl (Or.inl ⟨rfl,by rintro W' ⟨u0,u1⟩;have y:=u0.cell;have hw1:=HW1.out;have hw2:=HW2.out;have hns:=HNSi.out;go_simp⟩) HS.out ?_
 simp only [Act.put,sB,sZ,sS]
 refine hTk (i:=3) (d:=29) (v:= .slice (some ⟨bs,os,none⟩) ns cs) rfl rfl (Or.inl ⟨rfl,by rintro W' ⟨u0,u1⟩;have y:=u0.cell;have hw1:=HW1.out;have hw2:=HW2.out;have hns:=HNSi.out;go_simp⟩) HS.out ?_
 simp only [Act.put,sB,sZ,sS]
 refine hTk (i:=4) (d:=30) (v:= .pointer (some ⟨bs,os,none⟩)) rfl rfl (Or.inl ⟨rfl,by rintro W' ⟨u0,u1⟩;have y:=u0.cell;have hw1:=HW1.out;have hw2:=HW2.out;have hns:=HNSi.out;go_simp⟩) HS.out ?_
 simp only [Act.put,sB,sZ,sS]
 refine hTk (i:=5) (d:=31) (v:=O U s0) rfl rfl (Or.inl ⟨rfl,by rintro W' ⟨u0,u1⟩;have y:=u0.cell;have hw1:=HW1.out;have hw2:=HW2.out;have hns:=HNSi.out;go_simp⟩) HS.out ?_
 simp only [Act.put,sB,sZ,sS]
 refine hTk (i:=6) (d:=32) (v:=O U (10 * t.mass * s0)) rfl rfl (Or.inl ⟨rfl,by rintro W' ⟨u0,u1⟩;have y:=u0.cell;have hw1:=HW1.out;have hw2:=HW2.out;have hns:=HNSi.out;go_simp⟩) HS.out ?_
 simp only [Act.put,sB,sZ,sS]
 refine hTk (i:=7) (d:=33) (v:= .agg #[O U 0,O U (10 * t.mass * s0)]) rfl rfl (Or.inl ⟨rfl,by rintro W' ⟨u0,u1⟩;have y:=u0.cell;have hw1:=HW1.out;have hw2:=HW2.out;have hns:=HNSi.out;go_simp⟩) HS.out ?_
 simp only [Act.put,sB,sZ,sS]
 refine wpAnyH_ready (rs:= [8]) (by kernel_rfl) (by simp) ?_
 refine AllReadyH.cons rfl (fun K hK=> ?_) AllReadyH.nil
 rw [if_pos (by rfl)]
 go_simp
 have qx:=Rw.new wd #[O U 0,O U 0] 35
 have hbs:=hbq.size
 replace hbq:=hbq.alloc hbq.size (.cells #[O U 0,O U 0] 35)
 obtain⟨we,hwe⟩:∃z,wd.alloc (.cells #[O U 0,O U 0] 35)=z:=⟨_,rfl⟩
 rw [hwe] at qx hbq ⊢
 clear hwe
 have hzd:=HZD.out
 rw [hzd] at qx ⊢
 have HS:=Z (HSK.out _ hbq)
 refine hK.out _ _ HS.out (fun _=> ?_)
 clear hK K
 try simp only [Act.put,sB,sZ,sS]
 refine wpAnyH_ready (rs:= [9]) (by kernel_rfl) (by simp) ?_
 refine AllReadyH.cons rfl (fun K hK=> ?_) AllReadyH.nil
 rw [if_pos (by rfl)]
 have h0:=qx.cell 0;have h1:=qx.cell 1;have z0:=qx.frozen 0;have z1:=qx.frozen 1
 go_simp
 clear h0 h1 z0 z1
 have qy:Rw ((we.setCell ⟨B0+2,0,none⟩ (O U 0)).setCell ⟨B0+2,1,none⟩ (O U (10 * t.mass * s0))) (B0+2) 35 #[O U 0,O U (10 * t.mass * s0)]:=qx.set2
 have hbn:Below W1.heap.size W1 ((we.setCell ⟨B0+2,0,none⟩ (O U 0)).setCell ⟨B0+2,1,none⟩ (O U (10 * t.mass * s0))):=(hbq.setCell (p:=⟨B0+2,0,none⟩) (by show W1.heap.size≤B0+2;have:=HZ1.out;omega) _).setCell (p:=⟨B0+2,1,none⟩) (by show W1.heap.size≤B0+2;have:=HZ1.out;omega) _
 obtain⟨W2,hw⟩:∃z,((we.setCell ⟨B0+2,0,none⟩ (O U 0)).setCell ⟨B0+2,1,none⟩ (O U (10 * t.mass * s0)))=z:=⟨_,rfl⟩
 rw [hw] at qy hbn ⊢
 clear qx hbq hw
 have HS:=Z (HSK.out _ hbn)
 refine hK.out _ _ HS.out (fun _=> ?_)
 clear hK K
 try simp only [Act.put,sB,sZ,sS]
 refine wpAnyH_done (by kernel_rfl) ?_ _
 have HQY:=Z qy;have HB2:=Z hbn
 clear qy hbn HS
 have hz2:B0+2<W2.heap.size:=HQY.out.lt
 have HZ2:=Z hz2
 clear hz2
 go_wp2
 go_loopw [13,14] (fun s13 s14 wr=>∃(k:Nat) (y:Int) (acc:List LegP),1≤k∧k≤ns∧acc.length≤k∧s14=O U (k:Int)∧Own wr W2.heap.size 72 10 fLl s13 acc∧Rw wr (B0+2) 35 #[O U 0,O U y]∧0≤y∧y≤2400000000000000000∧t.len≤y / (10 * t.mass)∧legsR t a (slpR p l) (limR p l t) (stops.drop k) y acc=R∧BT W2.heap.size (fun q=>q=B0+2) W2 wr) (fun _ s14 _=>ns - (intOf s14).toNat)
 case atStart=>exact⟨1,_, [],by omega,by omega,by simp,rfl,Own.nil _ _ _ _ _,HQY.out,HPR.out.1,HPR.out.2,HPL0.out,HRR.out,BT.refl _ _ _⟩
 case round=>
  obtain⟨k,y,acc,hk1,hkn,hak,rfl,hown,hx,y0,y1,hpl,hR,hbt⟩:=hrel
  have HHX:=Z hx;have HO:=Z hown;have HBT:=Z hbt;have HKB:=Z (And.intro hk1 (And.intro hkn hak))
  have HY:=Z (And.intro y0 (And.intro y1 hpl));have HR:=Z hR
  have hbw:Below W1.heap.size W1 wr:=HB2.out.trans (hbt.below (by have:=HZ1.out;have:=HZ2.out;omega) (fun q hq e=>by have:=HZ1.out;omega))
  have HBW:=Z (HB1.out.trans (hbw.mono HB1.out.size))
  have HROW:=Z (show Rw wr B0 60 #[.slice A p.nodes.length c,.slice A2 p.rails.length c2]∧Rw wr (B0+1) 24 #[O U t.mass,O U t.len,O U t.speed,O U t.effort,O U t.brake,O U t.power,O U t.resist,O U t.rise,O U t.back,.slice At nt ct] from⟨HQ12.out.1.below hbw HQ12.out.1.lt,HQ12.out.2.below hbw HQ12.out.2.lt⟩)
  by_cases hkk:k<ns
  ·have HKI:=Z (show (k:Int)<(ns:Int) from by omega)
   have HK0:=Z (show (0:Int)≤(k:Int) from by omega)
   have hki:=HKI.out
   obtain⟨stop,hstp⟩:∃s,stops[k]'(by have:=HNS.out;omega)=s:=⟨_,rfl⟩
   obtain⟨bs',os',e',gs',ck⟩:=int_at (HSB.out _ HBW.out) (i:=k) (by have:=HNS.out;omega)
   cases e'
   rw [hstp] at ck
   have hsb:=HST.out stop (by rw [←hstp];exact List.getElem_mem _)
   have HSTP:=Z hsb
   have hdr:stops.drop k=stop :: stops.drop (k+1):=by rw [←hstp];exact List.drop_eq_getElem_cons (by have:=HNS.out;omega)
   rw [hdr,legsR] at hR
   have HRL:=Z hR
   have HSK:=Z (show ∀wx,Below wr.heap.size wr wx→Rw wx B0 60 #[.slice A p.nodes.length c,.slice A2 p.rails.length c2]∧Rw wx (B0+1) 24 #[O U t.mass,O U t.len,O U t.speed,O U t.effort,O U t.brake,O U t.power,O U t.resist,O U t.rise,O U t.back,.slice At nt ct]∧wx.cell? ⟨bs,os+k,none⟩=some (O U stop) from fun wx h=>⟨HROW.out.1.below h HROW.out.1.lt,HROW.out.2.below h HROW.out.2.lt,(h.cell (p:=⟨bs,os+k,none⟩) (by show bs<wr.heap.size;have:=HBW.out.size;omega)).trans ck⟩)
   have HKN:=Z hkk
   have HSTK:=Z ck
   clear hk1 hkn hak hown hx y0 y1 hpl hR hbt hbw hstp hsb hdr hkk HR
   go_upto_region 6 with (fail)
   clear hki
   have hbq:Below wr.heap.size wr wr.drew:=(Below.refl _ _).drew
   have HS:=Z (HSK.out _ hbq)
   refine wp_region_held_drew (S:=fun wx=>Rw wx B0 60 #[.slice A p.nodes.length c,.slice A2 p.rails.length c2]∧Rw wx (B0+1) 24 #[O U t.mass,O U t.len,O U t.speed,O U t.effort,O U t.brake,O U t.power,O U t.resist,O U t.rise,O U t.back,.slice At nt ct]∧wx.cell? ⟨bs,os+k,none⟩=some (O U stop)) (by kernel_rfl) HS.out (fun _=> ?_)
   obtain⟨wd,hwd⟩:∃z,wr.drew=z:=⟨_,rfl⟩
   rw [hwd] at hbq HS ⊢
   clear hwd
   refine hTk (i:=0) (d:=40) (v:= .agg #[.slice A p.nodes.length c,.slice A2 p.rails.length c2]) rfl rfl (Or.inl ⟨rfl,by rintro W' ⟨u0,u1,u2⟩;have y:=u0.cell;have x:=u1.cell;have hk0:=HK0.out;have hki:=HKN.out;go_simp⟩) HS.out ?_
   simp only [Act.put,sB,sZ,sS]
   refine hTk (i:=1) (d:=41) (v:= .slice Aw n cw) rfl rfl (Or.inl ⟨rfl,by rintro W' ⟨u0,u1,u2⟩;have y:=u0.cell;have x:=u1.cell;have hk0:=HK0.out;have hki:=HKN.out;go_simp⟩) HS.out ?_
   simp only [Act.put,sB,sZ,sS]
   refine hTk (i:=2) (d:=42) (v:= .agg #[O U t.mass,O U t.len,O U t.speed,O U t.effort,O U t.brake,O U t.power,O U t.resist,O U t.rise,O U t.back,.slice At nt ct]) rfl rfl (Or.inl ⟨rfl,by rintro W' ⟨u0,u1,u2⟩;have y:=u0.cell;have x:=u1.cell;have hk0:=HK0.out;have hki:=HKN.out;go_simp⟩) HS.out ?_
   simp only [Act.put,sB,sZ,sS]
   refine hTk (i:=3) (d:=43) (v:=O U st) rfl rfl (Or.inl ⟨rfl,by rintro W' ⟨u0,u1,u2⟩;have y:=u0.cell;have x:=u1.cell;have hk0:=HK0.out;have hki:=HKN.out;go_simp⟩) HS.out ?_
   simp only [Act.put,sB,sZ,sS]
   refine hTk (i:=4) (d:=44) (v:= .slice (some ⟨bs,os,none⟩) ns cs) rfl rfl (Or.inl ⟨rfl,by rintro W' ⟨u0,u1,u2⟩;have y:=u0.cell;have x:=u1.cell;have hk0:=HK0.out;have hki:=HKN.out;go_simp⟩) HS.out ?_
   simp only [Act.put,sB,sZ,sS]
   refine hTk (i:=5) (d:=45) (v:=O U (k:Int)) rfl rfl (Or.inl ⟨rfl,by rintro W' ⟨u0,u1,u2⟩;have y:=u0.cell;have x:=u1.cell;have hk0:=HK0.out;have hki:=HKN.out;go_simp⟩) HS.out ?_
   simp only [Act.put,sB,sZ,sS]
   refine hTk (i:=6) (d:=46) (v:= .pointer (some ⟨bs,os+k,none⟩)) rfl rfl (Or.inl ⟨rfl,by rintro W' ⟨u0,u1,u2⟩;have y:=u0.cell;have x:=u1.cell;have hk0:=HK0.out;have hki:=HKN.out;go_simp⟩) HS.out ?_
   simp only [Act.put,sB,sZ,sS]
   refine hTk (i:=7) (d:=47) (v:=O U stop) rfl rfl (Or.inl ⟨rfl,by rintro W' ⟨u0,u1,u2⟩;have y:=u0.cell;have x:=u1.cell;have hk0:=HK0.out;have hki:=HKN.out;go_simp⟩) HS.out ?_
   simp only [Act.put,sB,sZ,sS]
   refine hTk (i:=8) (d:=48) (v:= .agg #[.slice A p.nodes.length c,.slice A2 p.rails.length c2,.slice Aw n cw,O U t.mass,O U t.len,O U t.speed,O U t.effort,O U t.brake,O U t.power,O U t.resist,O U t.rise,O U t.back,.slice At nt ct,O U st,O U stop]) rfl rfl (Or.inl ⟨rfl,by rintro W' ⟨u0,u1,u2⟩;have y:=u0.cell;have x:=u1.cell;have hk0:=HK0.out;have hki:=HKN.out;go_simp⟩) HS.out ?_
   simp only [Act.put,sB,sZ,sS]
   refine wpAnyH_ready (rs:= [9]) (by kernel_rfl) (by simp) ?_
   refine AllReadyH.cons rfl (fun K hK=> ?_) AllReadyH.nil
   rw [if_pos (by rfl)]
   go_simp
   have qx:=Rw.new wd #[.slice none 0 0,.slice none 0 0,.slice none 0 0,O U 0,O U 0,O U 0,O U 0,O U 0,O U 0,O U 0,O U 0,O U 0,.slice none 0 0,O U 0,O U 0] 115
   have hbs:=hbq.size
   replace hbq:=hbq.alloc hbq.size (.cells #[.slice none 0 0,.slice none 0 0,.slice none 0 0,O U 0,O U 0,O U 0,O U 0,O U 0,O U 0,O U 0,O U 0,O U 0,.slice none 0 0,O U 0,O U 0] 115)
   obtain⟨Br,hBr⟩:∃z,wd.heap.size=z:=⟨_,rfl⟩
   obtain⟨we,hwe⟩:∃z,wd.alloc (.cells #[.slice none 0 0,.slice none 0 0,.slice none 0 0,O U 0,O U 0,O U 0,O U 0,O U 0,O U 0,O U 0,O U 0,O U 0,.slice none 0 0,O U 0,O U 0] 115)=z:=⟨_,rfl⟩
   rw [hBr] at qx hbs ⊢
   rw [hwe] at qx hbq ⊢
   clear hwe hBr
   have HS:=Z (HSK.out _ hbq)
   refine hK.out _ _ HS.out (fun _=> ?_)
   clear hK K
   try simp only [Act.put,sB,sZ,sS]
   refine wpAnyH_ready (rs:= [10]) (by kernel_rfl) (by simp) ?_
   refine AllReadyH.cons rfl (fun K hK=> ?_) AllReadyH.nil
   rw [if_pos (by rfl)]
   have h0:=qx.cell 0;have z0:=qx.frozen 0
   have h1:=qx.cell 1;have z1:=qx.frozen 1
   have h2:=qx.cell 2;have z2:=qx.frozen 2
   have h3:=qx.cell 3;have z3:=qx.frozen 3
   have h4:=qx.cell 4;have z4:=qx.frozen 4
   have h5:=qx.cell 5;have z5:=qx.frozen 5
   have h6:=qx.cell 6;have z6:=qx.frozen 6
   have h7:=qx.cell 7;have z7:=qx.frozen 7
   have h8:=qx.cell 8;have z8:=qx.frozen 8
   have h9:=qx.cell 9;have z9:=qx.frozen 9
   have h10:=qx.cell 10;have z10:=qx.frozen 10
   have h11:=qx.cell 11;have z11:=qx.frozen 11
   have h12:=qx.cell 12;have z12:=qx.frozen 12
   have h13:=qx.cell 13;have z13:=qx.frozen 13
   have h14:=qx.cell 14;have z14:=qx.frozen 14
   go_simp
   clear h0 z0 h1 z1 h2 z2 h3 z3 h4 z4 h5 z5 h6 z6 h7 z7 h8 z8 h9 z9 h10 z10 h11 z11 h12 z12 h13 z13 h14 z14
   have hbn:=below_set15 hbq (g:=Br) (by omega) (.slice A p.nodes.length c) (.slice A2 p.rails.length c2) (.slice Aw n cw) (O U t.mass) (O U t.len) (O U t.speed) (O U t.effort) (O U t.brake) (O U t.power) (O U t.resist) (O U t.rise) (O U t.back) (.slice At nt ct) (O U st) (O U stop)
   have qy:=Rw.set15 qx (.slice A p.nodes.length c) (.slice A2 p.rails.length c2) (.slice Aw n cw) (O U t.mass) (O U t.len) (O U t.speed) (O U t.effort) (O U t.brake) (O U t.power) (O U t.resist) (O U t.rise) (O U t.back) (.slice At nt ct) (O U st) (O U stop)
   obtain⟨W6,hw⟩:∃z,(((((((((((((((we.setCell ⟨Br,0,none⟩ (.slice A p.nodes.length c)).setCell ⟨Br,1,none⟩ (.slice A2 p.rails.length c2)).setCell ⟨Br,2,none⟩ (.slice Aw n cw)).setCell ⟨Br,3,none⟩ (O U t.mass)).setCell ⟨Br,4,none⟩ (O U t.len)).setCell ⟨Br,5,none⟩ (O U t.speed)).setCell ⟨Br,6,none⟩ (O U t.effort)).setCell ⟨Br,7,none⟩ (O U t.brake)).setCell ⟨Br,8,none⟩ (O U t.power)).setCell ⟨Br,9,none⟩ (O U t.resist)).setCell ⟨Br,10,none⟩ (O U t.rise)).setCell ⟨Br,11,none⟩ (O U t.back)).setCell ⟨Br,12,none⟩ (.slice At nt ct)).setCell ⟨Br,13,none⟩ (O U st)).setCell ⟨Br,14,none⟩ (O U stop))=z:=⟨_,rfl⟩
   rw [hw] at qy hbn ⊢
   clear qx hbq hw
   have HS:=Z (HSK.out _ hbn)
   refine hK.out _ _ HS.out (fun _=> ?_)
   clear hK K
   try simp only [Act.put,sB,sZ,sS]
   refine wpAnyH_done (by kernel_rfl) ?_ _
   have HB6:=Z hbn;have HBR6:=Z hbs
   have HQR:=Z qy
   clear qy hbn hbs HS
   obtain⟨RL,hRL⟩:∃r,legR t a (slpR p l) (limR p l t) stop 36000 Leg0 0 y=r:=⟨_,rfl⟩
   have HRN:=Z (show RL=none→R=none from fun h=>by have:=HRL.out;rw [hRL,h] at this;exact this.symm)
   have HRS:=Z (show ∀q,RL=some q→legsR t a (slpR p l) (limR p l t) (stops.drop (k+1)) q.2 (acc ++ [q.1])=R from fun q h=>by have:=HRL.out;rw [hRL,h] at this;exact this)
   have HRI:=Z hRL
   clear hRL
   go_upto_region 8 with (fail)
   have hbl:=(Below.refl W6.heap.size W6).alloc (Nat.le_refl _) (.cells #[O U 0,O U 0,O U 0,O U 0,O U 0,O U 0,O U 0,O U 0,O U 0,O U 0] 72)
   have ql:=Rw.new W6 #[O U 0,O U 0,O U 0,O U 0,O U 0,O U 0,O U 0,O U 0,O U 0,O U 0] 72
   have hrl:=HQR.out.lt
   have qr:=HQR.out.below hbl hrl
   have hz7:(W6.alloc (.cells #[O U 0,O U 0,O U 0,O U 0,O U 0,O U 0,O U 0,O U 0,O U 0,O U 0] 72)).heap.size=W6.heap.size+1:=by simp
   have hb7:=HB6.out.trans (hbl.mono HB6.out.size)
   obtain⟨W7,hW7⟩:∃z,W6.alloc (.cells #[O U 0,O U 0,O U 0,O U 0,O U 0,O U 0,O U 0,O U 0,O U 0,O U 0] 72)=z:=⟨_,rfl⟩
   rw [hW7] at ql qr hz7 hb7 ⊢
   obtain⟨Bl,hBl⟩:∃z,W6.heap.size=z:=⟨_,rfl⟩
   rw [hBl] at ql hz7 hrl ⊢
   have qx:=HHX.out.below hb7 HHX.out.lt
   have HBB:=Z (show B0+2<Br∧Br<Bl∧W7.heap.size=Bl+1∧wr.heap.size≤Br from⟨by have:=HHX.out.lt;have:=HBR6.out;omega,hrl,hz7,HBR6.out⟩)
   have HI7:=Z (And.intro qx (And.intro qr ql))
   have HB7:=Z hb7
   clear hbl ql qr hz7 hb7 hW7 hBl qx hrl
   go_wp2
   go_loopw [17] (fun s17 wv=>∃(j:Nat) (m y:Int) (lg:LegP),j≤36000∧s17=O U (j:Int)∧Rw wv (B0+2) 35 #[O U m,O U y]∧Rw wv Br 115 #[.slice A p.nodes.length c,.slice A2 p.rails.length c2,.slice Aw n cw,O U t.mass,O U t.len,O U t.speed,O U t.effort,O U t.brake,O U t.power,O U t.resist,O U t.rise,O U t.back,.slice At nt ct,O U st,O U stop]∧Rw wv Bl 72 #[O U lg.millis,O U lg.at_,O U lg.lg.pull,O U lg.lg.brake,O U lg.lg.drag,O U lg.lg.hill,O U lg.lg.round,O U lg.lg.hold,O U lg.took,O U lg.gave]∧0≤m∧m≤25000 * t.mass∧0≤y∧y≤2400000000000000000∧t.len≤y / (10 * t.mass)∧lg.millis=100 * (j:Int)∧legR t a (slpR p l) (limR p l t) stop (36000 - j) lg m y=RL∧BT W7.heap.size (fun q=>q=B0+2∨q=Bl) W7 wv) (fun s17 _=>36001 - (intOf s17).toNat)
   case atStart=>exact⟨0,0,y,Leg0,by omega,rfl,HI7.out.1,HI7.out.2.1,HI7.out.2.2,by omega,by have:=HCX.out.tr.m1;omega,HY.out.1,HY.out.2.1,HY.out.2.2,rfl,HRI.out,BT.refl _ _ _⟩
   case round=>
    rename World=>wv
    obtain⟨j,m,y2,lg,hj,rfl,qx,qr,ql,m0,m1,y0,y1,hpl,hms,hRl,hbt⟩:=hrel
    have HX:=Z qx;have HRw:=Z qr;have HL:=Z ql;have HBI:=Z hbt
    have HM:=Z (And.intro m0 (And.intro m1 (And.intro y0 (And.intro y1 (And.intro hpl (And.intro hms hj))))))
    have HRl:=Z hRl
    have hbo:BT wr.heap.size (fun q=>q=B0+2) wr wv:=(BT.of _ HB7.out).trans (hbt.weak (B':=W7.heap.size) (T':=fun q=>q=B0+2∨q=Bl) (Nat.le_refl _) (fun _ _ h=>h) |>.weak (by have:=HB7.out.size;omega) (fun q hq h=>by have:=HBB.out;rcases h with h|h;exact h;omega)) (Nat.le_refl _)
    have HBO:=Z hbo
    have HBWv:=Z (show Below w.heap.size w wv from HBW.out.trans (hbo.below HBW.out.size (fun q hq e=>by have:=HBE.out;omega)))
    have HCV:=Z (show ∀wx,Below wv.heap.size wv wx→RfC wx A A2 c c2 p Aw cw n l t At nt ct st from fun wx h=>HCB.out wx (HBWv.out.trans (h.mono HBWv.out.size)))
    have q7:=hbo.rw HROW.out.2 (by have:=HBB.out;have:=HHX.out.lt;omega) (by omega)
    have HSK:=Z (show ∀wx,Below wv.heap.size wv wx→Rw wx (B0+1) 24 #[O U t.mass,O U t.len,O U t.speed,O U t.effort,O U t.brake,O U t.power,O U t.resist,O U t.rise,O U t.back,.slice At nt ct]∧Rw wx (B0+2) 35 #[O U m,O U y2]∧wx.cell? ⟨bs,os+k,none⟩=some (O U stop) from fun wx h=>⟨q7.below h q7.lt,qx.below h qx.lt,(h.cell (p:=⟨bs,os+k,none⟩) (by show bs<wv.heap.size;have:=HBWv.out.size;omega)).trans ((hbo.cellk (p:=⟨bs,os+k,none⟩) (by show bs<wr.heap.size;have:=HBW.out.size;omega) (by show ¬bs=B0+2;have:=HBE.out;omega)).trans (HSTK.out))⟩)
    have HQ7:=Z q7
    clear hj m0 m1 y0 y1 hpl hms hRl hbt hbo q7 qx qr ql
    obtain⟨pl,hple⟩:∃z,y2 / (10 * t.mass)=z:=⟨_,rfl⟩
    have HPE:=Z hple
    obtain⟨ar,har⟩:∃b,arrR t stop m y2=b:=⟨_,rfl⟩
    have HAR:=Z har
    clear hple har
    go_upto_region 9 with (fail)
    go_cut [62] from 49 to 62 (fun s62 wx=>s62= .bool (!ar)∧Below wv.heap.size wv wx)
    case first=>
     have hbq:Below wv.heap.size wv wv.drew:=(Below.refl _ _).drew
     have HS:=Z (HSK.out _ hbq)
     refine wp_region_held_drew (S:=fun wx=>Rw wx (B0+1) 24 #[O U t.mass,O U t.len,O U t.speed,O U t.effort,O U t.brake,O U t.power,O U t.resist,O U t.rise,O U t.back,.slice At nt ct]∧Rw wx (B0+2) 35 #[O U m,O U y2]∧wx.cell? ⟨bs,os+k,none⟩=some (O U stop)) (by kernel_rfl) HS.out (fun _=> ?_)
     by_cases hm:0<m
     ·have HMP:=Z hm
      have HAF:=Z (show ar=false from by rw [←HAR.out];unfold arrR;rw [decide_eq_false (by have:=HMP.out;omega)];rfl)
      clear hm
      refine hTk (i:=0) (d:=49) (v:= .pointer (some ⟨B0+2,0,none⟩)) rfl rfl (Or.inl ⟨rfl,by rintro W' ⟨u0,u1,u2⟩;have y:=u0.cell;have x:=u1.cell;have hk0:=HK0.out;have hki:=HKN.out;have hmp:=HMP.out;go_simp⟩) HS.out ?_
      simp only [Act.put,sB,sZ,sS]
      refine hTk (i:=1) (d:=50) (v:=O U m) rfl rfl (Or.inl ⟨rfl,by rintro W' ⟨u0,u1,u2⟩;have y:=u0.cell;have x:=u1.cell;have hk0:=HK0.out;have hki:=HKN.out;have hmp:=HMP.out;go_simp⟩) HS.out ?_
      simp only [Act.put,sB,sZ,sS]
      refine hTk (i:=2) (d:=51) (v:= .bool true) rfl rfl (Or.inl ⟨rfl,by rintro W' ⟨u0,u1,u2⟩;have y:=u0.cell;have x:=u1.cell;have hk0:=HK0.out;have hki:=HKN.out;have hmp:=HMP.out;go_simp⟩) HS.out ?_
      simp only [Act.put,sB,sZ,sS]
      refine hTk (i:=3) (d:=52) (v:= .bool true) rfl rfl (Or.inl ⟨rfl,by rintro W' ⟨u0,u1,u2⟩;have y:=u0.cell;have x:=u1.cell;have hk0:=HK0.out;have hki:=HKN.out;have hmp:=HMP.out;go_simp⟩) HS.out ?_
      simp only [Act.put,sB,sZ,sS]
      refine hTk (i:=4) (d:=53) (v:=undef) rfl rfl (Or.inr ⟨rfl,rfl⟩) HS.out ?_
      simp only [Act.put,sB,sZ,sS]
      refine hTk (i:=5) (d:=54) (v:=undef) rfl rfl (Or.inr ⟨rfl,rfl⟩) HS.out ?_
      simp only [Act.put,sB,sZ,sS]
      refine hTk (i:=6) (d:=55) (v:=undef) rfl rfl (Or.inr ⟨rfl,rfl⟩) HS.out ?_
      simp only [Act.put,sB,sZ,sS]
      refine hTk (i:=7) (d:=56) (v:=undef) rfl rfl (Or.inr ⟨rfl,rfl⟩) HS.out ?_
      simp only [Act.put,sB,sZ,sS]
      refine hTk (i:=8) (d:=57) (v:=undef) rfl rfl (Or.inr ⟨rfl,rfl⟩) HS.out ?_
      simp only [Act.put,sB,sZ,sS]
      refine hTk (i:=9) (d:=58) (v:=undef) rfl rfl (Or.inr ⟨rfl,rfl⟩) HS.out ?_
      simp only [Act.put,sB,sZ,sS]
      refine hTk (i:=10) (d:=59) (v:=undef) rfl rfl (Or.inr ⟨rfl,rfl⟩) HS.out ?_
      simp only [Act.put,sB,sZ,sS]
      refine hTk (i:=11) (d:=60) (v:=undef) rfl rfl (Or.inr ⟨rfl,rfl⟩) HS.out ?_
      simp only [Act.put,sB,sZ,sS]
      refine hTk (i:=12) (d:=61) (v:=undef) rfl rfl (Or.inr ⟨rfl,rfl⟩) HS.out ?_
      simp only [Act.put,sB,sZ,sS]
      refine hTk (i:=13) (d:=62) (v:= .bool true) rfl rfl (Or.inl ⟨rfl,by rintro W' ⟨u0,u1,u2⟩;have y:=u0.cell;have x:=u1.cell;have hk0:=HK0.out;have hki:=HKN.out;have hmp:=HMP.out;go_simp⟩) HS.out ?_
      simp only [Act.put,sB,sZ,sS]
      refine wpAnyH_done (by kernel_rfl) ?_ _
      go_wp2_with fail
      go_meet
      exact⟨by rw [HAF.out];first|rfl|simp,hbq⟩
     ·have HMP:=Z hm
      obtain⟨bb,hbb⟩:∃b,decide (pl<stop - 1000)=b:=⟨_,rfl⟩
      have HBBB:=Z hbb
      have HAF:=Z (show ar= !bb from by
       rw [←HAR.out,←hbb,←HPE.out]
       unfold arrR
       rw [decide_eq_true (show m=0 from by have:=HMP.out;have:=HM.out.1;omega),Bool.true_and,←decide_not,decide_eq_decide]
       omega)
      have HPL:=Z (show ∀wx,Below wv.heap.size wv wx→Calls Tryz.prog 53 #[.agg #[O U t.mass,O U t.len,O U t.speed,O U t.effort,O U t.brake,O U t.power,O U t.resist,O U t.rise,O U t.back,.slice At nt ct],.agg #[O U m,O U y2]] wx fun e w'=>e= .returned (O U pl)∧Below wx.heap.size wx w' from fun wx h=>by
       have:=rPlaceB_any At ct nt t m y2 wx HCX.out.tr HM.out.2.2.1 (by have:=HM.out.2.2.2.1;omega)
       rwa [HPE.out] at this)
      have HWS:=Z (show IntKind.i64.wrap (stop - 1000)=stop - 1000 from by have:=HSTP.out;have:=HCX.out.tr.l1;rw [IntKind.wrap_i64];omega)
      clear hm hbb
      refine hTk (i:=0) (d:=49) (v:= .pointer (some ⟨B0+2,0,none⟩)) rfl rfl (Or.inl ⟨rfl,by rintro W' ⟨u0,u1,u2⟩;have y:=u0.cell;have x:=u1.cell;have hk0:=HK0.out;have hki:=HKN.out;have hmp:=HMP.out;have hws:=HWS.out;have hbb:=HBBB.out;go_simp⟩) HS.out ?_
      simp only [Act.put,sB,sZ,sS]
      refine hTk (i:=1) (d:=50) (v:=O U m) rfl rfl (Or.inl ⟨rfl,by rintro W' ⟨u0,u1,u2⟩;have y:=u0.cell;have x:=u1.cell;have hk0:=HK0.out;have hki:=HKN.out;have hmp:=HMP.out;have hws:=HWS.out;have hbb:=HBBB.out;go_simp⟩) HS.out ?_
      simp only [Act.put,sB,sZ,sS]
      refine hTk (i:=2) (d:=51) (v:= .bool false) rfl rfl (Or.inl ⟨rfl,by rintro W' ⟨u0,u1,u2⟩;have y:=u0.cell;have x:=u1.cell;have hk0:=HK0.out;have hki:=HKN.out;have hmp:=HMP.out;have hws:=HWS.out;have hbb:=HBBB.out;go_simp⟩) HS.out ?_
      simp only [Act.put,sB,sZ,sS]
      refine hTk (i:=3) (d:=52) (v:= .bool false) rfl rfl (Or.inl ⟨rfl,by rintro W' ⟨u0,u1,u2⟩;have y:=u0.cell;have x:=u1.cell;have hk0:=HK0.out;have hki:=HKN.out;have hmp:=HMP.out;have hws:=HWS.out;have hbb:=HBBB.out;go_simp⟩) HS.out ?_
      simp only [Act.put,sB,sZ,sS]
      refine hTk (i:=4) (d:=53) (v:= .agg #[O U t.mass,O U t.len,O U t.speed,O U t.effort,O U t.brake,O U t.power,O U t.resist,O U t.rise,O U t.back,.slice At nt ct]) rfl rfl (Or.inl ⟨rfl,by rintro W' ⟨u0,u1,u2⟩;have y:=u0.cell;have x:=u1.cell;have hk0:=HK0.out;have hki:=HKN.out;have hmp:=HMP.out;have hws:=HWS.out;have hbb:=HBBB.out;go_simp⟩) HS.out ?_
      simp only [Act.put,sB,sZ,sS]
      refine hTk (i:=5) (d:=54) (v:= .agg #[O U m,O U y2]) rfl rfl (Or.inl ⟨rfl,by rintro W' ⟨u0,u1,u2⟩;have y:=u0.cell;have x:=u1.cell;have hk0:=HK0.out;have hki:=HKN.out;have hmp:=HMP.out;have hws:=HWS.out;have hbb:=HBBB.out;go_simp⟩) HS.out ?_
      simp only [Act.put,sB,sZ,sS]
      refine hTk (i:=7) (d:=56) (v:= .slice (some ⟨bs,os,none⟩) ns cs) rfl rfl (Or.inl ⟨rfl,by rintro W' ⟨u0,u1,u2⟩;have y:=u0.cell;have x:=u1.cell;have hk0:=HK0.out;have hki:=HKN.out;have hmp:=HMP.out;have hws:=HWS.out;have hbb:=HBBB.out;go_simp⟩) HS.out ?_
      simp only [Act.put,sB,sZ,sS]
      refine hTk (i:=8) (d:=57) (v:=O U (k:Int)) rfl rfl (Or.inl ⟨rfl,by rintro W' ⟨u0,u1,u2⟩;have y:=u0.cell;have x:=u1.cell;have hk0:=HK0.out;have hki:=HKN.out;have hmp:=HMP.out;have hws:=HWS.out;have hbb:=HBBB.out;go_simp⟩) HS.out ?_
      simp only [Act.put,sB,sZ,sS]
      refine hTk (i:=9) (d:=58) (v:= .pointer (some ⟨bs,os+k,none⟩)) rfl rfl (Or.inl ⟨rfl,by rintro W' ⟨u0,u1,u2⟩;have y:=u0.cell;have x:=u1.cell;have hk0:=HK0.out;have hki:=HKN.out;have hmp:=HMP.out;have hws:=HWS.out;have hbb:=HBBB.out;go_simp⟩) HS.out ?_
      simp only [Act.put,sB,sZ,sS]
      refine hTk (i:=10) (d:=59) (v:=O U stop) rfl rfl (Or.inl ⟨rfl,by rintro W' ⟨u0,u1,u2⟩;have y:=u0.cell;have x:=u1.cell;have hk0:=HK0.out;have hki:=HKN.out;have hmp:=HMP.out;have hws:=HWS.out;have hbb:=HBBB.out;go_simp⟩) HS.out ?_
      simp only [Act.put,sB,sZ,sS]
      refine hTk (i:=11) (d:=60) (v:=O U (stop - 1000)) rfl rfl (Or.inl ⟨rfl,by rintro W' ⟨u0,u1,u2⟩;have y:=u0.cell;have x:=u1.cell;have hk0:=HK0.out;have hki:=HKN.out;have hmp:=HMP.out;have hws:=HWS.out;have hbb:=HBBB.out;go_simp⟩) HS.out ?_
      simp only [Act.put,sB,sZ,sS]
      refine wpAnyH_ready (rs:= [6]) (by kernel_rfl) (by simp) ?_
      refine AllReadyH.cons rfl (fun K hK=> ?_) AllReadyH.nil
      rw [if_pos (by rfl)]
      go_simp
      go_at_call 53
      (with_reducible refine (HPL.out _ hbq).mono ?_)
      rintro e w9 ⟨rfl,hbn⟩
      replace hbq:=hbq.trans (hbn.mono hbq.size)
      clear hbn
      have HS:=Z (HSK.out _ hbq)
      refine hK.out _ _ HS.out (fun _=> ?_)
      clear hK K
      try simp only [Act.put,sB,sZ,sS]
      refine hTk (i:=12) (d:=61) (v:= .bool bb) rfl rfl (Or.inl ⟨rfl,by rintro W' ⟨u0,u1,u2⟩;have y:=u0.cell;have x:=u1.cell;have hk0:=HK0.out;have hki:=HKN.out;have hmp:=HMP.out;have hws:=HWS.out;have hbb:=HBBB.out;go_simp⟩) HS.out ?_
      simp only [Act.put,sB,sZ,sS]
      refine hTk (i:=13) (d:=62) (v:= .bool bb) rfl rfl (Or.inl ⟨rfl,by rintro W' ⟨u0,u1,u2⟩;have y:=u0.cell;have x:=u1.cell;have hk0:=HK0.out;have hki:=HKN.out;have hmp:=HMP.out;have hws:=HWS.out;have hbb:=HBBB.out;go_simp⟩) HS.out ?_
      simp only [Act.put,sB,sZ,sS]
      refine wpAnyH_done (by kernel_rfl) ?_ _
      go_wp2_with fail
      go_meet
      exact⟨by rw [HAF.out];first|rfl|simp,hbq⟩
    case rest=>
    obtain⟨rfl,hbq⟩:=hcut
    have HBQ:=Z hbq
    have qx:=HX.out.below hbq HX.out.lt
    have qr:=HRw.out.below hbq HRw.out.lt
    have ql:=HL.out.below hbq HL.out.lt
    have q7:=HQ7.out.below hbq HQ7.out.lt
    cases ar with
    | true=>
     obtain⟨ha1,ha2⟩:m=0∧stop - 1000≤pl:=by
      have h:=HAR.out
      unfold arrR at h
      rw [HPE.out] at h
      simpa using h
     have HRE:=Z (show RL=some (⟨lg.millis,pl,lg.lg,lg.took,lg.gave⟩,y2) from by rw [←HRl.out,legR_arr HAR.out,HPE.out])
     have HPL:=Z (show ∀wx,Calls Tryz.prog 53 #[.agg #[O U t.mass,O U t.len,O U t.speed,O U t.effort,O U t.brake,O U t.power,O U t.resist,O U t.rise,O U t.back,.slice At nt ct],.agg #[O U m,O U y2]] wx fun e w'=>e= .returned (O U pl)∧Below wx.heap.size wx w' from fun wx=>by
      have:=rPlaceB_any At ct nt t m y2 wx HCX.out.tr HM.out.2.2.1 (by have:=HM.out.2.2.2.1;omega)
      rwa [HPE.out] at this)
     have HM0:=Z ha1
     have hxx:=qx.cell;have h77:=q7.cell
     clear ha1 ha2 hbq
     go_upto_region 23 with (fail)
     go_wp2_with fail
     (with_reducible refine (HPL.out _).mono ?_)
     rintro e w9 ⟨rfl,hb9⟩
     have hb:=HBQ.out.trans (hb9.mono HBQ.out.size)
     have hbt:=HBO.out.go (Nat.le_refl _) hb
     have qX:=qx.below hb9 qx.lt
     have qL:=ql.below hb9 ql.lt
     have hbb:=HBB.out
     have hlz:Bl<w9.heap.size:=qL.lt
     clear hxx h77 qx qr ql q7 hb9 hb
     have hll:=qL.cell;have hlf:=qL.frozen
     go_upto_region 24 with (fail)
     clear hll hlf
     have nX:Rw (w9.setCell ⟨Bl,1,none⟩ (O U pl)) (B0+2) 35 #[O U m,O U y2]:=(qX.far (k:=Bl) 1 (O U pl) (by omega))
     have nL:Rw (w9.setCell ⟨Bl,1,none⟩ (O U pl)) (Bl) 72 #[O U lg.millis,O U pl,O U lg.lg.pull,O U lg.lg.brake,O U lg.lg.drag,O U lg.lg.hill,O U lg.lg.round,O U lg.lg.hold,O U lg.took,O U lg.gave]:=(qL.set 1 (O U pl))
     have nbt:=(hbt.set (k:=Bl) 1 (O U pl) (.inr (by omega)))
     obtain⟨w10,hw⟩:∃z,(w9.setCell ⟨Bl,1,none⟩ (O U pl))=z:=⟨_,rfl⟩
     rw [hw] at nbt nX nL ⊢
     clear hw hbt qX qL
     have qX:=nX;clear nX
     have qL:=nL;clear nL
     have hbt:=nbt;clear nbt
     have HO9:=Z (hbt.own HO.out (Nat.le_refl _) (fun q hq e=>by have:=HZ2.out;omega))
     have hbw2:=HBT.out.trans hbt (by have:=HBT.out.size;omega)
     have HB9:=Z (show BT W2.heap.size (fun q=>q=B0+2) W2 w10 from hbw2)
     have HX9:=Z (show Rw w10 (B0+2) 35 #[O U 0,O U y2] from by have h:=qX;rw [HM0.out] at h;exact h)
     have hll:=qL.cell
     have hz10:W2.heap.size≤w10.heap.size:=hbw2.size
     have HZt:=Z hz10
     have ho9:=HKB.out
     clear qX qL hbt hbw2 hbb hlz hz10
     go_wp2_with (at_builtin;go_must (refine wpList_app _ rfl (.tmp 128) (.tmp 130) _ rfl W2.heap.size 72 i0 _ 10 80 Tryz.underlying63 hi hzr hz1 hz2 rfl (by omega) fLl_len fLl_one u13 _ rfl (HO9.out.alloc _) _ _ [(⟨lg.millis,pl,lg.lg,lg.took,lg.gave⟩:LegP)] 1 rfl (Sl.new _ _ _ _ rfl) (by simp only [maxLen,List.length_cons,List.length_nil];omega) (by simp only [List.length_cons,List.length_nil];omega) (by have:=HZt.out;simp;omega) (fun _=> .inr ⟨_,rfl⟩) ?_);intro v2 w11 o2 gr2 at2 ne2)
     have hx11:Rw w11 (B0+2) 35 #[O U 0,O U y2]:=(gr2.block (B0+2) (by have:=HX9.out.lt;simp;omega) (fun e=>by have:=(HO9.out.lt _ e.symm).1;have:=HZ2.out;omega)).trans ((Below.heap_alloc w10 (.cells #[O U lg.millis,O U pl,O U lg.lg.pull,O U lg.lg.brake,O U lg.lg.drag,O U lg.lg.hill,O U lg.lg.round,O U lg.lg.hold,O U lg.took,O U lg.gave] 72) _ HX9.out.lt).trans HX9.out)
     have hbt11:BT W2.heap.size (fun q=>q=B0+2) W2 w11:=(HB9.out.go (Nat.le_refl _) ((Below.refl _ _).alloc (Nat.le_refl _) (.cells #[O U lg.millis,O U pl,O U lg.lg.pull,O U lg.lg.brake,O U lg.lg.drag,O U lg.lg.hill,O U lg.lg.round,O U lg.lg.hold,O U lg.took,O U lg.gave] 72))).turn (Nat.le_refl _) gr2 (fun r e=>(HO9.out.lt r e).1)
     have hkn:=HKN.out
     refine⟨⟨k+1,y2,acc ++ [(⟨lg.millis,pl,lg.lg,lg.took,lg.gave⟩:LegP)],by omega,by omega,by simp;omega,by simp,o2,hx11,HM.out.2.2.1,HM.out.2.2.2.1,HM.out.2.2.2.2.1,HRS.out _ HRE.out,hbt11⟩, ?_⟩
     simp [intOf] <;> omega
    | false=>
     have hxx:=qx.cell;have h77:=q7.cell;have hrr:=qr.cell
     have HBR9:=Z (HBWv.out.trans (hbq.mono HBWv.out.size))
     by_cases hj36:j=36000
     ·have hjb:((j:Int) == 36000)=true:=by rw [beq_iff_eq];omega
      have HRE:=Z (show RL=none from by rw [←HRl.out,hj36];exact legR_late HAR.out)
      clear hbq hj36
      go_wp2
      go_ret2
      exact⟨.inl ⟨HRN.out HRE.out,rfl⟩,HBR9.out⟩
     ·have hjb:((j:Int) == 36000)=false:=by rw [beq_eq_false_iff_ne];omega
      have HJ:=Z (show j<36000 from by have:=HM.out.2.2.2.2.2.2;omega)
      clear hj36
      by_cases hyb:10000000000000000<y2
      ·have HRE:=Z (show RL=none from by rw [←HRl.out];exact legR_over HAR.out hyb)
       clear hbq
       go_wp2
       go_ret2
       exact⟨.inl ⟨HRN.out HRE.out,rfl⟩,HBR9.out⟩
      ·have HYB:=Z hyb
       obtain⟨o,ho⟩:∃o,drvN t a (slpR p l) (limR p l t) stop m y2 9=o:=⟨_,rfl⟩
       have HDR:=Z (show ∀wx,Below wv.heap.size wv wx→Calls Tryz.prog 64 #[.agg #[.slice A p.nodes.length c,.slice A2 p.rails.length c2,.slice Aw n cw,O U t.mass,O U t.len,O U t.speed,O U t.effort,O U t.brake,O U t.power,O U t.resist,O U t.rise,O U t.back,.slice At nt ct,O U st,O U stop],.agg #[O U m,O U y2]] wx fun e w'=>e= .returned (.tuple #[O U (drvD o),.bool o.isSome])∧Below wx.heap.size wx w' from fun wx h=>by
        have:=rdrive_any A A2 c c2 p Aw cw n l t At nt ct st stop m y2 wx (HCV.out wx h) HSTP.out.2 HM.out.1 HM.out.2.1 HM.out.2.2.1 (by omega) HM.out.2.2.2.2.1
        rw [HAE.out,ho] at this
        exact this)
       have HOE:=Z ho
       clear ho
       go_wp2_with fail
       (with_reducible refine (HDR.out _ HBQ.out).mono ?_)
       rintro e w10 ⟨rfl,hb10⟩
       have hbq2:=HBQ.out.trans (hb10.mono HBQ.out.size)
       have HBR10:=Z (HBWv.out.trans (hbq2.mono HBWv.out.size))
       have HB10:=Z hbq2
       have qx:=qx.below hb10 qx.lt
       have qr:=qr.below hb10 qr.lt
       have ql:=ql.below hb10 ql.lt
       have q7:=q7.below hb10 q7.lt
       clear hxx h77 hrr hb10 hyb hjb hbq hbq2
       cases o with
       | none=>
        have HRE:=Z (show RL=none from by rw [←HRl.out];exact legR_no HAR.out HOE.out)
        go_wp2
        go_ret2
        exact⟨.inl ⟨HRN.out HRE.out,rfl⟩,HBR10.out⟩
       | some d9=>
        obtain⟨hd9,hqm,hsf⟩:=drvN_ok HOE.out
        obtain⟨d,hd⟩:∃d:Int,(d9:Int) - 4=d:=⟨_,rfl⟩
        obtain⟨sl,hsl⟩:∃s,slpR p l pl=s:=⟨_,rfl⟩
        obtain⟨q,hq⟩:∃q,mkQ t m d sl st=q:=⟨_,rfl⟩
        obtain⟨gl,hgl⟩:∃g,mkL t m d sl st=g:=⟨_,rfl⟩
        obtain⟨tk,htk⟩:∃g,tookZ t (mkF t m d sl st) (mkQ t m d sl st)=g:=⟨_,rfl⟩
        obtain⟨gv,hgv⟩:∃g,gaveZ t (mkF t m d sl st) (mkQ t m d sl st)=g:=⟨_,rfl⟩
        have hQE:drvQ t a (slpR p l) m y2 d9=q:=by unfold drvQ;rw [HPE.out,hsl,←hq,←HAE.out,hd];rfl
        have hFE:drvF t a (slpR p l) m y2 d9=mkF t m d sl st:=by unfold drvF;rw [HPE.out,hsl,←HAE.out,hd];rfl
        have HNX:=Z (show legNextR t a (slpR p l) m y2 d9 lg=⟨lg.millis+100,lg.at_,addL lg.lg gl,max lg.took tk,max lg.gave gv⟩ from by
         unfold legNextR
         rw [hFE,hQE,←htk,←hgv,←hgl]
         unfold mkL
         rw [hq])
        rw [hQE] at hqm hsf
        have hfn:FineOk t m y2 d (slpR p l pl) st:=HCX.out.fine HM.out.1 HM.out.2.1 HM.out.2.2.1 (by have:=HYB.out;omega) (by omega) (by omega)
        rw [hsl] at hfn
        have hqb:=fine_q hfn
        rw [hq] at hqb
        have HQB:=Z (show 0≤q∧q≤2080000000∧q≤25000 * t.mass from⟨hqb.1,hqb.2,hqm⟩)
        have HQE:=Z hQE
        have HSLP:=Z (show ∀wx,Below wv.heap.size wv wx→Calls Tryz.prog 65 #[.agg #[.slice A p.nodes.length c,.slice A2 p.rails.length c2,.slice Aw n cw,O U t.mass,O U t.len,O U t.speed,O U t.effort,O U t.brake,O U t.power,O U t.resist,O U t.rise,O U t.back,.slice At nt ct,O U st,O U stop],O U pl] wx fun e w'=>e= .returned (O U sl)∧Below wx.heap.size wx w' from fun wx h=>by
         have:=(HCV.out wx h).slope stop pl
         rwa [hsl] at this)
        have HPL:=Z (show ∀wx,Below wv.heap.size wv wx→Calls Tryz.prog 53 #[.agg #[O U t.mass,O U t.len,O U t.speed,O U t.effort,O U t.brake,O U t.power,O U t.resist,O U t.rise,O U t.back,.slice At nt ct],.agg #[O U m,O U y2]] wx fun e w'=>e= .returned (O U pl)∧Below wx.heap.size wx w' from fun wx h=>by
         have:=rPlaceB_any At ct nt t m y2 wx HCX.out.tr HM.out.2.2.1 (by have:=HM.out.2.2.2.1;omega)
         rwa [HPE.out] at this)
        have HPW:=Z (show ∀wx,Below wv.heap.size wv wx→Calls Tryz.prog 24 #[.agg #[O U t.mass,O U t.len,O U t.speed,O U t.effort,O U t.brake,O U t.power,O U t.resist,O U t.rise,O U t.back,.slice At nt ct],.agg #[O U m,O U y2],O U d,O U sl,O U st] wx fun e w'=>e= .returned (.tuple #[O U tk,O U gv])∧Below wx.heap.size wx w' from fun wx h=>by
         have hc:=HCV.out wx h
         have:=rPowers_any At ct nt t m y2 d sl st wx hc.gn (by have:=hc.tr.g2;have:=hc.gn;omega) hc.gp hfn
         rwa [htk,hgv] at this)
        have HSTE:=Z (show ∀wx,Below wv.heap.size wv wx→Calls Tryz.prog 23 #[.agg #[O U t.mass,O U t.len,O U t.speed,O U t.effort,O U t.brake,O U t.power,O U t.resist,O U t.rise,O U t.back,.slice At nt ct],.agg #[O U m,O U y2],O U d,O U sl,O U st] wx fun e w'=>e= .returned (.tuple #[.agg #[O U q,O U (y2+q)],.agg #[O U gl.pull,O U gl.brake,O U gl.drag,O U gl.hill,O U gl.round,O U gl.hold],.bool true])∧Below wx.heap.size wx w' from fun wx h=>by
         have hc:=HCV.out wx h
         have:=rStep_any At ct nt t m y2 d sl st wx hc.gn (by have:=hc.tr.g2;have:=hc.gn;omega) hc.gp hfn
         rw [hq,hgl,decide_eq_true hqm] at this
         exact this)
        have HDD:=Z hd
        have HSK:=Z (show ∀wx,Below wv.heap.size wv wx→Rw wx (B0+1) 24 #[O U t.mass,O U t.len,O U t.speed,O U t.effort,O U t.brake,O U t.power,O U t.resist,O U t.rise,O U t.back,.slice At nt ct]∧Rw wx (B0+2) 35 #[O U m,O U y2]∧Rw wx Br 115 #[.slice A p.nodes.length c,.slice A2 p.rails.length c2,.slice Aw n cw,O U t.mass,O U t.len,O U t.speed,O U t.effort,O U t.brake,O U t.power,O U t.resist,O U t.rise,O U t.back,.slice At nt ct,O U st,O U stop] from fun wx h=>⟨HQ7.out.below h HQ7.out.lt,HX.out.below h HX.out.lt,HRw.out.below h HRw.out.lt⟩)
        rw [show drvD (some d9)=d from hd]
        clear hd9 hqm hsf hd hsl hq hgl htk hgv hQE hFE hfn hqb
        simp only [Option.isSome_some]
        have hb10:=HB10.out
        obtain⟨wa,hwa⟩:∃z,w10=z:=⟨_,rfl⟩
        rw [hwa] at qx qr ql q7 hb10 ⊢
        clear hwa
        go_upto_region 16 with (fail)
        clear qx qr ql q7
        have hbq:Below wv.heap.size wv wa.drew:=hb10.drew
        clear hb10
        have HS:=Z (HSK.out _ hbq)
        refine wp_region_held_drew (S:=fun wx=>Rw wx (B0+1) 24 #[O U t.mass,O U t.len,O U t.speed,O U t.effort,O U t.brake,O U t.power,O U t.resist,O U t.rise,O U t.back,.slice At nt ct]∧Rw wx (B0+2) 35 #[O U m,O U y2]∧Rw wx Br 115 #[.slice A p.nodes.length c,.slice A2 p.rails.length c2,.slice Aw n cw,O U t.mass,O U t.len,O U t.speed,O U t.effort,O U t.brake,O U t.power,O U t.resist,O U t.rise,O U t.back,.slice At nt ct,O U st,O U stop]) (by kernel_rfl) HS.out (fun _=> ?_)
        refine hTk (i:=0) (d:=80) (v:= .agg #[.slice A p.nodes.length c,.slice A2 p.rails.length c2,.slice Aw n cw,O U t.mass,O U t.len,O U t.speed,O U t.effort,O U t.brake,O U t.power,O U t.resist,O U t.rise,O U t.back,.slice At nt ct,O U st,O U stop]) rfl rfl (Or.inl ⟨rfl,by rintro W' ⟨u0,u1,u2⟩;have y:=u0.cell;have x:=u1.cell;have z:=u2.cell;go_simp⟩) HS.out ?_
        simp only [Act.put,sB,sZ,sS]
        refine hTk (i:=1) (d:=81) (v:= .agg #[O U t.mass,O U t.len,O U t.speed,O U t.effort,O U t.brake,O U t.power,O U t.resist,O U t.rise,O U t.back,.slice At nt ct]) rfl rfl (Or.inl ⟨rfl,by rintro W' ⟨u0,u1,u2⟩;have y:=u0.cell;have x:=u1.cell;have z:=u2.cell;go_simp⟩) HS.out ?_
        simp only [Act.put,sB,sZ,sS]
        refine hTk (i:=2) (d:=82) (v:= .agg #[O U m,O U y2]) rfl rfl (Or.inl ⟨rfl,by rintro W' ⟨u0,u1,u2⟩;have y:=u0.cell;have x:=u1.cell;have z:=u2.cell;go_simp⟩) HS.out ?_
        simp only [Act.put,sB,sZ,sS]
        refine wpAnyH_ready (rs:= [3]) (by kernel_rfl) (by simp) ?_
        refine AllReadyH.cons rfl (fun K hK=> ?_) AllReadyH.nil
        rw [if_pos (by rfl)]
        go_simp
        go_at_call 53
        (with_reducible refine (HPL.out _ hbq).mono ?_)
        rintro e x1 ⟨rfl,hbn⟩
        replace hbq:=hbq.trans (hbn.mono hbq.size)
        clear hbn
        have HS:=Z (HSK.out _ hbq)
        refine hK.out _ _ HS.out (fun _=> ?_)
        clear hK K
        try simp only [Act.put,sB,sZ,sS]
        refine wpAnyH_ready (rs:= [4]) (by kernel_rfl) (by simp) ?_
        refine AllReadyH.cons rfl (fun K hK=> ?_) AllReadyH.nil
        rw [if_pos (by rfl)]
        go_simp
        go_at_call 65
        (with_reducible refine (HSLP.out _ hbq).mono ?_)
        rintro e x2 ⟨rfl,hbn⟩
        replace hbq:=hbq.trans (hbn.mono hbq.size)
        clear hbn
        have HS:=Z (HSK.out _ hbq)
        refine hK.out _ _ HS.out (fun _=> ?_)
        clear hK K
        try simp only [Act.put,sB,sZ,sS]
        refine hTk (i:=5) (d:=20) (v:=O U sl) rfl rfl (Or.inl ⟨rfl,by rintro W' ⟨u0,u1,u2⟩;have y:=u0.cell;have x:=u1.cell;have z:=u2.cell;go_simp⟩) HS.out ?_
        simp only [Act.put,sB,sZ,sS]
        refine wpAnyH_done (by kernel_rfl) ?_ _
        have qx:=HS.out.2.1.cell;have q7:=HS.out.1.cell
        clear HS
        obtain⟨wb,hwb⟩:∃z,x2=z:=⟨_,rfl⟩
        rw [hwb] at hbq qx q7 ⊢
        clear hwb
        have HB11:=Z hbq
        clear hbq
        go_wp2_with fail
        (with_reducible refine (HPW.out _ HB11.out).mono ?_)
        rintro e w12 ⟨rfl,hb12⟩
        have hb13:=HB11.out.trans (hb12.mono HB11.out.size)
        have HB12:=Z hb13
        clear qx q7 hb12
        have qx:=(HSK.out _ hb13).2.1.cell;have q7:=(HSK.out _ hb13).1.cell
        clear hb13
        go_wp2_with fail
        (with_reducible refine (HSTE.out _ HB12.out).mono ?_)
        rintro e w13 ⟨rfl,hb13⟩
        have HB13:=Z (HB12.out.trans (hb13.mono HB12.out.size))
        clear qx q7 hb13
        go_upto_region 19 with (fail)
        have hba:=((Below.refl w13.heap.size w13).alloc (Nat.le_refl _) (.cells #[O U q,O U (y2+q)] 35)).alloc (by simp) (.cells #[O U gl.pull,O U gl.brake,O U gl.drag,O U gl.hill,O U gl.round,O U gl.hold] 37)
        obtain⟨qS,qG⟩:=rows2 w13 #[O U q,O U (y2+q)] #[O U gl.pull,O U gl.brake,O U gl.drag,O U gl.hill,O U gl.round,O U gl.hold] 35 37
        have hz14:((w13.alloc (.cells #[O U q,O U (y2+q)] 35)).alloc (.cells #[O U gl.pull,O U gl.brake,O U gl.drag,O U gl.hill,O U gl.round,O U gl.hold] 37)).heap.size=w13.heap.size+2:=by simp
        obtain⟨w14,hwa⟩:∃z,(w13.alloc (.cells #[O U q,O U (y2+q)] 35)).alloc (.cells #[O U gl.pull,O U gl.brake,O U gl.drag,O U gl.hill,O U gl.round,O U gl.hold] 37)=z:=⟨_,rfl⟩
        rw [hwa] at hba qS qG hz14 ⊢
        obtain⟨Bs,hBs⟩:∃z,w13.heap.size=z:=⟨_,rfl⟩
        obtain⟨Bg,hBg⟩:∃z,Bs+1=z:=⟨_,rfl⟩
        rw [hBs] at qS qG hz14 ⊢
        rw [hBg] at qG ⊢
        have hb14:=HB13.out.trans (hba.mono HB13.out.size)
        have qX:=HX.out.below hb14 HX.out.lt
        have qR:=HRw.out.below hb14 HRw.out.lt
        have qL:=HL.out.below hb14 HL.out.lt
        have hbt:=HBI.out.go (Nat.le_refl _) hb14
        have hbb:=HBB.out
        have hls:Bl<Bs:=by have:=HL.out.lt;have:=HB13.out.size;omega
        have hw7:W7.heap.size≤Bs:=by have:=HBI.out.size;have:=HB13.out.size;omega
        clear hba hwa hz14 hBs hb14
        have hxx:=qX.cell;have hxf:=qX.frozen;have hss:=qS.cell
        go_upto_region 20 with (fail)
        clear hxx hxf hss
        have nX:Rw ((w14.setCell ⟨B0+2,0,none⟩ (O U q)).setCell ⟨B0+2,1,none⟩ (O U (y2+q))) (B0+2) 35 #[O U q,O U (y2+q)]:=((qX.set 0 (O U q)).set 1 (O U (y2+q)))
        have nR:Rw ((w14.setCell ⟨B0+2,0,none⟩ (O U q)).setCell ⟨B0+2,1,none⟩ (O U (y2+q))) (Br) 115 #[.slice A p.nodes.length c,.slice A2 p.rails.length c2,.slice Aw n cw,O U t.mass,O U t.len,O U t.speed,O U t.effort,O U t.brake,O U t.power,O U t.resist,O U t.rise,O U t.back,.slice At nt ct,O U st,O U stop]:=((qR.far (k:=B0+2) 0 (O U q) (by omega)).far (k:=B0+2) 1 (O U (y2+q)) (by omega))
        have nL:Rw ((w14.setCell ⟨B0+2,0,none⟩ (O U q)).setCell ⟨B0+2,1,none⟩ (O U (y2+q))) (Bl) 72 #[O U lg.millis,O U lg.at_,O U lg.lg.pull,O U lg.lg.brake,O U lg.lg.drag,O U lg.lg.hill,O U lg.lg.round,O U lg.lg.hold,O U lg.took,O U lg.gave]:=((qL.far (k:=B0+2) 0 (O U q) (by omega)).far (k:=B0+2) 1 (O U (y2+q)) (by omega))
        have nS:Rw ((w14.setCell ⟨B0+2,0,none⟩ (O U q)).setCell ⟨B0+2,1,none⟩ (O U (y2+q))) (Bs) 35 #[O U q,O U (y2+q)]:=((qS.far (k:=B0+2) 0 (O U q) (by omega)).far (k:=B0+2) 1 (O U (y2+q)) (by omega))
        have nG:Rw ((w14.setCell ⟨B0+2,0,none⟩ (O U q)).setCell ⟨B0+2,1,none⟩ (O U (y2+q))) (Bg) 37 #[O U gl.pull,O U gl.brake,O U gl.drag,O U gl.hill,O U gl.round,O U gl.hold]:=((qG.far (k:=B0+2) 0 (O U q) (by omega)).far (k:=B0+2) 1 (O U (y2+q)) (by omega))
        have nbt:=((hbt.set (k:=B0+2) 0 (O U q) (by first|exact .inl (.inl rfl)|exact .inl (.inr rfl))).set (k:=B0+2) 1 (O U (y2+q)) (by first|exact .inl (.inl rfl)|exact .inl (.inr rfl)))
        obtain⟨w15,hw⟩:∃z,((w14.setCell ⟨B0+2,0,none⟩ (O U q)).setCell ⟨B0+2,1,none⟩ (O U (y2+q)))=z:=⟨_,rfl⟩
        rw [hw] at nbt nX nR nL nS nG ⊢
        clear hw hbt qX qR qL qS qG
        have qX:=nX;clear nX
        have qR:=nR;clear nR
        have qL:=nL;clear nL
        have qS:=nS;clear nS
        have qG:=nG;clear nG
        have hbt:=nbt;clear nbt
        have hll:=qL.cell;have hlf:=qL.frozen
        have hwm:IntKind.i64.wrap (lg.millis+100)=lg.millis+100:=by have:=HM.out.2.2.2.2.2.1;have:=HJ.out;rw [IntKind.wrap_i64];omega
        go_upto_region 21 with (fail)
        clear hll hlf hwm
        have nX:Rw (w15.setCell ⟨Bl,0,none⟩ (O U (lg.millis+100))) (B0+2) 35 #[O U q,O U (y2+q)]:=(qX.far (k:=Bl) 0 (O U (lg.millis+100)) (by omega))
        have nR:Rw (w15.setCell ⟨Bl,0,none⟩ (O U (lg.millis+100))) (Br) 115 #[.slice A p.nodes.length c,.slice A2 p.rails.length c2,.slice Aw n cw,O U t.mass,O U t.len,O U t.speed,O U t.effort,O U t.brake,O U t.power,O U t.resist,O U t.rise,O U t.back,.slice At nt ct,O U st,O U stop]:=(qR.far (k:=Bl) 0 (O U (lg.millis+100)) (by omega))
        have nL:Rw (w15.setCell ⟨Bl,0,none⟩ (O U (lg.millis+100))) (Bl) 72 #[O U (lg.millis+100),O U lg.at_,O U lg.lg.pull,O U lg.lg.brake,O U lg.lg.drag,O U lg.lg.hill,O U lg.lg.round,O U lg.lg.hold,O U lg.took,O U lg.gave]:=(qL.set 0 (O U (lg.millis+100)))
        have nS:Rw (w15.setCell ⟨Bl,0,none⟩ (O U (lg.millis+100))) (Bs) 35 #[O U q,O U (y2+q)]:=(qS.far (k:=Bl) 0 (O U (lg.millis+100)) (by omega))
        have nG:Rw (w15.setCell ⟨Bl,0,none⟩ (O U (lg.millis+100))) (Bg) 37 #[O U gl.pull,O U gl.brake,O U gl.drag,O U gl.hill,O U gl.round,O U gl.hold]:=(qG.far (k:=Bl) 0 (O U (lg.millis+100)) (by omega))
        have nbt:=(hbt.set (k:=Bl) 0 (O U (lg.millis+100)) (by first|exact .inl (.inl rfl)|exact .inl (.inr rfl)))
        obtain⟨w16,hw⟩:∃z,(w15.setCell ⟨Bl,0,none⟩ (O U (lg.millis+100)))=z:=⟨_,rfl⟩
        rw [hw] at nbt nX nR nL nS nG ⊢
        clear hw hbt qX qR qL qS qG
        have qX:=nX;clear nX
        have qR:=nR;clear nR
        have qL:=nL;clear nL
        have qS:=nS;clear nS
        have qG:=nG;clear nG
        have hbt:=nbt;clear nbt
        have hll:=qL.cell;have hlf:=qL.frozen
        go_upto_region 22 with (fail)
        clear hll hlf
        (try rw [maxIf lg.took tk,maxIf lg.gave gv])
        have nX:Rw ((w16.setCell ⟨Bl,8,none⟩ (O U (max lg.took tk))).setCell ⟨Bl,9,none⟩ (O U (max lg.gave gv))) (B0+2) 35 #[O U q,O U (y2+q)]:=((qX.far (k:=Bl) 8 (O U (max lg.took tk)) (by omega)).far (k:=Bl) 9 (O U (max lg.gave gv)) (by omega))
        have nR:Rw ((w16.setCell ⟨Bl,8,none⟩ (O U (max lg.took tk))).setCell ⟨Bl,9,none⟩ (O U (max lg.gave gv))) (Br) 115 #[.slice A p.nodes.length c,.slice A2 p.rails.length c2,.slice Aw n cw,O U t.mass,O U t.len,O U t.speed,O U t.effort,O U t.brake,O U t.power,O U t.resist,O U t.rise,O U t.back,.slice At nt ct,O U st,O U stop]:=((qR.far (k:=Bl) 8 (O U (max lg.took tk)) (by omega)).far (k:=Bl) 9 (O U (max lg.gave gv)) (by omega))
        have nL:Rw ((w16.setCell ⟨Bl,8,none⟩ (O U (max lg.took tk))).setCell ⟨Bl,9,none⟩ (O U (max lg.gave gv))) (Bl) 72 #[O U (lg.millis+100),O U lg.at_,O U lg.lg.pull,O U lg.lg.brake,O U lg.lg.drag,O U lg.lg.hill,O U lg.lg.round,O U lg.lg.hold,O U (max lg.took tk),O U (max lg.gave gv)]:=((qL.set 8 (O U (max lg.took tk))).set 9 (O U (max lg.gave gv)))
        have nS:Rw ((w16.setCell ⟨Bl,8,none⟩ (O U (max lg.took tk))).setCell ⟨Bl,9,none⟩ (O U (max lg.gave gv))) (Bs) 35 #[O U q,O U (y2+q)]:=((qS.far (k:=Bl) 8 (O U (max lg.took tk)) (by omega)).far (k:=Bl) 9 (O U (max lg.gave gv)) (by omega))
        have nG:Rw ((w16.setCell ⟨Bl,8,none⟩ (O U (max lg.took tk))).setCell ⟨Bl,9,none⟩ (O U (max lg.gave gv))) (Bg) 37 #[O U gl.pull,O U gl.brake,O U gl.drag,O U gl.hill,O U gl.round,O U gl.hold]:=((qG.far (k:=Bl) 8 (O U (max lg.took tk)) (by omega)).far (k:=Bl) 9 (O U (max lg.gave gv)) (by omega))
        have nbt:=((hbt.set (k:=Bl) 8 (O U (max lg.took tk)) (by first|exact .inl (.inl rfl)|exact .inl (.inr rfl))).set (k:=Bl) 9 (O U (max lg.gave gv)) (by first|exact .inl (.inl rfl)|exact .inl (.inr rfl)))
        obtain⟨w17,hw⟩:∃z,((w16.setCell ⟨Bl,8,none⟩ (O U (max lg.took tk))).setCell ⟨Bl,9,none⟩ (O U (max lg.gave gv)))=z:=⟨_,rfl⟩
        rw [hw] at nbt nX nR nL nS nG ⊢
        clear hw hbt qX qR qL qS qG
        have qX:=nX;clear nX
        have qR:=nR;clear nR
        have qL:=nL;clear nL
        have qS:=nS;clear nS
        have qG:=nG;clear nG
        have hbt:=nbt;clear nbt
        have hll:=qL.cell;have hgg:=qG.cell
        have HSUM:=Z (show ∀wx,Calls Tryz.prog 66 #[.agg #[O U lg.lg.pull,O U lg.lg.brake,O U lg.lg.drag,O U lg.lg.hill,O U lg.lg.round,O U lg.lg.hold],.agg #[O U gl.pull,O U gl.brake,O U gl.drag,O U gl.hill,O U gl.round,O U gl.hold]] wx fun e w'=>e= .returned (.agg #[O U (addL lg.lg gl).pull,O U (addL lg.lg gl).brake,O U (addL lg.lg gl).drag,O U (addL lg.lg gl).hill,O U (addL lg.lg gl).round,O U (addL lg.lg gl).hold])∧Below wx.heap.size wx w' from fun wx=>rSum_any lg.lg gl wx)
        have HT:=Z (And.intro qX (And.intro qR (And.intro qL hbt)))
        clear qX qR qL qS qG hbt
        go_wp2_with fail
        (with_reducible refine (HSUM.out _).mono ?_)
        rintro e w18 ⟨rfl,hb18⟩
        have qX:=HT.out.1.below hb18 HT.out.1.lt
        have qR:=HT.out.2.1.below hb18 HT.out.2.1.lt
        have qL:=HT.out.2.2.1.below hb18 HT.out.2.2.1.lt
        have hbt:=HT.out.2.2.2.go (Nat.le_refl _) hb18
        clear hll hgg hb18
        have hll:=qL.cell;have hlf:=qL.frozen
        have HT4:=Z (And.intro qX (And.intro qR (And.intro qL hbt)))
        have HORD:=Z (And.intro hbb (And.intro hls hw7))
        clear qX qR qL hbt hbb hls hw7
        have hjj:=HJ.out
        go_wp2
        obtain⟨qX,qR,qL,hbt⟩:=HT4.out
        obtain⟨hbb,hls,hw7⟩:=HORD.out
        clear hll hlf
        have nX:Rw ((((((w18.setCell ⟨Bl,2,none⟩ (O U (addL lg.lg gl).pull)).setCell ⟨Bl,3,none⟩ (O U (addL lg.lg gl).brake)).setCell ⟨Bl,4,none⟩ (O U (addL lg.lg gl).drag)).setCell ⟨Bl,5,none⟩ (O U (addL lg.lg gl).hill)).setCell ⟨Bl,6,none⟩ (O U (addL lg.lg gl).round)).setCell ⟨Bl,7,none⟩ (O U (addL lg.lg gl).hold)) (B0+2) 35 #[O U q,O U (y2+q)]:=((((((qX.far (k:=Bl) 2 (O U (addL lg.lg gl).pull) (by omega)).far (k:=Bl) 3 (O U (addL lg.lg gl).brake) (by omega)).far (k:=Bl) 4 (O U (addL lg.lg gl).drag) (by omega)).far (k:=Bl) 5 (O U (addL lg.lg gl).hill) (by omega)).far (k:=Bl) 6 (O U (addL lg.lg gl).round) (by omega)).far (k:=Bl) 7 (O U (addL lg.lg gl).hold) (by omega))
        have nR:Rw ((((((w18.setCell ⟨Bl,2,none⟩ (O U (addL lg.lg gl).pull)).setCell ⟨Bl,3,none⟩ (O U (addL lg.lg gl).brake)).setCell ⟨Bl,4,none⟩ (O U (addL lg.lg gl).drag)).setCell ⟨Bl,5,none⟩ (O U (addL lg.lg gl).hill)).setCell ⟨Bl,6,none⟩ (O U (addL lg.lg gl).round)).setCell ⟨Bl,7,none⟩ (O U (addL lg.lg gl).hold)) (Br) 115 #[.slice A p.nodes.length c,.slice A2 p.rails.length c2,.slice Aw n cw,O U t.mass,O U t.len,O U t.speed,O U t.effort,O U t.brake,O U t.power,O U t.resist,O U t.rise,O U t.back,.slice At nt ct,O U st,O U stop]:=((((((qR.far (k:=Bl) 2 (O U (addL lg.lg gl).pull) (by omega)).far (k:=Bl) 3 (O U (addL lg.lg gl).brake) (by omega)).far (k:=Bl) 4 (O U (addL lg.lg gl).drag) (by omega)).far (k:=Bl) 5 (O U (addL lg.lg gl).hill) (by omega)).far (k:=Bl) 6 (O U (addL lg.lg gl).round) (by omega)).far (k:=Bl) 7 (O U (addL lg.lg gl).hold) (by omega))
        have nL:Rw ((((((w18.setCell ⟨Bl,2,none⟩ (O U (addL lg.lg gl).pull)).setCell ⟨Bl,3,none⟩ (O U (addL lg.lg gl).brake)).setCell ⟨Bl,4,none⟩ (O U (addL lg.lg gl).drag)).setCell ⟨Bl,5,none⟩ (O U (addL lg.lg gl).hill)).setCell ⟨Bl,6,none⟩ (O U (addL lg.lg gl).round)).setCell ⟨Bl,7,none⟩ (O U (addL lg.lg gl).hold)) (Bl) 72 #[O U (lg.millis+100),O U lg.at_,O U (addL lg.lg gl).pull,O U (addL lg.lg gl).brake,O U (addL lg.lg gl).drag,O U (addL lg.lg gl).hill,O U (addL lg.lg gl).round,O U (addL lg.lg gl).hold,O U (max lg.took tk),O U (max lg.gave gv)]:=((((((qL.set 2 (O U (addL lg.lg gl).pull)).set 3 (O U (addL lg.lg gl).brake)).set 4 (O U (addL lg.lg gl).drag)).set 5 (O U (addL lg.lg gl).hill)).set 6 (O U (addL lg.lg gl).round)).set 7 (O U (addL lg.lg gl).hold))
        have nbt:=((((((hbt.set (k:=Bl) 2 (O U (addL lg.lg gl).pull) (by first|exact .inl (.inl rfl)|exact .inl (.inr rfl))).set (k:=Bl) 3 (O U (addL lg.lg gl).brake) (by first|exact .inl (.inl rfl)|exact .inl (.inr rfl))).set (k:=Bl) 4 (O U (addL lg.lg gl).drag) (by first|exact .inl (.inl rfl)|exact .inl (.inr rfl))).set (k:=Bl) 5 (O U (addL lg.lg gl).hill) (by first|exact .inl (.inl rfl)|exact .inl (.inr rfl))).set (k:=Bl) 6 (O U (addL lg.lg gl).round) (by first|exact .inl (.inl rfl)|exact .inl (.inr rfl))).set (k:=Bl) 7 (O U (addL lg.lg gl).hold) (by first|exact .inl (.inl rfl)|exact .inl (.inr rfl)))
        obtain⟨w19,hw⟩:∃z,((((((w18.setCell ⟨Bl,2,none⟩ (O U (addL lg.lg gl).pull)).setCell ⟨Bl,3,none⟩ (O U (addL lg.lg gl).brake)).setCell ⟨Bl,4,none⟩ (O U (addL lg.lg gl).drag)).setCell ⟨Bl,5,none⟩ (O U (addL lg.lg gl).hill)).setCell ⟨Bl,6,none⟩ (O U (addL lg.lg gl).round)).setCell ⟨Bl,7,none⟩ (O U (addL lg.lg gl).hold))=z:=⟨_,rfl⟩
        rw [hw] at nbt nX nR nL ⊢
        clear hw hbt qX qR qL
        have qX:=nX;clear nX
        have qR:=nR;clear nR
        have qL:=nL;clear nL
        have hbt:=nbt;clear nbt
        refine⟨⟨j+1,q,y2+q,⟨lg.millis+100,lg.at_,addL lg.lg gl,max lg.took tk,max lg.gave gv⟩,by omega,by simp,qX,qR,qL,HQB.out.1,HQB.out.2.2,by have:=HM.out.2.2.1;have:=HQB.out.1;omega,by have:=HYB.out;have:=HQB.out.2.1;omega, ?_, ?_, ?_,hbt⟩, ?_⟩
        ·exact Int.le_trans HM.out.2.2.2.2.1 (Int.ediv_le_ediv (by have:=HCX.out.tr.m1;omega) (by have:=HQB.out.1;omega))
        ·show lg.millis+100=_
         have:=HM.out.2.2.2.2.2.1
         push_cast
         omega
        ·rw [←HRl.out,show 36000 - j=(36000 - (j+1))+1 by omega,legR_go HAR.out (by have:=HYB.out;omega) HOE.out,HNX.out,HQE.out]
        ·simp [intOf] <;> omega
  ·have hki:¬(k:Int)<(ns:Int):=by omega
   have hRe:R=some (acc,y):=by rw [←hR,List.drop_eq_nil_of_le (by have:=HNS.out;omega)];rfl
   have HRE:=Z hRe
   have x1:=hx.cell 1
   clear hk1 hkn hak hown hx y0 y1 hpl hR hbt hbw hkk hRe HR
   go_upto_region 25 with (fail)
   go_quiet (fail)
   go_wp2
   go_ret2
   refine⟨.inr ⟨acc,y,_,HRE.out,rfl,(HO.out.drewN _).lower (by have:=HZ2.out;have:=HBE.out;omega)⟩,bDrewN HBW.out _⟩
end Go.Proofs.YtfhkbbjddjddmaaGreat
