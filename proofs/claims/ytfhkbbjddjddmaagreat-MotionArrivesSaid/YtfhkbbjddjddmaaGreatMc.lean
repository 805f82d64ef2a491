/- Texts M10 M11. -/
import Derived.Test.YtfhkbbjddjddmaaGreatMb
set_option linter.unusedVariables false
set_option linter.unusedSimpArgs false
open Go.Value renaming int→O
open Go.IntKind renaming i64→U
open Go.Lib renaming hid→Z
namespace Go.Proofs.YtfhkbbjddjddmaaGreat
open Go.RowKit
theorem makeStep_any (A:Option Addr) (c n:Nat) (t:Tr) (m y d sl st:Int) (w:World) (hn:t.grip.length=n) (hn2:n≤140737488351232) (hS:Sl w w.heap.size 1 CI A t.grip) :
  Calls Tryz.prog 43 #[.agg #[O U t.mass,O U t.len,O U t.speed,O U t.effort,O U t.brake,O U t.power,O U t.resist,O U t.rise,O U t.back,.slice A n c],.agg #[O U m,O U y],O U d,O U sl,O U st] w fun e w'=>e= .returned (.tuple #[.agg (mkS t m y d sl st),O U (mkE t m y d sl st)])∧Below w.heap.size w w':=by
 cases h:fineB t m y d sl st with
 | false=>exact makeStep_bad A c n t m y d sl st w hn hn2 hS h
 | true=>exact makeStep_ok A c n t m y d sl st w hn hn2 hS h
def mkL (t:Tr) (m d sl st:Int):Lg:=ledgerZ (mkF t m d sl st) m (mkQ t m d sl st)
def stX (t:Tr) (m y d sl st:Int):Array Value:=if mkE t m y d sl st=0 then #[O U (mkQ t m d sl st),O U (y+mkQ t m d sl st)] else #[O U 0,O U 0]
def stL (t:Tr) (m y d sl st:Int):Array Value:=if mkE t m y d sl st=0 then fLg (mkL t m d sl st) else #[O U 0,O U 0,O U 0,O U 0,O U 0,O U 0]
theorem mkE_fine {t:Tr} {m y d sl st:Int} (h:mkE t m y d sl st=0):fineB t m y d sl st=true∧mkQ t m d sl st≤25000 * t.mass∧y+mkQ t m d sl st≤10000000000000000:=by
 unfold mkE at h
 by_cases hf:fineB t m y d sl st=true
 ·rw [if_pos hf] at h
  by_cases hq:mkQ t m d sl st≤25000 * t.mass∧y+mkQ t m d sl st≤10000000000000000
  ·exact⟨hf,hq⟩
  ·rw [if_neg hq] at h;omega
 ·rw [if_neg hf] at h;omega
theorem rows4 (w:World) (a b c d:Array Value) (t1 t2 t3 t4:TypeId) :
  Rw ((((w.alloc (.cells a t1)).alloc (.cells b t2)).alloc (.cells c t3)).alloc (.cells d t4)) w.heap.size t1 a∧Rw ((((w.alloc (.cells a t1)).alloc (.cells b t2)).alloc (.cells c t3)).alloc (.cells d t4)) (w.heap.size+1) t2 b∧
  Rw ((((w.alloc (.cells a t1)).alloc (.cells b t2)).alloc (.cells c t3)).alloc (.cells d t4)) (w.heap.size+1+1) t3 c∧Rw ((((w.alloc (.cells a t1)).alloc (.cells b t2)).alloc (.cells c t3)).alloc (.cells d t4)) (w.heap.size+1+1+1) t4 d:=by
 obtain⟨q1,q2⟩:=rows2 w a b t1 t2
 obtain⟨q3,q4⟩:=rows2 ((w.alloc (.cells a t1)).alloc (.cells b t2)) c d t3 t4
 simp only [World.size_alloc] at q3 q4
 exact⟨(q1.alloc _).alloc _,(q2.alloc _).alloc _,q3,q4⟩
set_option maxRecDepth 100000 in
set_option maxHeartbeats 4000000 in
theorem step20_bad (A:Option Addr) (c n:Nat) (t:Tr) (m y d sl st:Int) (w:World) (hn:t.grip.length=n) (hn2:n≤140737488351232) (hS:Sl w w.heap.size 1 CI A t.grip) (he:mkE t m y d sl st≠0) :
  Calls Tryz.prog 20 #[.agg #[O U t.mass,O U t.len,O U t.speed,O U t.effort,O U t.brake,O U t.power,O U t.resist,O U t.rise,O U t.back,.slice A n c],.agg #[O U m,O U y],O U d,O U sl,O U st] w fun e w'=>e= .returned (.tuple #[.agg (stX t m y d sl st),.agg (stL t m y d sl st),O U (mkE t m y d sl st)])∧Below w.heap.size w w':=by
 have hb1:=((((Below.refl w.heap.size w).alloc (Nat.le_refl _) (.cells #[O U t.mass,O U t.len,O U t.speed,O U t.effort,O U t.brake,O U t.power,O U t.resist,O U t.rise,O U t.back,.slice A n c] 24)).alloc (by simp) (.cells #[O U m,O U y] 35)).alloc (by simp;omega) (.cells #[O U 0,O U 0] 35)).alloc (by simp;omega) (.cells #[O U 0,O U 0,O U 0,O U 0,O U 0,O U 0] 37)
 obtain⟨q1,q2,q3,q4⟩:=rows4 w #[O U t.mass,O U t.len,O U t.speed,O U t.effort,O U t.brake,O U t.power,O U t.resist,O U t.rise,O U t.back,.slice A n c] #[O U m,O U y] #[O U 0,O U 0] #[O U 0,O U 0,O U 0,O U 0,O U 0,O U 0] 24 35 35 37
 obtain⟨W1,hW1⟩:∃z,((((w.alloc (.cells #[O U t.mass,O U t.len,O U t.speed,O U t.effort,O U t.brake,O U t.power,O U t.resist,O U t.rise,O U t.back,.slice A n c] 24)).alloc (.cells #[O U m,O U y] 35)).alloc (.cells #[O U 0,O U 0] 35)).alloc (.cells #[O U 0,O U 0,O U 0,O U 0,O U 0,O U 0] 37))=z:=⟨_,rfl⟩
 rw [hW1] at hb1 q1 q2 q3 q4
 have HB1:=Z hb1
 have HX1:=Z (Below.refl W1.heap.size W1)
 have HQ:=Z (show ∀wx,Below W1.heap.size W1 wx→Rw wx w.heap.size 24 #[O U t.mass,O U t.len,O U t.speed,O U t.effort,O U t.brake,O U t.power,O U t.resist,O U t.rise,O U t.back,.slice A n c]∧Rw wx (w.heap.size+1) 35 #[O U m,O U y]∧Rw wx (w.heap.size+1+1) 35 #[O U 0,O U 0]∧Rw wx (w.heap.size+1+1+1) 37 #[O U 0,O U 0,O U 0,O U 0,O U 0,O U 0] from fun wx h=>⟨q1.below h q1.lt,q2.below h q2.lt,q3.below h q3.lt,q4.below h q4.lt⟩)
 have HC:=Z (makeStep_any A c n t m y d sl st W1 hn hn2 ((hS.below hb1).more (fun _ _ h=>h) hb1.size))
 have e0:=q1.cell 0;have e1:=q1.cell 1;have e2:=q1.cell 2;have e3:=q1.cell 3;have e4:=q1.cell 4;have e5:=q1.cell 5;have e6:=q1.cell 6;have e7:=q1.cell 7;have e8:=q1.cell 8;have e9:=q1.cell 9;have f0:=q2.cell 0;have f1:=q2.cell 1
 have HE:=Z (show stX t m y d sl st=#[O U 0,O U 0]∧stL t m y d sl st=#[O U 0,O U 0,O U 0,O U 0,O U 0,O U 0] from⟨by unfold stX;rw [if_neg he],by unfold stL;rw [if_neg he]⟩)
 have hms:mkS t m y d sl st=#[O U 0,O U 0,O U 0,O U 0,O U 0,O U 0]:=by unfold mkS;rw [if_neg he]
 rw [hms] at HC
 obtain⟨E,hE⟩:∃z,mkE t m y d sl st=z:=⟨_,rfl⟩
 rw [hE] at HC he ⊢
 have heb:(E == 0)=false:=by rw [beq_eq_false_iff_ne];exact he
 clear hb1 q1 q2 q3 q4 hS hn hms hE
 go_enter Tryz.func20,Tryz.ntmps20
 go_wp2_with fail
 (with_reducible refine (HC.out).mono ?_)
 rintro e w2 ⟨rfl,hb⟩
 have HX2:=Z (HX1.out.trans (hb.mono HX1.out.size))
 clear hb
 obtain⟨r1,r2,r3,r4⟩:=HQ.out _ HX2.out
 have e0:=r1.cell 0;have e1:=r1.cell 1;have e2:=r1.cell 2;have e3:=r1.cell 3;have e4:=r1.cell 4;have e5:=r1.cell 5;have e6:=r1.cell 6;have e7:=r1.cell 7;have e8:=r1.cell 8;have e9:=r1.cell 9;have f0:=r2.cell 0;have f1:=r2.cell 1;have g0:=r3.cell 0;have k0:=r3.frozen 0;have g1:=r3.cell 1;have k1:=r3.frozen 1;have p0:=r4.cell 0;have v0:=r4.frozen 0;have p1:=r4.cell 1;have v1:=r4.frozen 1;have p2:=r4.cell 2;have v2:=r4.frozen 2;have p3:=r4.cell 3;have v3:=r4.frozen 3;have p4:=r4.cell 4;have v4:=r4.frozen 4;have p5:=r4.cell 5;have v5:=r4.frozen 5;have lt3:=r3.lt;have lt4:=r4.lt
 clear r1 r2 r3 r4
 go_wp2
 (try simp only [Exit.inBlock,Exit.then])
 have hr1:=((((((((((((((HQ.out _ HX2.out).2.2.1.set 0 (O U 0)).set 1 (O U 0)).far (k:=w.heap.size+1+1+1) 0 (O U 0) (by omega))).far (k:=w.heap.size+1+1+1) 1 (O U 0) (by omega))).far (k:=w.heap.size+1+1+1) 2 (O U 0) (by omega))).far (k:=w.heap.size+1+1+1) 3 (O U 0) (by omega))).far (k:=w.heap.size+1+1+1) 4 (O U 0) (by omega))).far (k:=w.heap.size+1+1+1) 5 (O U 0) (by omega)).alloc (.cells #[O U 0,O U 0,O U 0,O U 0,O U 0,O U 0] 87)
 have hr2:=(((((((((HQ.out _ HX2.out).2.2.2.far (k:=w.heap.size+1+1) 0 (O U 0) (by omega)).far (k:=w.heap.size+1+1) 1 (O U 0) (by omega)).set 0 (O U 0)).set 1 (O U 0)).set 2 (O U 0)).set 3 (O U 0)).set 4 (O U 0)).set 5 (O U 0)).alloc (.cells #[O U 0,O U 0,O U 0,O U 0,O U 0,O U 0] 87)
 refine bodyPost_ret (res_cct rfl _ _ _ _ _ _ _ _ _ _ _ rfl rfl rfl hr1 hr2 Tryz.underlying35 rfl (by kernel_rfl) Tryz.underlying37 rfl (by kernel_rfl)) rfl ⟨by rw [HE.out.1,HE.out.2];rfl, ?_⟩
 have HZ:=HB1.out.size;have HY:=HX2.out.size
 exact ((((((((((HB1.out.trans (HX2.out.mono HB1.out.size)).setCell (by simp <;> omega) _).setCell (by simp <;> omega) _).setCell (by simp <;> omega) _).setCell (by simp <;> omega) _).setCell (by simp <;> omega) _).setCell (by simp <;> omega) _).setCell (by simp <;> omega) _).setCell (by simp <;> omega) _).alloc (by simp <;> omega) _)
set_option maxRecDepth 100000 in
set_option maxHeartbeats 4000000 in
theorem step20_ok (A:Option Addr) (c n:Nat) (t:Tr) (m y d sl st:Int) (w:World) (hn:t.grip.length=n) (hn2:n≤140737488351232) (hS:Sl w w.heap.size 1 CI A t.grip) (he:mkE t m y d sl st=0) :
  Calls Tryz.prog 20 #[.agg #[O U t.mass,O U t.len,O U t.speed,O U t.effort,O U t.brake,O U t.power,O U t.resist,O U t.rise,O U t.back,.slice A n c],.agg #[O U m,O U y],O U d,O U sl,O U st] w fun e w'=>e= .returned (.tuple #[.agg (stX t m y d sl st),.agg (stL t m y d sl st),O U (mkE t m y d sl st)])∧Below w.heap.size w w':=by
 obtain⟨hf,hq1,hq2⟩:=mkE_fine he
 have hF:=FineOk.of hf
 have hfs:=fine_fs hF
 have hq:=fine_q hF
 have hy0:=hF.y0
 have hm0:=hF.m0
 have hm1:m≤2000000000:=by have:=hF.m1;have:=hF.ok.m2;omega
 have hb1:=((((Below.refl w.heap.size w).alloc (Nat.le_refl _) (.cells #[O U t.mass,O U t.len,O U t.speed,O U t.effort,O U t.brake,O U t.power,O U t.resist,O U t.rise,O U t.back,.slice A n c] 24)).alloc (by simp) (.cells #[O U m,O U y] 35)).alloc (by simp;omega) (.cells #[O U 0,O U 0] 35)).alloc (by simp;omega) (.cells #[O U 0,O U 0,O U 0,O U 0,O U 0,O U 0] 37)
 obtain⟨q1,q2,q3,q4⟩:=rows4 w #[O U t.mass,O U t.len,O U t.speed,O U t.effort,O U t.brake,O U t.power,O U t.resist,O U t.rise,O U t.back,.slice A n c] #[O U m,O U y] #[O U 0,O U 0] #[O U 0,O U 0,O U 0,O U 0,O U 0,O U 0] 24 35 35 37
 obtain⟨W1,hW1⟩:∃z,((((w.alloc (.cells #[O U t.mass,O U t.len,O U t.speed,O U t.effort,O U t.brake,O U t.power,O U t.resist,O U t.rise,O U t.back,.slice A n c] 24)).alloc (.cells #[O U m,O U y] 35)).alloc (.cells #[O U 0,O U 0] 35)).alloc (.cells #[O U 0,O U 0,O U 0,O U 0,O U 0,O U 0] 37))=z:=⟨_,rfl⟩
 rw [hW1] at hb1 q1 q2 q3 q4
 have HB1:=Z hb1
 have HX1:=Z (Below.refl W1.heap.size W1)
 have HQ:=Z (show ∀wx,Below W1.heap.size W1 wx→Rw wx w.heap.size 24 #[O U t.mass,O U t.len,O U t.speed,O U t.effort,O U t.brake,O U t.power,O U t.resist,O U t.rise,O U t.back,.slice A n c]∧Rw wx (w.heap.size+1) 35 #[O U m,O U y]∧Rw wx (w.heap.size+1+1) 35 #[O U 0,O U 0]∧Rw wx (w.heap.size+1+1+1) 37 #[O U 0,O U 0,O U 0,O U 0,O U 0,O U 0] from fun wx h=>⟨q1.below h q1.lt,q2.below h q2.lt,q3.below h q3.lt,q4.below h q4.lt⟩)
 have HC:=Z (makeStep_any A c n t m y d sl st W1 hn hn2 ((hS.below hb1).more (fun _ _ h=>h) hb1.size))
 have e0:=q1.cell 0;have e1:=q1.cell 1;have e2:=q1.cell 2;have e3:=q1.cell 3;have e4:=q1.cell 4;have e5:=q1.cell 5;have e6:=q1.cell 6;have e7:=q1.cell 7;have e8:=q1.cell 8;have e9:=q1.cell 9;have f0:=q2.cell 0;have f1:=q2.cell 1
 have hms:mkS t m y d sl st=#[O U (mkF t m d sl st).p,O U (mkF t m d sl st).b,O U (mkF t m d sl st).d,O U (mkF t m d sl st).h,O U m,O U (mkQ t m d sl st)]:=by unfold mkS;rw [if_pos he]
 rw [hms,he] at HC
 rw [he]
 have hE1:stX t m y d sl st=#[O U (mkQ t m d sl st),O U (y+mkQ t m d sl st)]:=by unfold stX;rw [if_pos he]
 have hE2:stL t m y d sl st=fLg (ledgerZ (mkF t m d sl st) m (mkQ t m d sl st)):=by unfold stL;rw [if_pos he];rfl
 generalize mkQ t m d sl st=q at *
 generalize mkF t m d sl st=F at *
 have hlg:=fun wx=>ledger_any F m q wx hfs hm0 hm1 hq.1 (by omega)
 have hwy:IntKind.i64.wrap (y+q)=y+q:=by rw [IntKind.wrap_i64];omega
 generalize ledgerZ F m q=L at *
 have HLG:=Z (show ∀wx,Calls Tryz.prog 44 #[.agg #[O U F.p,O U F.b,O U F.d,O U F.h,O U m,O U q]] wx fun e w'=>e= .returned (.agg #[O U L.pull,O U L.brake,O U L.drag,O U L.hill,O U L.round,O U L.hold])∧Below wx.heap.size wx w' from hlg)
 have HE:=Z (show stX t m y d sl st=#[O U q,O U (y+q)]∧stL t m y d sl st=#[O U L.pull,O U L.brake,O U L.drag,O U L.hill,O U L.round,O U L.hold] from⟨hE1,hE2⟩)
 clear hb1 q1 q2 q3 q4 hS hn hms he hE1 hE2 hlg hq hq1 hq2 hf hF hfs hy0 hm0 hm1
 go_enter Tryz.func20,Tryz.ntmps20
 go_wp2_with fail
 (with_reducible refine (HC.out).mono ?_)
 rintro e w2 ⟨rfl,hb⟩
 have HX2:=Z (HX1.out.trans (hb.mono HX1.out.size))
 clear hb
 obtain⟨r1,r2,r3,r4⟩:=HQ.out _ HX2.out
 have e0:=r1.cell 0;have e1:=r1.cell 1;have e2:=r1.cell 2;have e3:=r1.cell 3;have e4:=r1.cell 4;have e5:=r1.cell 5;have e6:=r1.cell 6;have e7:=r1.cell 7;have e8:=r1.cell 8;have e9:=r1.cell 9;have f0:=r2.cell 0;have f1:=r2.cell 1;have g0:=r3.cell 0;have k0:=r3.frozen 0;have g1:=r3.cell 1;have k1:=r3.frozen 1;have p0:=r4.cell 0;have v0:=r4.frozen 0;have p1:=r4.cell 1;have v1:=r4.frozen 1;have p2:=r4.cell 2;have v2:=r4.frozen 2;have p3:=r4.cell 3;have v3:=r4.frozen 3;have p4:=r4.cell 4;have v4:=r4.frozen 4;have p5:=r4.cell 5;have v5:=r4.frozen 5;have lt3:=r3.lt;have lt4:=r4.lt
 clear r1 r2 r3 r4
 go_upto_region 4 with (fail)
 have hq9:=Rw.new w2 #[O U F.p,O U F.b,O U F.d,O U F.h,O U m,O U q] 87
 have hx3:=HX2.out.alloc HX2.out.size (.cells #[O U F.p,O U F.b,O U F.d,O U F.h,O U m,O U q] 87)
 obtain⟨W3,hW3⟩:∃z,w2.alloc (.cells #[O U F.p,O U F.b,O U F.d,O U F.h,O U m,O U q] 87)=z:=⟨_,rfl⟩
 rw [hW3] at hq9 hx3 ⊢
 have HB3:=Z (HB1.out.trans (hx3.mono HB1.out.size))
 have HSK:=Z (show ∀wx,Below W3.heap.size W3 wx→Rw wx w2.heap.size 87 #[O U F.p,O U F.b,O U F.d,O U F.h,O U m,O U q]∧Rw wx (w.heap.size+1) 35 #[O U m,O U y] from fun wx h=>⟨hq9.below h hq9.lt,(HQ.out _ (hx3.trans (h.mono hx3.size))).2.1⟩)
 have HT:=Z (show ∀wx,Below W3.heap.size W3 wx→Rw wx (w.heap.size+1+1) 35 #[O U 0,O U 0]∧Rw wx (w.heap.size+1+1+1) 37 #[O U 0,O U 0,O U 0,O U 0,O U 0,O U 0] from fun wx h=>(HQ.out _ (hx3.trans (h.mono hx3.size))).2.2)
 have HNE:=Z (show w.heap.size+1+1+1<w2.heap.size from lt4)
 have hbq:Below W3.heap.size W3 W3.drew:=(Below.refl _ _).drew
 have HS:=Z (HSK.out _ hbq)
 clear hq9 hx3 hW3
 refine wp_region_held_drew (S:=fun wx=>Rw wx w2.heap.size 87 #[O U F.p,O U F.b,O U F.d,O U F.h,O U m,O U q]∧Rw wx (w.heap.size+1) 35 #[O U m,O U y]) (by kernel_rfl) HS.out (fun _=> ?_)
 refine hTk (i:=0) (d:=29) (v:= .pointer (some ⟨w2.heap.size,5,none⟩)) rfl rfl (Or.inl ⟨rfl,by rintro W' ⟨s0,t0⟩;have y0:=s0.cell 0;have y1:=s0.cell 1;have y2:=s0.cell 2;have y3:=s0.cell 3;have y4:=s0.cell 4;have y5:=s0.cell 5;have z0:=t0.cell 0;have z1:=t0.cell 1;go_simp⟩) HS.out ?_
 simp only [Act.put,sB,sZ,sS]
 refine hTk (i:=1) (d:=30) (v:=O U q) rfl rfl (Or.inl ⟨rfl,by rintro W' ⟨s0,t0⟩;have y0:=s0.cell 0;have y1:=s0.cell 1;have y2:=s0.cell 2;have y3:=s0.cell 3;have y4:=s0.cell 4;have y5:=s0.cell 5;have z0:=t0.cell 0;have z1:=t0.cell 1;go_simp⟩) HS.out ?_
 simp only [Act.put,sB,sZ,sS]
 refine hTk (i:=2) (d:=31) (v:= .pointer (some ⟨w.heap.size+1,1,none⟩)) rfl rfl (Or.inl ⟨rfl,by rintro W' ⟨s0,t0⟩;have y0:=s0.cell 0;have y1:=s0.cell 1;have y2:=s0.cell 2;have y3:=s0.cell 3;have y4:=s0.cell 4;have y5:=s0.cell 5;have z0:=t0.cell 0;have z1:=t0.cell 1;go_simp⟩) HS.out ?_
 simp only [Act.put,sB,sZ,sS]
 refine hTk (i:=3) (d:=32) (v:=O U y) rfl rfl (Or.inl ⟨rfl,by rintro W' ⟨s0,t0⟩;have y0:=s0.cell 0;have y1:=s0.cell 1;have y2:=s0.cell 2;have y3:=s0.cell 3;have y4:=s0.cell 4;have y5:=s0.cell 5;have z0:=t0.cell 0;have z1:=t0.cell 1;go_simp⟩) HS.out ?_
 simp only [Act.put,sB,sZ,sS]
 refine hTk (i:=4) (d:=33) (v:= .pointer (some ⟨w2.heap.size,5,none⟩)) rfl rfl (Or.inl ⟨rfl,by rintro W' ⟨s0,t0⟩;have y0:=s0.cell 0;have y1:=s0.cell 1;have y2:=s0.cell 2;have y3:=s0.cell 3;have y4:=s0.cell 4;have y5:=s0.cell 5;have z0:=t0.cell 0;have z1:=t0.cell 1;go_simp⟩) HS.out ?_
 simp only [Act.put,sB,sZ,sS]
 refine hTk (i:=5) (d:=34) (v:=O U q) rfl rfl (Or.inl ⟨rfl,by rintro W' ⟨s0,t0⟩;have y0:=s0.cell 0;have y1:=s0.cell 1;have y2:=s0.cell 2;have y3:=s0.cell 3;have y4:=s0.cell 4;have y5:=s0.cell 5;have z0:=t0.cell 0;have z1:=t0.cell 1;go_simp⟩) HS.out ?_
 simp only [Act.put,sB,sZ,sS]
 refine hTk (i:=6) (d:=35) (v:=O U (y+q)) rfl rfl (Or.inl ⟨rfl,by rintro W' ⟨s0,t0⟩;have y0:=s0.cell 0;have y1:=s0.cell 1;have y2:=s0.cell 2;have y3:=s0.cell 3;have y4:=s0.cell 4;have y5:=s0.cell 5;have z0:=t0.cell 0;have z1:=t0.cell 1;go_simp⟩) HS.out ?_
 simp only [Act.put,sB,sZ,sS]
 refine hTk (i:=7) (d:=36) (v:= .agg #[O U q,O U (y+q)]) rfl rfl (Or.inl ⟨rfl,by rintro W' ⟨s0,t0⟩;have y0:=s0.cell 0;have y1:=s0.cell 1;have y2:=s0.cell 2;have y3:=s0.cell 3;have y4:=s0.cell 4;have y5:=s0.cell 5;have z0:=t0.cell 0;have z1:=t0.cell 1;go_simp⟩) HS.out ?_
 simp only [Act.put,sB,sZ,sS]
 refine hTk (i:=8) (d:=37) (v:= .agg #[O U F.p,O U F.b,O U F.d,O U F.h,O U m,O U q]) rfl rfl (Or.inl ⟨rfl,by rintro W' ⟨s0,t0⟩;have y0:=s0.cell 0;have y1:=s0.cell 1;have y2:=s0.cell 2;have y3:=s0.cell 3;have y4:=s0.cell 4;have y5:=s0.cell 5;have z0:=t0.cell 0;have z1:=t0.cell 1;go_simp⟩) HS.out ?_
 simp only [Act.put,sB,sZ,sS]
 refine wpAnyH_ready (rs:= [9]) (by kernel_rfl) (by simp) ?_
 refine AllReadyH.cons rfl (fun K hK=> ?_) AllReadyH.nil
 rw [if_pos (by rfl)]
 go_simp
 go_at_call 44
 (with_reducible refine (HLG.out _).mono ?_)
 rintro e w4 ⟨rfl,hbn⟩
 replace hbq:=hbq.trans (hbn.mono hbq.size)
 clear hbn
 have HS:=Z (HSK.out _ hbq)
 refine hK.out _ _ HS.out (fun _=> ?_)
 clear hK K
 try simp only [Act.put,sB,sZ,sS]
 refine wpAnyH_ready (rs:= [10]) (by kernel_rfl) (by simp) ?_
 refine AllReadyH.cons rfl (fun K hK=> ?_) AllReadyH.nil
 rw [if_pos (by rfl)]
 refine wp_store_row 35 _ _ rfl (w.heap.size+1+1) rfl #[O U q,O U (y+q)] rfl 35 _ (HT.out _ hbq).1 (by kernel_rfl) rfl (by simp [Value.oneCell']) ?_
 have hr1:=(HT.out _ hbq).1.setRow #[O U q,O U (y+q)]
 have hr2:=(HT.out _ hbq).2.setRow_far (k:=w.heap.size+1+1) #[O U q,O U (y+q)] (by omega)
 have hbz:=below_setRow (HB3.out.trans (hbq.mono HB3.out.size)) (show w.heap.size≤w.heap.size+1+1 by omega) #[O U q,O U (y+q)]
 have HS2:=Z (And.intro ((HSK.out _ hbq).1.setRow_far (k:=w.heap.size+1+1) #[O U q,O U (y+q)] (by have:=HNE.out;omega)) ((HSK.out _ hbq).2.setRow_far (k:=w.heap.size+1+1) #[O U q,O U (y+q)] (by omega)))
 refine hK.out _ _ HS2.out (fun _=> ?_)
 clear hK K
 try simp only [Act.put,sB,sZ,sS]
 refine wpAnyH_ready (rs:= [11]) (by kernel_rfl) (by simp) ?_
 refine AllReadyH.cons rfl (fun K hK=> ?_) AllReadyH.nil
 rw [if_pos (by rfl)]
 refine wp_store_row 37 _ _ rfl (w.heap.size+1+1+1) rfl #[O U L.pull,O U L.brake,O U L.drag,O U L.hill,O U L.round,O U L.hold] rfl 37 _ hr2 (by kernel_rfl) rfl (by simp [Value.oneCell']) ?_
 have hr3:=hr2.setRow #[O U L.pull,O U L.brake,O U L.drag,O U L.hill,O U L.round,O U L.hold]
 have hr4:=hr1.setRow_far (k:=w.heap.size+1+1+1) #[O U L.pull,O U L.brake,O U L.drag,O U L.hill,O U L.round,O U L.hold] (by omega)
 have hby:=below_setRow hbz (show w.heap.size≤w.heap.size+1+1+1 by omega) #[O U L.pull,O U L.brake,O U L.drag,O U L.hill,O U L.round,O U L.hold]
 have HS:=Z (And.intro (HS2.out.1.setRow_far (k:=w.heap.size+1+1+1) #[O U L.pull,O U L.brake,O U L.drag,O U L.hill,O U L.round,O U L.hold] (by have:=HNE.out;omega)) (HS2.out.2.setRow_far (k:=w.heap.size+1+1+1) #[O U L.pull,O U L.brake,O U L.drag,O U L.hill,O U L.round,O U L.hold] (by omega)))
 refine hK.out _ _ HS.out (fun _=> ?_)
 clear hK K
 try simp only [Act.put,sB,sZ,sS]
 refine hTk (i:=12) (d:=12) (v:=O U 0) rfl rfl (Or.inl ⟨rfl,by rintro W' ⟨s0,t0⟩;have y0:=s0.cell 0;have y1:=s0.cell 1;have y2:=s0.cell 2;have y3:=s0.cell 3;have y4:=s0.cell 4;have y5:=s0.cell 5;have z0:=t0.cell 0;have z1:=t0.cell 1;go_simp⟩) HS.out ?_
 simp only [Act.put,sB,sZ,sS]
 refine wpAnyH_done (by kernel_rfl) ?_ _
 go_wp2
 (try simp only [Exit.inBlock,Exit.then])
 exact bodyPost_ret (res_cct rfl _ _ _ _ _ _ _ _ _ _ _ rfl rfl rfl hr4 hr3 Tryz.underlying35 rfl (by kernel_rfl) Tryz.underlying37 rfl (by kernel_rfl)) rfl ⟨by rw [HE.out.1,HE.out.2];rfl,hby⟩
open Go.RowKit
theorem step20_any (A:Option Addr) (c n:Nat) (t:Tr) (m y d sl st:Int) (w:World) (hn:t.grip.length=n) (hn2:n≤140737488351232) (hS:Sl w w.heap.size 1 CI A t.grip) :
  Calls Tryz.prog 20 #[.agg #[O U t.mass,O U t.len,O U t.speed,O U t.effort,O U t.brake,O U t.power,O U t.resist,O U t.rise,O U t.back,.slice A n c],.agg #[O U m,O U y],O U d,O U sl,O U st] w fun e w'=>e= .returned (.tuple #[.agg (stX t m y d sl st),.agg (stL t m y d sl st),O U (mkE t m y d sl st)])∧Below w.heap.size w w':=by
 by_cases h:mkE t m y d sl st=0
 ·exact step20_ok A c n t m y d sl st w hn hn2 hS h
 ·exact step20_bad A c n t m y d sl st w hn hn2 hS h
end Go.Proofs.YtfhkbbjddjddmaaGreat
