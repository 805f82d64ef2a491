/- Contracts: the reference Step. -/
import Derived.Test.YtfhkbbjddjddmaaGreatMc
set_option linter.unusedVariables false
set_option linter.unusedSimpArgs false
open Go.Value renaming int→O
open Go.IntKind renaming i64→U
open Go.Lib renaming hid→Z
namespace Go.Proofs.YtfhkbbjddjddmaaGreat
open Go.RowKit
theorem mkL_hold {t:Tr} {m d sl st:Int} (h:m+100 * (mkF t m d sl st).sum<0∨(m=0∧(mkF t m d sl st).sum≤0)) (h0:0≤m):mkQ t m d sl st=0∧mkL t m d sl st=⟨0,0,0,0,0,m * m⟩:=by
 have hq:mkQ t m d sl st=max 0 (m+100 * (mkF t m d sl st).sum):=rfl
 have hq0:mkQ t m d sl st=0:=by rw [hq];omega
 refine⟨hq0, ?_⟩
 unfold mkL ledgerZ
 rw [hq0]
 by_cases h1:(0:Int)=m+100 * (mkF t m d sl st).sum
 ·rw [if_pos h1]
  have e1:(mkF t m d sl st).sum=0:=by omega
  have e2:m=0:=by omega
  rw [e1,e2]
  simp
 ·rw [if_neg h1]
  simp
theorem mkL_go {t:Tr} {m d sl st:Int} (h:¬m+100 * (mkF t m d sl st).sum<0):mkQ t m d sl st=m+100 * (mkF t m d sl st).sum∧mkL t m d sl st=⟨200 * (mkF t m d sl st).p * mkQ t m d sl st,200 * (mkF t m d sl st).b * mkQ t m d sl st,200 * (mkF t m d sl st).d * mkQ t m d sl st,200 * (mkF t m d sl st).h * mkQ t m d sl st,10000 * (mkF t m d sl st).sum * (mkF t m d sl st).sum,0⟩:=by
 have hq:mkQ t m d sl st=max 0 (m+100 * (mkF t m d sl st).sum):=rfl
 have hq0:mkQ t m d sl st=m+100 * (mkF t m d sl st).sum:=by rw [hq];omega
 refine⟨hq0, ?_⟩
 unfold mkL ledgerZ
 rw [if_pos hq0]
set_option maxRecDepth 100000 in
set_option maxHeartbeats 4000000 in
theorem rStep_any (A:Option Addr) (c n:Nat) (t:Tr) (m y d sl st:Int) (w:World) (hn:t.grip.length=n) (hn2:n≤140737488351232) (hS:Sl w w.heap.size 1 CI A t.grip) (hf:FineOk t m y d sl st) :
  Calls Tryz.prog 23 #[.agg #[O U t.mass,O U t.len,O U t.speed,O U t.effort,O U t.brake,O U t.power,O U t.resist,O U t.rise,O U t.back,.slice A n c],.agg #[O U m,O U y],O U d,O U sl,O U st] w fun e w'=>e= .returned (.tuple #[.agg #[O U (mkQ t m d sl st),O U (y+mkQ t m d sl st)],.agg (fLg (mkL t m d sl st)),.bool (decide (mkQ t m d sl st≤25000 * t.mass))])∧Below w.heap.size w w':=by
 have hfs:=fine_fs hf
 have hq:=fine_q hf
 obtain⟨v0,v1⟩:=speed_bd hf.ok hf.m0 hf.m1
 have hm1:=hf.ok.m1;have hm2:=hf.ok.m2
 have hmb:m≤2000000000:=by have:=hf.m1;omega
 have hm0:=hf.m0
 have hy0:=hf.y0;have hy1:=hf.y1
 have hb1:=((((Below.refl w.heap.size w).alloc (Nat.le_refl _) (.cells #[O U t.mass,O U t.len,O U t.speed,O U t.effort,O U t.brake,O U t.power,O U t.resist,O U t.rise,O U t.back,.slice A n c] 24)).alloc (by simp) (.cells #[O U m,O U y] 35)).alloc (by simp;omega) (.cells #[O U 0,O U 0] 35)).alloc (by simp;omega) (.cells #[O U 0,O U 0,O U 0,O U 0,O U 0,O U 0] 37)
 obtain⟨q1,q2,q3,q4⟩:=rows4 w #[O U t.mass,O U t.len,O U t.speed,O U t.effort,O U t.brake,O U t.power,O U t.resist,O U t.rise,O U t.back,.slice A n c] #[O U m,O U y] #[O U 0,O U 0] #[O U 0,O U 0,O U 0,O U 0,O U 0,O U 0] 24 35 35 37
 have HN1:=Z (show ((((w.alloc (.cells #[O U t.mass,O U t.len,O U t.speed,O U t.effort,O U t.brake,O U t.power,O U t.resist,O U t.rise,O U t.back,.slice A n c] 24)).alloc (.cells #[O U m,O U y] 35)).alloc (.cells #[O U 0,O U 0] 35)).alloc (.cells #[O U 0,O U 0,O U 0,O U 0,O U 0,O U 0] 37)).heap.size=w.heap.size+1+1+1+1 from by simp)
 obtain⟨W1,hW1⟩:∃z,((((w.alloc (.cells #[O U t.mass,O U t.len,O U t.speed,O U t.effort,O U t.brake,O U t.power,O U t.resist,O U t.rise,O U t.back,.slice A n c] 24)).alloc (.cells #[O U m,O U y] 35)).alloc (.cells #[O U 0,O U 0] 35)).alloc (.cells #[O U 0,O U 0,O U 0,O U 0,O U 0,O U 0] 37))=z:=⟨_,rfl⟩
 rw [hW1] at hb1 q1 q2 q3 q4 HN1
 have HB1:=Z hb1
 have HX1:=Z (Below.refl W1.heap.size W1)
 have HQ:=Z (show ∀wx,Below W1.heap.size W1 wx→Rw wx w.heap.size 24 #[O U t.mass,O U t.len,O U t.speed,O U t.effort,O U t.brake,O U t.power,O U t.resist,O U t.rise,O U t.back,.slice A n c]∧Rw wx (w.heap.size+1) 35 #[O U m,O U y]∧Rw wx (w.heap.size+1+1) 35 #[O U 0,O U 0]∧Rw wx (w.heap.size+1+1+1) 37 #[O U 0,O U 0,O U 0,O U 0,O U 0,O U 0] from fun wx h=>⟨q1.below h q1.lt,q2.below h q2.lt,q3.below h q3.lt,q4.below h q4.lt⟩)
 have HSg:=Z (show ∀wx,Below W1.heap.size W1 wx→Sl wx wx.heap.size 1 CI A t.grip from fun wx h=>(hS.below (hb1.trans (h.mono hb1.size))).more (fun _ _ h=>h) (Nat.le_trans hb1.size h.size))
 have hfo:∀wx,Below W1.heap.size W1 wx→Calls Tryz.prog 48 #[.agg #[O U t.mass,O U t.len,O U t.speed,O U t.effort,O U t.brake,O U t.power,O U t.resist,O U t.rise,O U t.back,.slice A n c],O U (m / t.mass),O U d,O U sl,O U st] wx fun e w'=>e= .returned (.tuple #[O U (mkF t m d sl st).p,O U (mkF t m d sl st).b,O U (mkF t m d sl st).d,O U (mkF t m d sl st).h])∧Below wx.heap.size wx w':=fun wx h=>rForces_any A c n t (m / t.mass) d sl st (gripZ t st) st.toNat wx hf.ok hn (by have:=hf.i0;omega) hf.ig (HSg.out wx h) v0 (by omega) hf.d0 hf.d1 hf.s0 hf.s1
 obtain⟨s0,s1⟩:=sum_bd hfs
 have hA:=fun h=>mkL_hold (t:=t) (m:=m) (d:=d) (sl:=sl) (st:=st) h hm0
 have hB:=mkL_go (t:=t) (m:=m) (d:=d) (sl:=sl) (st:=st)
 have esum:(mkF t m d sl st).sum=(mkF t m d sl st).p - (mkF t m d sl st).b - (mkF t m d sl st).d - (mkF t m d sl st).h:=rfl
 obtain⟨hf1,hf2,hf3,hf4,hf5,hf6,hf7,hf8⟩:=hfs
 generalize mkL t m d sl st=L at *
 generalize mkQ t m d sl st=Q at *
 generalize (mkF t m d sl st).sum=S at *
 generalize (mkF t m d sl st).p=P at *
 generalize (mkF t m d sl st).b=B at *
 generalize (mkF t m d sl st).d=D at *
 generalize (mkF t m d sl st).h=H at *
 have hdv:wrap64 (m.tdiv t.mass)=m / t.mass:=wrapDiv hm0 (by omega) (by omega)
 have hdw:IntKind.i64.wrap (m.tdiv t.mass)=m / t.mass:=by rw [Int.tdiv_eq_ediv_of_nonneg hm0,IntKind.wrap_i64];omega
 generalize m / t.mass=v at *
 have b1:=mul_bd (x:=200 * P) (X:=40000000) (by omega) (by omega) hq.1 hq.2 (by omega)
 have b2:=mul_bd (x:=200 * B) (X:=40000000) (by omega) (by omega) hq.1 hq.2 (by omega)
 have b3:=mul_bd (x:=200 * D) (X:=70000000) (by omega) (by omega) hq.1 hq.2 (by omega)
 have b4:=mul_bd (x:=200 * H) (X:=20000000) (by omega) (by omega) hq.1 hq.2 (by omega)
 have b5:=sq_bd s0 s1
 have b6:=sq_bd (X:=2000000000) (by omega) hmb
 have w1:IntKind.i64.wrap (200 * P)=200 * P:=by rw [IntKind.wrap_i64];omega
 have w2:IntKind.i64.wrap (200 * B)=200 * B:=by rw [IntKind.wrap_i64];omega
 have w3:IntKind.i64.wrap (200 * D)=200 * D:=by rw [IntKind.wrap_i64];omega
 have w4:IntKind.i64.wrap (200 * H)=200 * H:=by rw [IntKind.wrap_i64];omega
 have g5:10000 * S * S=10000 * (S * S):=by rw [Int.mul_assoc]
 obtain⟨z1,hz1⟩:∃z,200 * P * Q=z:=⟨_,rfl⟩
 obtain⟨z2,hz2⟩:∃z,200 * B * Q=z:=⟨_,rfl⟩
 obtain⟨z3,hz3⟩:∃z,200 * D * Q=z:=⟨_,rfl⟩
 obtain⟨z4,hz4⟩:∃z,200 * H * Q=z:=⟨_,rfl⟩
 obtain⟨z5,hz5⟩:∃z,10000 * S * S=z:=⟨_,rfl⟩
 obtain⟨z6,hz6⟩:∃z,m * m=z:=⟨_,rfl⟩
 rw [hz1] at b1
 rw [hz2] at b2
 rw [hz3] at b3
 rw [hz4] at b4
 rw [hz6] at b6 hA
 rw [hz1,hz2,hz3,hz4,hz5] at hB
 have x1:IntKind.i64.wrap (200 * P * Q)=z1:=by rw [hz1,IntKind.wrap_i64];omega
 have x2:IntKind.i64.wrap (200 * B * Q)=z2:=by rw [hz2,IntKind.wrap_i64];omega
 have x3:IntKind.i64.wrap (200 * D * Q)=z3:=by rw [hz3,IntKind.wrap_i64];omega
 have x4:IntKind.i64.wrap (200 * H * Q)=z4:=by rw [hz4,IntKind.wrap_i64];omega
 have x5:IntKind.i64.wrap (10000 * S)=10000 * S:=by rw [IntKind.wrap_i64];omega
 have x6:IntKind.i64.wrap (10000 * S * S)=z5:=by rw [hz5,IntKind.wrap_i64];omega
 have x7:IntKind.i64.wrap (m * m)=z6:=by rw [hz6,IntKind.wrap_i64];omega
 have x8:IntKind.i64.wrap (100 * S)=100 * S:=by rw [IntKind.wrap_i64];omega
 have x9:IntKind.i64.wrap (m+100 * S)=m+100 * S:=by rw [IntKind.wrap_i64];omega
 obtain⟨u,hu⟩:∃u,m+100 * S=u:=⟨_,rfl⟩
 rw [hu] at hA hB
 replace x9:IntKind.i64.wrap (m+100 * S)=u:=x9.trans hu
 have y1:IntKind.i64.wrap (P - B)=P - B:=by rw [IntKind.wrap_i64];omega
 have y2:IntKind.i64.wrap (P - B - D)=P - B - D:=by rw [IntKind.wrap_i64];omega
 have y3:IntKind.i64.wrap (P - B - D - H)=S:=by rw [IntKind.wrap_i64];omega
 have y4:IntKind.i64.wrap (y+Q)=y+Q:=by rw [IntKind.wrap_i64];omega
 have y6:IntKind.i64.wrap y=y:=by rw [IntKind.wrap_i64];omega
 have y5:IntKind.i64.wrap (25000 * t.mass)=25000 * t.mass:=by rw [IntKind.wrap_i64];omega
 have hm00:t.mass≠0:=by omega
 have HFO:=Z hfo
 have HSK:=Z (show ∀wx,Below W1.heap.size W1 wx→Rw wx w.heap.size 24 #[O U t.mass,O U t.len,O U t.speed,O U t.effort,O U t.brake,O U t.power,O U t.resist,O U t.rise,O U t.back,.slice A n c]∧Rw wx (w.heap.size+1) 35 #[O U m,O U y] from fun wx h=>⟨(HQ.out wx h).1,(HQ.out wx h).2.1⟩)
 have HA:=Z hA;have HB:=Z hB
 clear hu
 clear hb1 q1 q2 q3 q4 hS hn hfo hf hA hB hf1 hf2 hf3 hf4 hf5 hf6 hf7 hf8 b1 b2 b3 b4 b5 b6 g5 hz1 hz2 hz3 hz4 hz5 hz6 esum v0 v1
 go_enter Tryz.func23,Tryz.ntmps23
 go_upto_region 1 with (fail)
 have hbq:Below W1.heap.size W1 W1.drew:=(Below.refl _ _).drew
 have HS:=Z (HSK.out _ hbq)
 refine wp_region_held_drew (S:=fun wx=>Rw wx w.heap.size 24 #[O U t.mass,O U t.len,O U t.speed,O U t.effort,O U t.brake,O U t.power,O U t.resist,O U t.rise,O U t.back,.slice A n c]∧Rw wx (w.heap.size+1) 35 #[O U m,O U y]) (by kernel_rfl) HS.out (fun _=> ?_)
 refine hTk (i:=0) (d:=21) (v:= .agg #[O U t.mass,O U t.len,O U t.speed,O U t.effort,O U t.brake,O U t.power,O U t.resist,O U t.rise,O U t.back,.slice A n c]) rfl rfl (Or.inl ⟨rfl,by rintro W' ⟨s0,t0⟩;have y0:=s0.cell 0;have y1:=s0.cell 1;have y2:=s0.cell 2;have y3:=s0.cell 3;have y4:=s0.cell 4;have y5:=s0.cell 5;have y6:=s0.cell 6;have y7:=s0.cell 7;have y8:=s0.cell 8;have y9:=s0.cell 9;have z0:=t0.cell 0;have z1:=t0.cell 1;go_simp⟩) HS.out ?_
 simp only [Act.put,sB,sZ,sS]
 refine hTk (i:=1) (d:=22) (v:= .pointer (some ⟨w.heap.size+1,0,none⟩)) rfl rfl (Or.inl ⟨rfl,by rintro W' ⟨s0,t0⟩;have y0:=s0.cell 0;have y1:=s0.cell 1;have y2:=s0.cell 2;have y3:=s0.cell 3;have y4:=s0.cell 4;have y5:=s0.cell 5;have y6:=s0.cell 6;have y7:=s0.cell 7;have y8:=s0.cell 8;have y9:=s0.cell 9;have z0:=t0.cell 0;have z1:=t0.cell 1;go_simp⟩) HS.out ?_
 simp only [Act.put,sB,sZ,sS]
 refine hTk (i:=2) (d:=23) (v:=O U m) rfl rfl (Or.inl ⟨rfl,by rintro W' ⟨s0,t0⟩;have y0:=s0.cell 0;have y1:=s0.cell 1;have y2:=s0.cell 2;have y3:=s0.cell 3;have y4:=s0.cell 4;have y5:=s0.cell 5;have y6:=s0.cell 6;have y7:=s0.cell 7;have y8:=s0.cell 8;have y9:=s0.cell 9;have z0:=t0.cell 0;have z1:=t0.cell 1;go_simp⟩) HS.out ?_
 simp only [Act.put,sB,sZ,sS]
 refine hTk (i:=3) (d:=24) (v:= .pointer (some ⟨w.heap.size,0,none⟩)) rfl rfl (Or.inl ⟨rfl,by rintro W' ⟨s0,t0⟩;have y0:=s0.cell 0;have y1:=s0.cell 1;have y2:=s0.cell 2;have y3:=s0.cell 3;have y4:=s0.cell 4;have y5:=s0.cell 5;have y6:=s0.cell 6;have y7:=s0.cell 7;have y8:=s0.cell 8;have y9:=s0.cell 9;have z0:=t0.cell 0;have z1:=t0.cell 1;go_simp⟩) HS.out ?_
 simp only [Act.put,sB,sZ,sS]
 refine hTk (i:=4) (d:=25) (v:=O U t.mass) rfl rfl (Or.inl ⟨rfl,by rintro W' ⟨s0,t0⟩;have y0:=s0.cell 0;have y1:=s0.cell 1;have y2:=s0.cell 2;have y3:=s0.cell 3;have y4:=s0.cell 4;have y5:=s0.cell 5;have y6:=s0.cell 6;have y7:=s0.cell 7;have y8:=s0.cell 8;have y9:=s0.cell 9;have z0:=t0.cell 0;have z1:=t0.cell 1;go_simp⟩) HS.out ?_
 simp only [Act.put,sB,sZ,sS]
 refine hTk (i:=5) (d:=26) (v:=O U v) rfl rfl (Or.inl ⟨rfl,by rintro W' ⟨s0,t0⟩;have y0:=s0.cell 0;have y1:=s0.cell 1;have y2:=s0.cell 2;have y3:=s0.cell 3;have y4:=s0.cell 4;have y5:=s0.cell 5;have y6:=s0.cell 6;have y7:=s0.cell 7;have y8:=s0.cell 8;have y9:=s0.cell 9;have z0:=t0.cell 0;have z1:=t0.cell 1;go_simp⟩) HS.out ?_
 simp only [Act.put,sB,sZ,sS]
 refine hTk (i:=6) (d:=27) (v:=O U d) rfl rfl (Or.inl ⟨rfl,by rintro W' ⟨s0,t0⟩;have y0:=s0.cell 0;have y1:=s0.cell 1;have y2:=s0.cell 2;have y3:=s0.cell 3;have y4:=s0.cell 4;have y5:=s0.cell 5;have y6:=s0.cell 6;have y7:=s0.cell 7;have y8:=s0.cell 8;have y9:=s0.cell 9;have z0:=t0.cell 0;have z1:=t0.cell 1;go_simp⟩) HS.out ?_
 simp only [Act.put,sB,sZ,sS]
 refine hTk (i:=7) (d:=28) (v:=O U sl) rfl rfl (Or.inl ⟨rfl,by rintro W' ⟨s0,t0⟩;have y0:=s0.cell 0;have y1:=s0.cell 1;have y2:=s0.cell 2;have y3:=s0.cell 3;have y4:=s0.cell 4;have y5:=s0.cell 5;have y6:=s0.cell 6;have y7:=s0.cell 7;have y8:=s0.cell 8;have y9:=s0.cell 9;have z0:=t0.cell 0;have z1:=t0.cell 1;go_simp⟩) HS.out ?_
 simp only [Act.put,sB,sZ,sS]
 refine hTk (i:=8) (d:=29) (v:=O U st) rfl rfl (Or.inl ⟨rfl,by rintro W' ⟨s0,t0⟩;have y0:=s0.cell 0;have y1:=s0.cell 1;have y2:=s0.cell 2;have y3:=s0.cell 3;have y4:=s0.cell 4;have y5:=s0.cell 5;have y6:=s0.cell 6;have y7:=s0.cell 7;have y8:=s0.cell 8;have y9:=s0.cell 9;have z0:=t0.cell 0;have z1:=t0.cell 1;go_simp⟩) HS.out ?_
 simp only [Act.put,sB,sZ,sS]
 refine wpAnyH_ready (rs:= [9]) (by kernel_rfl) (by simp) ?_
 refine AllReadyH.cons rfl (fun K hK=> ?_) AllReadyH.nil
 rw [if_pos (by rfl)]
 go_simp
 go_at_call 48
 (with_reducible refine (HFO.out _ hbq).mono ?_)
 rintro e w2 ⟨rfl,hbn⟩
 replace hbq:=hbq.trans (hbn.mono hbq.size)
 clear hbn
 have HS:=Z (HSK.out _ hbq)
 refine hK.out _ _ HS.out (fun _=> ?_)
 clear hK K
 try simp only [Act.put,sB,sZ,sS]
 refine hTk (i:=10) (d:=20) (v:= .tuple #[O U P,O U B,O U D,O U H]) rfl rfl (Or.inl ⟨rfl,by rintro W' ⟨s0,t0⟩;have y0:=s0.cell 0;have y1:=s0.cell 1;have y2:=s0.cell 2;have y3:=s0.cell 3;have y4:=s0.cell 4;have y5:=s0.cell 5;have y6:=s0.cell 6;have y7:=s0.cell 7;have y8:=s0.cell 8;have y9:=s0.cell 9;have z0:=t0.cell 0;have z1:=t0.cell 1;go_simp⟩) HS.out ?_
 simp only [Act.put,sB,sZ,sS]
 refine hTk (i:=11) (d:=31) (v:=O U P) rfl rfl (Or.inl ⟨rfl,by rintro W' ⟨s0,t0⟩;have y0:=s0.cell 0;have y1:=s0.cell 1;have y2:=s0.cell 2;have y3:=s0.cell 3;have y4:=s0.cell 4;have y5:=s0.cell 5;have y6:=s0.cell 6;have y7:=s0.cell 7;have y8:=s0.cell 8;have y9:=s0.cell 9;have z0:=t0.cell 0;have z1:=t0.cell 1;go_simp⟩) HS.out ?_
 simp only [Act.put,sB,sZ,sS]
 refine hTk (i:=12) (d:=32) (v:=O U B) rfl rfl (Or.inl ⟨rfl,by rintro W' ⟨s0,t0⟩;have y0:=s0.cell 0;have y1:=s0.cell 1;have y2:=s0.cell 2;have y3:=s0.cell 3;have y4:=s0.cell 4;have y5:=s0.cell 5;have y6:=s0.cell 6;have y7:=s0.cell 7;have y8:=s0.cell 8;have y9:=s0.cell 9;have z0:=t0.cell 0;have z1:=t0.cell 1;go_simp⟩) HS.out ?_
 simp only [Act.put,sB,sZ,sS]
 refine hTk (i:=13) (d:=33) (v:=O U D) rfl rfl (Or.inl ⟨rfl,by rintro W' ⟨s0,t0⟩;have y0:=s0.cell 0;have y1:=s0.cell 1;have y2:=s0.cell 2;have y3:=s0.cell 3;have y4:=s0.cell 4;have y5:=s0.cell 5;have y6:=s0.cell 6;have y7:=s0.cell 7;have y8:=s0.cell 8;have y9:=s0.cell 9;have z0:=t0.cell 0;have z1:=t0.cell 1;go_simp⟩) HS.out ?_
 simp only [Act.put,sB,sZ,sS]
 refine hTk (i:=14) (d:=34) (v:=O U H) rfl rfl (Or.inl ⟨rfl,by rintro W' ⟨s0,t0⟩;have y0:=s0.cell 0;have y1:=s0.cell 1;have y2:=s0.cell 2;have y3:=s0.cell 3;have y4:=s0.cell 4;have y5:=s0.cell 5;have y6:=s0.cell 6;have y7:=s0.cell 7;have y8:=s0.cell 8;have y9:=s0.cell 9;have z0:=t0.cell 0;have z1:=t0.cell 1;go_simp⟩) HS.out ?_
 simp only [Act.put,sB,sZ,sS]
 refine hTk (i:=15) (d:=13) (v:=O U P) rfl rfl (Or.inl ⟨rfl,by rintro W' ⟨s0,t0⟩;have y0:=s0.cell 0;have y1:=s0.cell 1;have y2:=s0.cell 2;have y3:=s0.cell 3;have y4:=s0.cell 4;have y5:=s0.cell 5;have y6:=s0.cell 6;have y7:=s0.cell 7;have y8:=s0.cell 8;have y9:=s0.cell 9;have z0:=t0.cell 0;have z1:=t0.cell 1;go_simp⟩) HS.out ?_
 simp only [Act.put,sB,sZ,sS]
 refine hTk (i:=16) (d:=14) (v:=O U B) rfl rfl (Or.inl ⟨rfl,by rintro W' ⟨s0,t0⟩;have y0:=s0.cell 0;have y1:=s0.cell 1;have y2:=s0.cell 2;have y3:=s0.cell 3;have y4:=s0.cell 4;have y5:=s0.cell 5;have y6:=s0.cell 6;have y7:=s0.cell 7;have y8:=s0.cell 8;have y9:=s0.cell 9;have z0:=t0.cell 0;have z1:=t0.cell 1;go_simp⟩) HS.out ?_
 simp only [Act.put,sB,sZ,sS]
 refine hTk (i:=17) (d:=15) (v:=O U D) rfl rfl (Or.inl ⟨rfl,by rintro W' ⟨s0,t0⟩;have y0:=s0.cell 0;have y1:=s0.cell 1;have y2:=s0.cell 2;have y3:=s0.cell 3;have y4:=s0.cell 4;have y5:=s0.cell 5;have y6:=s0.cell 6;have y7:=s0.cell 7;have y8:=s0.cell 8;have y9:=s0.cell 9;have z0:=t0.cell 0;have z1:=t0.cell 1;go_simp⟩) HS.out ?_
 simp only [Act.put,sB,sZ,sS]
 refine hTk (i:=18) (d:=16) (v:=O U H) rfl rfl (Or.inl ⟨rfl,by rintro W' ⟨s0,t0⟩;have y0:=s0.cell 0;have y1:=s0.cell 1;have y2:=s0.cell 2;have y3:=s0.cell 3;have y4:=s0.cell 4;have y5:=s0.cell 5;have y6:=s0.cell 6;have y7:=s0.cell 7;have y8:=s0.cell 8;have y9:=s0.cell 9;have z0:=t0.cell 0;have z1:=t0.cell 1;go_simp⟩) HS.out ?_
 simp only [Act.put,sB,sZ,sS]
 refine wpAnyH_done (by kernel_rfl) ?_ _
 have HX2:=Z hbq
 have HB2:=Z (HB1.out.trans (hbq.mono HB1.out.size))
 clear hbq HS
 obtain⟨r1,r2,r3,r4⟩:=HQ.out _ HX2.out
 have e0:=r1.cell 0;have e1:=r1.cell 1;have e2:=r1.cell 2;have e3:=r1.cell 3;have e4:=r1.cell 4;have e5:=r1.cell 5;have e6:=r1.cell 6;have e7:=r1.cell 7;have e8:=r1.cell 8;have e9:=r1.cell 9;have f0:=r2.cell 0;have f1:=r2.cell 1;have g0:=r3.cell 0;have k0:=r3.frozen 0;have g1:=r3.cell 1;have k1:=r3.frozen 1;have p0:=r4.cell 0;have v0:=r4.frozen 0;have p1:=r4.cell 1;have v1:=r4.frozen 1;have p2:=r4.cell 2;have v2:=r4.frozen 2;have p3:=r4.cell 3;have v3:=r4.frozen 3;have p4:=r4.cell 4;have v4:=r4.frozen 4;have p5:=r4.cell 5;have v5:=r4.frozen 5;have lt3:=r3.lt;have lt4:=r4.lt
 clear r1 r2 r3 r4
 go_upto_region 5 with (fail)
 have q9:=Rw.new w2 #[O U 0,O U 0,O U 0,O U 0,O U 0,O U 0] 37
 have hx3:=HX2.out.alloc HX2.out.size (.cells #[O U 0,O U 0,O U 0,O U 0,O U 0,O U 0] 37)
 obtain⟨W3,hW3⟩:∃z,w2.alloc (.cells #[O U 0,O U 0,O U 0,O U 0,O U 0,O U 0] 37)=z:=⟨_,rfl⟩
 rw [hW3] at q9 hx3 ⊢
 have HX3:=Z hx3
 have HQ9:=Z q9
 have HLN:=Z (show w.heap.size+1+1+1<w2.heap.size from lt4)
 have lt9:=q9.lt
 have n0:=q9.cell 0;have o0:=q9.frozen 0;have n1:=q9.cell 1;have o1:=q9.frozen 1;have n2:=q9.cell 2;have o2:=q9.frozen 2;have n3:=q9.cell 3;have o3:=q9.frozen 3;have n4:=q9.cell 4;have o4:=q9.frozen 4;have n5:=q9.cell 5;have o5:=q9.frozen 5
 clear q9 hx3 hW3
 obtain⟨r1,r2,r3,r4⟩:=HQ.out _ HX3.out
 have e0:=r1.cell 0;have e1:=r1.cell 1;have e2:=r1.cell 2;have e3:=r1.cell 3;have e4:=r1.cell 4;have e5:=r1.cell 5;have e6:=r1.cell 6;have e7:=r1.cell 7;have e8:=r1.cell 8;have e9:=r1.cell 9;have f0:=r2.cell 0;have f1:=r2.cell 1;have g0:=r3.cell 0;have k0:=r3.frozen 0;have g1:=r3.cell 1;have k1:=r3.frozen 1;have p0:=r4.cell 0;have v0:=r4.frozen 0;have p1:=r4.cell 1;have v1:=r4.frozen 1;have p2:=r4.cell 2;have v2:=r4.frozen 2;have p3:=r4.cell 3;have v3:=r4.frozen 3;have p4:=r4.cell 4;have v4:=r4.frozen 4;have p5:=r4.cell 5;have v5:=r4.frozen 5;have lt3:=r3.lt;have lt4:=r4.lt
 clear r1 r2 r3 r4
 by_cases hq0:u<0
 ·obtain⟨hQ,hL⟩:=HA.out (Or.inl hq0)
  subst hL
  subst hQ
  go_upto_region 9 with (fail)
  have q8:Rw _ w2.heap.size 37 #[O U 0,O U 0,O U 0,O U 0,O U 0,O U z6]:=(HQ9.out.set 5 (O U z6))
  have hx4:=(HX3.out.setCell (p:=⟨w2.heap.size,5,none⟩) HX2.out.size (O U z6))
  obtain⟨W4,hW4⟩:∃z,(W3.setCell ⟨w2.heap.size,5,none⟩ (O U z6))=z:=⟨_,rfl⟩
  rw [hW4] at q8 hx4 ⊢
  have HB4:=Z (HB1.out.trans (hx4.mono HB1.out.size))
  have HSJ:=Z (show ∀wx,Below W4.heap.size W4 wx→Rw wx w2.heap.size 37 #[O U 0,O U 0,O U 0,O U 0,O U 0,O U z6]∧Rw wx w.heap.size 24 #[O U t.mass,O U t.len,O U t.speed,O U t.effort,O U t.brake,O U t.power,O U t.resist,O U t.rise,O U t.back,.slice A n c]∧Rw wx (w.heap.size+1) 35 #[O U m,O U y] from fun wx h=>⟨q8.below h q8.lt,(HQ.out _ (hx4.trans (h.mono hx4.size))).1,(HQ.out _ (hx4.trans (h.mono hx4.size))).2.1⟩)
  have HT:=Z (show ∀wx,Below W4.heap.size W4 wx→Rw wx (w.heap.size+1+1) 35 #[O U 0,O U 0]∧Rw wx (w.heap.size+1+1+1) 37 #[O U 0,O U 0,O U 0,O U 0,O U 0,O U 0] from fun wx h=>(HQ.out _ (hx4.trans (h.mono hx4.size))).2.2)
  have hbq:Below W4.heap.size W4 W4.drew:=(Below.refl _ _).drew
  have HS:=Z (HSJ.out _ hbq)
  clear q8 hx4 hW4
  refine wp_region_held_drew (S:=fun wx=>Rw wx w2.heap.size 37 #[O U 0,O U 0,O U 0,O U 0,O U 0,O U z6]∧Rw wx w.heap.size 24 #[O U t.mass,O U t.len,O U t.speed,O U t.effort,O U t.brake,O U t.power,O U t.resist,O U t.rise,O U t.back,.slice A n c]∧Rw wx (w.heap.size+1) 35 #[O U m,O U y]) (by kernel_rfl) HS.out (fun _=> ?_)
  refine hTk (i:=0) (d:=85) (v:=O U 0) rfl rfl (Or.inl ⟨rfl,by rintro W' ⟨j0,s0,t0⟩;have j_0:=j0.cell 0;have j_1:=j0.cell 1;have j_2:=j0.cell 2;have j_3:=j0.cell 3;have j_4:=j0.cell 4;have j_5:=j0.cell 5;have y_0:=s0.cell 0;have y_1:=s0.cell 1;have y_2:=s0.cell 2;have y_3:=s0.cell 3;have y_4:=s0.cell 4;have y_5:=s0.cell 5;have y_6:=s0.cell 6;have y_7:=s0.cell 7;have y_8:=s0.cell 8;have y_9:=s0.cell 9;have z_0:=t0.cell 0;have z_1:=t0.cell 1;go_simp⟩) HS.out ?_
  simp only [Act.put,sB,sZ,sS]
  refine hTk (i:=1) (d:=86) (v:= .pointer (some ⟨w.heap.size+1,1,none⟩)) rfl rfl (Or.inl ⟨rfl,by rintro W' ⟨j0,s0,t0⟩;have j_0:=j0.cell 0;have j_1:=j0.cell 1;have j_2:=j0.cell 2;have j_3:=j0.cell 3;have j_4:=j0.cell 4;have j_5:=j0.cell 5;have y_0:=s0.cell 0;have y_1:=s0.cell 1;have y_2:=s0.cell 2;have y_3:=s0.cell 3;have y_4:=s0.cell 4;have y_5:=s0.cell 5;have y_6:=s0.cell 6;have y_7:=s0.cell 7;have y_8:=s0.cell 8;have y_9:=s0.cell 9;have z_0:=t0.cell 0;have z_1:=t0.cell 1;go_simp⟩) HS.out ?_
  simp only [Act.put,sB,sZ,sS]
  refine hTk (i:=2) (d:=87) (v:=O U y) rfl rfl (Or.inl ⟨rfl,by rintro W' ⟨j0,s0,t0⟩;have j_0:=j0.cell 0;have j_1:=j0.cell 1;have j_2:=j0.cell 2;have j_3:=j0.cell 3;have j_4:=j0.cell 4;have j_5:=j0.cell 5;have y_0:=s0.cell 0;have y_1:=s0.cell 1;have y_2:=s0.cell 2;have y_3:=s0.cell 3;have y_4:=s0.cell 4;have y_5:=s0.cell 5;have y_6:=s0.cell 6;have y_7:=s0.cell 7;have y_8:=s0.cell 8;have y_9:=s0.cell 9;have z_0:=t0.cell 0;have z_1:=t0.cell 1;go_simp⟩) HS.out ?_
  simp only [Act.put,sB,sZ,sS]
  refine hTk (i:=3) (d:=88) (v:=O U 0) rfl rfl (Or.inl ⟨rfl,by rintro W' ⟨j0,s0,t0⟩;have j_0:=j0.cell 0;have j_1:=j0.cell 1;have j_2:=j0.cell 2;have j_3:=j0.cell 3;have j_4:=j0.cell 4;have j_5:=j0.cell 5;have y_0:=s0.cell 0;have y_1:=s0.cell 1;have y_2:=s0.cell 2;have y_3:=s0.cell 3;have y_4:=s0.cell 4;have y_5:=s0.cell 5;have y_6:=s0.cell 6;have y_7:=s0.cell 7;have y_8:=s0.cell 8;have y_9:=s0.cell 9;have z_0:=t0.cell 0;have z_1:=t0.cell 1;go_simp⟩) HS.out ?_
  simp only [Act.put,sB,sZ,sS]
  refine hTk (i:=4) (d:=89) (v:=O U y) rfl rfl (Or.inl ⟨rfl,by rintro W' ⟨j0,s0,t0⟩;have j_0:=j0.cell 0;have j_1:=j0.cell 1;have j_2:=j0.cell 2;have j_3:=j0.cell 3;have j_4:=j0.cell 4;have j_5:=j0.cell 5;have y_0:=s0.cell 0;have y_1:=s0.cell 1;have y_2:=s0.cell 2;have y_3:=s0.cell 3;have y_4:=s0.cell 4;have y_5:=s0.cell 5;have y_6:=s0.cell 6;have y_7:=s0.cell 7;have y_8:=s0.cell 8;have y_9:=s0.cell 9;have z_0:=t0.cell 0;have z_1:=t0.cell 1;go_simp⟩) HS.out ?_
  simp only [Act.put,sB,sZ,sS]
  refine hTk (i:=5) (d:=90) (v:= .agg #[O U 0,O U y]) rfl rfl (Or.inl ⟨rfl,by rintro W' ⟨j0,s0,t0⟩;have j_0:=j0.cell 0;have j_1:=j0.cell 1;have j_2:=j0.cell 2;have j_3:=j0.cell 3;have j_4:=j0.cell 4;have j_5:=j0.cell 5;have y_0:=s0.cell 0;have y_1:=s0.cell 1;have y_2:=s0.cell 2;have y_3:=s0.cell 3;have y_4:=s0.cell 4;have y_5:=s0.cell 5;have y_6:=s0.cell 6;have y_7:=s0.cell 7;have y_8:=s0.cell 8;have y_9:=s0.cell 9;have z_0:=t0.cell 0;have z_1:=t0.cell 1;go_simp⟩) HS.out ?_
  simp only [Act.put,sB,sZ,sS]
  refine hTk (i:=6) (d:=91) (v:= .agg #[O U 0,O U 0,O U 0,O U 0,O U 0,O U z6]) rfl rfl (Or.inl ⟨rfl,by rintro W' ⟨j0,s0,t0⟩;have j_0:=j0.cell 0;have j_1:=j0.cell 1;have j_2:=j0.cell 2;have j_3:=j0.cell 3;have j_4:=j0.cell 4;have j_5:=j0.cell 5;have y_0:=s0.cell 0;have y_1:=s0.cell 1;have y_2:=s0.cell 2;have y_3:=s0.cell 3;have y_4:=s0.cell 4;have y_5:=s0.cell 5;have y_6:=s0.cell 6;have y_7:=s0.cell 7;have y_8:=s0.cell 8;have y_9:=s0.cell 9;have z_0:=t0.cell 0;have z_1:=t0.cell 1;go_simp⟩) HS.out ?_
  simp only [Act.put,sB,sZ,sS]
  refine hTk (i:=7) (d:=92) (v:=O U 0) rfl rfl (Or.inl ⟨rfl,by rintro W' ⟨j0,s0,t0⟩;have j_0:=j0.cell 0;have j_1:=j0.cell 1;have j_2:=j0.cell 2;have j_3:=j0.cell 3;have j_4:=j0.cell 4;have j_5:=j0.cell 5;have y_0:=s0.cell 0;have y_1:=s0.cell 1;have y_2:=s0.cell 2;have y_3:=s0.cell 3;have y_4:=s0.cell 4;have y_5:=s0.cell 5;have y_6:=s0.cell 6;have y_7:=s0.cell 7;have y_8:=s0.cell 8;have y_9:=s0.cell 9;have z_0:=t0.cell 0;have z_1:=t0.cell 1;go_simp⟩) HS.out ?_
  simp only [Act.put,sB,sZ,sS]
  refine hTk (i:=8) (d:=93) (v:= .pointer (some ⟨w.heap.size,0,none⟩)) rfl rfl (Or.inl ⟨rfl,by rintro W' ⟨j0,s0,t0⟩;have j_0:=j0.cell 0;have j_1:=j0.cell 1;have j_2:=j0.cell 2;have j_3:=j0.cell 3;have j_4:=j0.cell 4;have j_5:=j0.cell 5;have y_0:=s0.cell 0;have y_1:=s0.cell 1;have y_2:=s0.cell 2;have y_3:=s0.cell 3;have y_4:=s0.cell 4;have y_5:=s0.cell 5;have y_6:=s0.cell 6;have y_7:=s0.cell 7;have y_8:=s0.cell 8;have y_9:=s0.cell 9;have z_0:=t0.cell 0;have z_1:=t0.cell 1;go_simp⟩) HS.out ?_
  simp only [Act.put,sB,sZ,sS]
  refine hTk (i:=9) (d:=94) (v:=O U t.mass) rfl rfl (Or.inl ⟨rfl,by rintro W' ⟨j0,s0,t0⟩;have j_0:=j0.cell 0;have j_1:=j0.cell 1;have j_2:=j0.cell 2;have j_3:=j0.cell 3;have j_4:=j0.cell 4;have j_5:=j0.cell 5;have y_0:=s0.cell 0;have y_1:=s0.cell 1;have y_2:=s0.cell 2;have y_3:=s0.cell 3;have y_4:=s0.cell 4;have y_5:=s0.cell 5;have y_6:=s0.cell 6;have y_7:=s0.cell 7;have y_8:=s0.cell 8;have y_9:=s0.cell 9;have z_0:=t0.cell 0;have z_1:=t0.cell 1;go_simp⟩) HS.out ?_
  simp only [Act.put,sB,sZ,sS]
  refine hTk (i:=10) (d:=95) (v:=O U (25000 * t.mass)) rfl rfl (Or.inl ⟨rfl,by rintro W' ⟨j0,s0,t0⟩;have j_0:=j0.cell 0;have j_1:=j0.cell 1;have j_2:=j0.cell 2;have j_3:=j0.cell 3;have j_4:=j0.cell 4;have j_5:=j0.cell 5;have y_0:=s0.cell 0;have y_1:=s0.cell 1;have y_2:=s0.cell 2;have y_3:=s0.cell 3;have y_4:=s0.cell 4;have y_5:=s0.cell 5;have y_6:=s0.cell 6;have y_7:=s0.cell 7;have y_8:=s0.cell 8;have y_9:=s0.cell 9;have z_0:=t0.cell 0;have z_1:=t0.cell 1;go_simp⟩) HS.out ?_
  simp only [Act.put,sB,sZ,sS]
  refine hTk (i:=11) (d:=96) (v:= .bool (decide (0≤25000 * t.mass))) rfl rfl (Or.inl ⟨rfl,by rintro W' ⟨j0,s0,t0⟩;have j_0:=j0.cell 0;have j_1:=j0.cell 1;have j_2:=j0.cell 2;have j_3:=j0.cell 3;have j_4:=j0.cell 4;have j_5:=j0.cell 5;have y_0:=s0.cell 0;have y_1:=s0.cell 1;have y_2:=s0.cell 2;have y_3:=s0.cell 3;have y_4:=s0.cell 4;have y_5:=s0.cell 5;have y_6:=s0.cell 6;have y_7:=s0.cell 7;have y_8:=s0.cell 8;have y_9:=s0.cell 9;have z_0:=t0.cell 0;have z_1:=t0.cell 1;go_simp⟩) HS.out ?_
  simp only [Act.put,sB,sZ,sS]
  refine wpAnyH_ready (rs:= [12]) (by kernel_rfl) (by simp) ?_
  refine AllReadyH.cons rfl (fun K hK=> ?_) AllReadyH.nil
  rw [if_pos (by rfl)]
  refine wp_store_row 35 _ _ rfl (w.heap.size+1+1) rfl #[O U 0,O U y] rfl 35 _ (HT.out _ hbq).1 (by kernel_rfl) rfl (by simp [Value.oneCell']) ?_
  have hr1:=(HT.out _ hbq).1.setRow #[O U 0,O U y]
  have hr2:=(HT.out _ hbq).2.setRow_far (k:=w.heap.size+1+1) #[O U 0,O U y] (by omega)
  have hbz:=below_setRow (HB4.out.trans (hbq.mono HB4.out.size)) (show w.heap.size≤w.heap.size+1+1 by omega) #[O U 0,O U y]
  have HS2:=Z (And.intro ((HSJ.out _ hbq).1.setRow_far (k:=w.heap.size+1+1) #[O U 0,O U y] (by have:=HLN.out;omega)) (And.intro ((HSJ.out _ hbq).2.1.setRow_far (k:=w.heap.size+1+1) #[O U 0,O U y] (by omega)) ((HSJ.out _ hbq).2.2.setRow_far (k:=w.heap.size+1+1) #[O U 0,O U y] (by omega))))
  refine hK.out _ _ HS2.out (fun _=> ?_)
  clear hK K
  try simp only [Act.put,sB,sZ,sS]
  refine wpAnyH_ready (rs:= [13]) (by kernel_rfl) (by simp) ?_
  refine AllReadyH.cons rfl (fun K hK=> ?_) AllReadyH.nil
  rw [if_pos (by rfl)]
  refine wp_store_row 37 _ _ rfl (w.heap.size+1+1+1) rfl #[O U 0,O U 0,O U 0,O U 0,O U 0,O U z6] rfl 37 _ hr2 (by kernel_rfl) rfl (by simp [Value.oneCell']) ?_
  have hr3:=hr2.setRow #[O U 0,O U 0,O U 0,O U 0,O U 0,O U z6]
  have hr4:=hr1.setRow_far (k:=w.heap.size+1+1+1) #[O U 0,O U 0,O U 0,O U 0,O U 0,O U z6] (by omega)
  have hby:=below_setRow hbz (show w.heap.size≤w.heap.size+1+1+1 by omega) #[O U 0,O U 0,O U 0,O U 0,O U 0,O U z6]
  have HS:=Z (And.intro (HS2.out.1.setRow_far (k:=w.heap.size+1+1+1) #[O U 0,O U 0,O U 0,O U 0,O U 0,O U z6] (by have:=HLN.out;omega)) (And.intro (HS2.out.2.1.setRow_far (k:=w.heap.size+1+1+1) #[O U 0,O U 0,O U 0,O U 0,O U 0,O U z6] (by omega)) (HS2.out.2.2.setRow_far (k:=w.heap.size+1+1+1) #[O U 0,O U 0,O U 0,O U 0,O U 0,O U z6] (by omega))))
  refine hK.out _ _ HS.out (fun _=> ?_)
  clear hK K
  try simp only [Act.put,sB,sZ,sS]
  refine hTk (i:=14) (d:=12) (v:= .bool (decide (0≤25000 * t.mass))) rfl rfl (Or.inl ⟨rfl,by rintro W' ⟨j0,s0,t0⟩;have j_0:=j0.cell 0;have j_1:=j0.cell 1;have j_2:=j0.cell 2;have j_3:=j0.cell 3;have j_4:=j0.cell 4;have j_5:=j0.cell 5;have y_0:=s0.cell 0;have y_1:=s0.cell 1;have y_2:=s0.cell 2;have y_3:=s0.cell 3;have y_4:=s0.cell 4;have y_5:=s0.cell 5;have y_6:=s0.cell 6;have y_7:=s0.cell 7;have y_8:=s0.cell 8;have y_9:=s0.cell 9;have z_0:=t0.cell 0;have z_1:=t0.cell 1;go_simp⟩) HS.out ?_
  simp only [Act.put,sB,sZ,sS]
  refine wpAnyH_done (by kernel_rfl) ?_ _
  go_wp2
  (try simp only [Exit.inBlock,Exit.then])
  exact bodyPost_ret (res_cct rfl _ _ _ _ _ _ _ _ _ _ _ rfl rfl rfl hr4 hr3 Tryz.underlying35 rfl (by kernel_rfl) Tryz.underlying37 rfl (by kernel_rfl)) rfl ⟨by first|rfl|(simp only [Int.add_zero];rfl),hby⟩
 ·obtain⟨hQ',hL'⟩:=HB.out hq0
  by_cases hz:m=0
  ·by_cases hsz:S≤0
   ·obtain⟨hQ,hL⟩:=HA.out (Or.inr ⟨hz,hsz⟩)
    have hzb:(m == 0)=true:=by rw [beq_iff_eq];exact hz
    clear hQ' hL' hz
    subst hL
    subst hQ
    go_upto_region 9 with (fail)
    have q8:Rw _ w2.heap.size 37 #[O U 0,O U 0,O U 0,O U 0,O U 0,O U z6]:=(HQ9.out.set 5 (O U z6))
    have hx4:=(HX3.out.setCell (p:=⟨w2.heap.size,5,none⟩) HX2.out.size (O U z6))
    obtain⟨W4,hW4⟩:∃z,(W3.setCell ⟨w2.heap.size,5,none⟩ (O U z6))=z:=⟨_,rfl⟩
    rw [hW4] at q8 hx4 ⊢
    have HB4:=Z (HB1.out.trans (hx4.mono HB1.out.size))
    have HSJ:=Z (show ∀wx,Below W4.heap.size W4 wx→Rw wx w2.heap.size 37 #[O U 0,O U 0,O U 0,O U 0,O U 0,O U z6]∧Rw wx w.heap.size 24 #[O U t.mass,O U t.len,O U t.speed,O U t.effort,O U t.brake,O U t.power,O U t.resist,O U t.rise,O U t.back,.slice A n c]∧Rw wx (w.heap.size+1) 35 #[O U m,O U y] from fun wx h=>⟨q8.below h q8.lt,(HQ.out _ (hx4.trans (h.mono hx4.size))).1,(HQ.out _ (hx4.trans (h.mono hx4.size))).2.1⟩)
    have HT:=Z (show ∀wx,Below W4.heap.size W4 wx→Rw wx (w.heap.size+1+1) 35 #[O U 0,O U 0]∧Rw wx (w.heap.size+1+1+1) 37 #[O U 0,O U 0,O U 0,O U 0,O U 0,O U 0] from fun wx h=>(HQ.out _ (hx4.trans (h.mono hx4.size))).2.2)
    have hbq:Below W4.heap.size W4 W4.drew:=(Below.refl _ _).drew
    have HS:=Z (HSJ.out _ hbq)
    clear q8 hx4 hW4
    refine wp_region_held_drew (S:=fun wx=>Rw wx w2.heap.size 37 #[O U 0,O U 0,O U 0,O U 0,O U 0,O U z6]∧Rw wx w.heap.size 24 #[O U t.mass,O U t.len,O U t.speed,O U t.effort,O U t.brake,O U t.power,O U t.resist,O U t.rise,O U t.back,.slice A n c]∧Rw wx (w.heap.size+1) 35 #[O U m,O U y]) (by kernel_rfl) HS.out (fun _=> ?_)
    refine hTk (i:=0) (d:=85) (v:=O U 0) rfl rfl (Or.inl ⟨rfl,by rintro W' ⟨j0,s0,t0⟩;have j_0:=j0.cell 0;have j_1:=j0.cell 1;have j_2:=j0.cell 2;have j_3:=j0.cell 3;have j_4:=j0.cell 4;have j_5:=j0.cell 5;have y_0:=s0.cell 0;have y_1:=s0.cell 1;have y_2:=s0.cell 2;have y_3:=s0.cell 3;have y_4:=s0.cell 4;have y_5:=s0.cell 5;have y_6:=s0.cell 6;have y_7:=s0.cell 7;have y_8:=s0.cell 8;have y_9:=s0.cell 9;have z_0:=t0.cell 0;have z_1:=t0.cell 1;go_simp⟩) HS.out ?_
    simp only [Act.put,sB,sZ,sS]
    refine hTk (i:=1) (d:=86) (v:= .pointer (some ⟨w.heap.size+1,1,none⟩)) rfl rfl (Or.inl ⟨rfl,by rintro W' ⟨j0,s0,t0⟩;have j_0:=j0.cell 0;have j_1:=j0.cell 1;have j_2:=j0.cell 2;have j_3:=j0.cell 3;have j_4:=j0.cell 4;have j_5:=j0.cell 5;have y_0:=s0.cell 0;have y_1:=s0.cell 1;have y_2:=s0.cell 2;have y_3:=s0.cell 3;have y_4:=s0.cell 4;have y_5:=s0.cell 5;have y_6:=s0.cell 6;have y_7:=s0.cell 7;have y_8:=s0.cell 8;have y_9:=s0.cell 9;have z_0:=t0.cell 0;have z_1:=t0.cell 1;go_simp⟩) HS.out ?_
    simp only [Act.put,sB,sZ,sS]
    refine hTk (i:=2) (d:=87) (v:=O U y) rfl rfl (Or.inl ⟨rfl,by rintro W' ⟨j0,s0,t0⟩;have j_0:=j0.cell 0;have j_1:=j0.cell 1;have j_2:=j0.cell 2;have j_3:=j0.cell 3;have j_4:=j0.cell 4;have j_5:=j0.cell 5;have y_0:=s0.cell 0;have y_1:=s0.cell 1;have y_2:=s0.cell 2;have y_3:=s0.cell 3;have y_4:=s0.cell 4;have y_5:=s0.cell 5;have y_6:=s0.cell 6;have y_7:=s0.cell 7;have y_8:=s0.cell 8;have y_9:=s0.cell 9;have z_0:=t0.cell 0;have z_1:=t0.cell 1;go_simp⟩) HS.out ?_
    simp only [Act.put,sB,sZ,sS]
    refine hTk (i:=3) (d:=88) (v:=O U 0) rfl rfl (Or.inl ⟨rfl,by rintro W' ⟨j0,s0,t0⟩;have j_0:=j0.cell 0;have j_1:=j0.cell 1;have j_2:=j0.cell 2;have j_3:=j0.cell 3;have j_4:=j0.cell 4;have j_5:=j0.cell 5;have y_0:=s0.cell 0;have y_1:=s0.cell 1;have y_2:=s0.cell 2;have y_3:=s0.cell 3;have y_4:=s0.cell 4;have y_5:=s0.cell 5;have y_6:=s0.cell 6;have y_7:=s0.cell 7;have y_8:=s0.cell 8;have y_9:=s0.cell 9;have z_0:=t0.cell 0;have z_1:=t0.cell 1;go_simp⟩) HS.out ?_
    simp only [Act.put,sB,sZ,sS]
    refine hTk (i:=4) (d:=89) (v:=O U y) rfl rfl (Or.inl ⟨rfl,by rintro W' ⟨j0,s0,t0⟩;have j_0:=j0.cell 0;have j_1:=j0.cell 1;have j_2:=j0.cell 2;have j_3:=j0.cell 3;have j_4:=j0.cell 4;have j_5:=j0.cell 5;have y_0:=s0.cell 0;have y_1:=s0.cell 1;have y_2:=s0.cell 2;have y_3:=s0.cell 3;have y_4:=s0.cell 4;have y_5:=s0.cell 5;have y_6:=s0.cell 6;have y_7:=s0.cell 7;have y_8:=s0.cell 8;have y_9:=s0.cell 9;have z_0:=t0.cell 0;have z_1:=t0.cell 1;go_simp⟩) HS.out ?_
    simp only [Act.put,sB,sZ,sS]
    refine hTk (i:=5) (d:=90) (v:= .agg #[O U 0,O U y]) rfl rfl (Or.inl ⟨rfl,by rintro W' ⟨j0,s0,t0⟩;have j_0:=j0.cell 0;have j_1:=j0.cell 1;have j_2:=j0.cell 2;have j_3:=j0.cell 3;have j_4:=j0.cell 4;have j_5:=j0.cell 5;have y_0:=s0.cell 0;have y_1:=s0.cell 1;have y_2:=s0.cell 2;have y_3:=s0.cell 3;have y_4:=s0.cell 4;have y_5:=s0.cell 5;have y_6:=s0.cell 6;have y_7:=s0.cell 7;have y_8:=s0.cell 8;have y_9:=s0.cell 9;have z_0:=t0.cell 0;have z_1:=t0.cell 1;go_simp⟩) HS.out ?_
    simp only [Act.put,sB,sZ,sS]
    refine hTk (i:=6) (d:=91) (v:= .agg #[O U 0,O U 0,O U 0,O U 0,O U 0,O U z6]) rfl rfl (Or.inl ⟨rfl,by rintro W' ⟨j0,s0,t0⟩;have j_0:=j0.cell 0;have j_1:=j0.cell 1;have j_2:=j0.cell 2;have j_3:=j0.cell 3;have j_4:=j0.cell 4;have j_5:=j0.cell 5;have y_0:=s0.cell 0;have y_1:=s0.cell 1;have y_2:=s0.cell 2;have y_3:=s0.cell 3;have y_4:=s0.cell 4;have y_5:=s0.cell 5;have y_6:=s0.cell 6;have y_7:=s0.cell 7;have y_8:=s0.cell 8;have y_9:=s0.cell 9;have z_0:=t0.cell 0;have z_1:=t0.cell 1;go_simp⟩) HS.out ?_
    simp only [Act.put,sB,sZ,sS]
    refine hTk (i:=7) (d:=92) (v:=O U 0) rfl rfl (Or.inl ⟨rfl,by rintro W' ⟨j0,s0,t0⟩;have j_0:=j0.cell 0;have j_1:=j0.cell 1;have j_2:=j0.cell 2;have j_3:=j0.cell 3;have j_4:=j0.cell 4;have j_5:=j0.cell 5;have y_0:=s0.cell 0;have y_1:=s0.cell 1;have y_2:=s0.cell 2;have y_3:=s0.cell 3;have y_4:=s0.cell 4;have y_5:=s0.cell 5;have y_6:=s0.cell 6;have y_7:=s0.cell 7;have y_8:=s0.cell 8;have y_9:=s0.cell 9;have z_0:=t0.cell 0;have z_1:=t0.cell 1;go_simp⟩) HS.out ?_
    simp only [Act.put,sB,sZ,sS]
    refine hTk (i:=8) (d:=93) (v:= .pointer (some ⟨w.heap.size,0,none⟩)) rfl rfl (Or.inl ⟨rfl,by rintro W' ⟨j0,s0,t0⟩;have j_0:=j0.cell 0;have j_1:=j0.cell 1;have j_2:=j0.cell 2;have j_3:=j0.cell 3;have j_4:=j0.cell 4;have j_5:=j0.cell 5;have y_0:=s0.cell 0;have y_1:=s0.cell 1;have y_2:=s0.cell 2;have y_3:=s0.cell 3;have y_4:=s0.cell 4;have y_5:=s0.cell 5;have y_6:=s0.cell 6;have y_7:=s0.cell 7;have y_8:=s0.cell 8;have y_9:=s0.cell 9;have z_0:=t0.cell 0;have z_1:=t0.cell 1;go_simp⟩) HS.out ?_
    simp only [Act.put,sB,sZ,sS]
    refine hTk (i:=9) (d:=94) (v:=O U t.mass) rfl rfl (Or.inl ⟨rfl,by rintro W' ⟨j0,s0,t0⟩;have j_0:=j0.cell 0;have j_1:=j0.cell 1;have j_2:=j0.cell 2;have j_3:=j0.cell 3;have j_4:=j0.cell 4;have j_5:=j0.cell 5;have y_0:=s0.cell 0;have y_1:=s0.cell 1;have y_2:=s0.cell 2;have y_3:=s0.cell 3;have y_4:=s0.cell 4;have y_5:=s0.cell 5;have y_6:=s0.cell 6;have y_7:=s0.cell 7;have y_8:=s0.cell 8;have y_9:=s0.cell 9;have z_0:=t0.cell 0;have z_1:=t0.cell 1;go_simp⟩) HS.out ?_
    simp only [Act.put,sB,sZ,sS]
    refine hTk (i:=10) (d:=95) (v:=O U (25000 * t.mass)) rfl rfl (Or.inl ⟨rfl,by rintro W' ⟨j0,s0,t0⟩;have j_0:=j0.cell 0;have j_1:=j0.cell 1;have j_2:=j0.cell 2;have j_3:=j0.cell 3;have j_4:=j0.cell 4;have j_5:=j0.cell 5;have y_0:=s0.cell 0;have y_1:=s0.cell 1;have y_2:=s0.cell 2;have y_3:=s0.cell 3;have y_4:=s0.cell 4;have y_5:=s0.cell 5;have y_6:=s0.cell 6;have y_7:=s0.cell 7;have y_8:=s0.cell 8;have y_9:=s0.cell 9;have z_0:=t0.cell 0;have z_1:=t0.cell 1;go_simp⟩) HS.out ?_
    simp only [Act.put,sB,sZ,sS]
    refine hTk (i:=11) (d:=96) (v:= .bool (decide (0≤25000 * t.mass))) rfl rfl (Or.inl ⟨rfl,by rintro W' ⟨j0,s0,t0⟩;have j_0:=j0.cell 0;have j_1:=j0.cell 1;have j_2:=j0.cell 2;have j_3:=j0.cell 3;have j_4:=j0.cell 4;have j_5:=j0.cell 5;have y_0:=s0.cell 0;have y_1:=s0.cell 1;have y_2:=s0.cell 2;have y_3:=s0.cell 3;have y_4:=s0.cell 4;have y_5:=s0.cell 5;have y_6:=s0.cell 6;have y_7:=s0.cell 7;have y_8:=s0.cell 8;have y_9:=s0.cell 9;have z_0:=t0.cell 0;have z_1:=t0.cell 1;go_simp⟩) HS.out ?_
    simp only [Act.put,sB,sZ,sS]
    refine wpAnyH_ready (rs:= [12]) (by kernel_rfl) (by simp) ?_
    refine AllReadyH.cons rfl (fun K hK=> ?_) AllReadyH.nil
    rw [if_pos (by rfl)]
    refine wp_store_row 35 _ _ rfl (w.heap.size+1+1) rfl #[O U 0,O U y] rfl 35 _ (HT.out _ hbq).1 (by kernel_rfl) rfl (by simp [Value.oneCell']) ?_
    have hr1:=(HT.out _ hbq).1.setRow #[O U 0,O U y]
    have hr2:=(HT.out _ hbq).2.setRow_far (k:=w.heap.size+1+1) #[O U 0,O U y] (by omega)
    have hbz:=below_setRow (HB4.out.trans (hbq.mono HB4.out.size)) (show w.heap.size≤w.heap.size+1+1 by omega) #[O U 0,O U y]
    have HS2:=Z (And.intro ((HSJ.out _ hbq).1.setRow_far (k:=w.heap.size+1+1) #[O U 0,O U y] (by have:=HLN.out;omega)) (And.intro ((HSJ.out _ hbq).2.1.setRow_far (k:=w.heap.size+1+1) #[O U 0,O U y] (by omega)) ((HSJ.out _ hbq).2.2.setRow_far (k:=w.heap.size+1+1) #[O U 0,O U y] (by omega))))
    refine hK.out _ _ HS2.out (fun _=> ?_)
    clear hK K
    try simp only [Act.put,sB,sZ,sS]
    refine wpAnyH_ready (rs:= [13]) (by kernel_rfl) (by simp) ?_
    refine AllReadyH.cons rfl (fun K hK=> ?_) AllReadyH.nil
    rw [if_pos (by rfl)]
    refine wp_store_row 37 _ _ rfl (w.heap.size+1+1+1) rfl #[O U 0,O U 0,O U 0,O U 0,O U 0,O U z6] rfl 37 _ hr2 (by kernel_rfl) rfl (by simp [Value.oneCell']) ?_
    have hr3:=hr2.setRow #[O U 0,O U 0,O U 0,O U 0,O U 0,O U z6]
    have hr4:=hr1.setRow_far (k:=w.heap.size+1+1+1) #[O U 0,O U 0,O U 0,O U 0,O U 0,O U z6] (by omega)
    have hby:=below_setRow hbz (show w.heap.size≤w.heap.size+1+1+1 by omega) #[O U 0,O U 0,O U 0,O U 0,O U 0,O U z6]
    have HS:=Z (And.intro (HS2.out.1.setRow_far (k:=w.heap.size+1+1+1) #[O U 0,O U 0,O U 0,O U 0,O U 0,O U z6] (by have:=HLN.out;omega)) (And.intro (HS2.out.2.1.setRow_far (k:=w.heap.size+1+1+1) #[O U 0,O U 0,O U 0,O U 0,O U 0,O U z6] (by omega)) (HS2.out.2.2.setRow_far (k:=w.heap.size+1+1+1) #[O U 0,O U 0,O U 0,O U 0,O U 0,O U z6] (by omega))))
    refine hK.out _ _ HS.out (fun _=> ?_)
    clear hK K
    try simp only [Act.put,sB,sZ,sS]
    refine hTk (i:=14) (d:=12) (v:= .bool (decide (0≤25000 * t.mass))) rfl rfl (Or.inl ⟨rfl,by rintro W' ⟨j0,s0,t0⟩;have j_0:=j0.cell 0;have j_1:=j0.cell 1;have j_2:=j0.cell 2;have j_3:=j0.cell 3;have j_4:=j0.cell 4;have j_5:=j0.cell 5;have y_0:=s0.cell 0;have y_1:=s0.cell 1;have y_2:=s0.cell 2;have y_3:=s0.cell 3;have y_4:=s0.cell 4;have y_5:=s0.cell 5;have y_6:=s0.cell 6;have y_7:=s0.cell 7;have y_8:=s0.cell 8;have y_9:=s0.cell 9;have z_0:=t0.cell 0;have z_1:=t0.cell 1;go_simp⟩) HS.out ?_
    simp only [Act.put,sB,sZ,sS]
    refine wpAnyH_done (by kernel_rfl) ?_ _
    go_wp2
    (try simp only [Exit.inBlock,Exit.then])
    exact bodyPost_ret (res_cct rfl _ _ _ _ _ _ _ _ _ _ _ rfl rfl rfl hr4 hr3 Tryz.underlying35 rfl (by kernel_rfl) Tryz.underlying37 rfl (by kernel_rfl)) rfl ⟨by first|rfl|(simp only [Int.add_zero];rfl),hby⟩
   ·have hQ:=hQ';have hL:=hL'
    have hzb:(m == 0)=true:=by rw [beq_iff_eq];exact hz
    clear hQ' hL' hz
    subst hL
    subst hQ
    go_upto_region 9 with (fail)
    have q8:Rw _ w2.heap.size 37 #[O U z1,O U z2,O U z3,O U z4,O U z5,O U 0]:=((((((HQ9.out.set 0 (O U z1)).set 1 (O U z2)).set 2 (O U z3)).set 3 (O U z4)).set 4 (O U z5)).set 5 (O U 0))
    have hx4:=((((((HX3.out.setCell (p:=⟨w2.heap.size,0,none⟩) HX2.out.size (O U z1)).setCell (p:=⟨w2.heap.size,1,none⟩) HX2.out.size (O U z2)).setCell (p:=⟨w2.heap.size,2,none⟩) HX2.out.size (O U z3)).setCell (p:=⟨w2.heap.size,3,none⟩) HX2.out.size (O U z4)).setCell (p:=⟨w2.heap.size,4,none⟩) HX2.out.size (O U z5)).setCell (p:=⟨w2.heap.size,5,none⟩) HX2.out.size (O U 0))
    obtain⟨W4,hW4⟩:∃z,((((((W3.setCell ⟨w2.heap.size,0,none⟩ (O U z1)).setCell ⟨w2.heap.size,1,none⟩ (O U z2)).setCell ⟨w2.heap.size,2,none⟩ (O U z3)).setCell ⟨w2.heap.size,3,none⟩ (O U z4)).setCell ⟨w2.heap.size,4,none⟩ (O U z5)).setCell ⟨w2.heap.size,5,none⟩ (O U 0))=z:=⟨_,rfl⟩
    rw [hW4] at q8 hx4 ⊢
    have HB4:=Z (HB1.out.trans (hx4.mono HB1.out.size))
    have HSJ:=Z (show ∀wx,Below W4.heap.size W4 wx→Rw wx w2.heap.size 37 #[O U z1,O U z2,O U z3,O U z4,O U z5,O U 0]∧Rw wx w.heap.size 24 #[O U t.mass,O U t.len,O U t.speed,O U t.effort,O U t.brake,O U t.power,O U t.resist,O U t.rise,O U t.back,.slice A n c]∧Rw wx (w.heap.size+1) 35 #[O U m,O U y] from fun wx h=>⟨q8.below h q8.lt,(HQ.out _ (hx4.trans (h.mono hx4.size))).1,(HQ.out _ (hx4.trans (h.mono hx4.size))).2.1⟩)
    have HT:=Z (show ∀wx,Below W4.heap.size W4 wx→Rw wx (w.heap.size+1+1) 35 #[O U 0,O U 0]∧Rw wx (w.heap.size+1+1+1) 37 #[O U 0,O U 0,O U 0,O U 0,O U 0,O U 0] from fun wx h=>(HQ.out _ (hx4.trans (h.mono hx4.size))).2.2)
    have hbq:Below W4.heap.size W4 W4.drew:=(Below.refl _ _).drew
    have HS:=Z (HSJ.out _ hbq)
    clear q8 hx4 hW4
    refine wp_region_held_drew (S:=fun wx=>Rw wx w2.heap.size 37 #[O U z1,O U z2,O U z3,O U z4,O U z5,O U 0]∧Rw wx w.heap.size 24 #[O U t.mass,O U t.len,O U t.speed,O U t.effort,O U t.brake,O U t.power,O U t.resist,O U t.rise,O U t.back,.slice A n c]∧Rw wx (w.heap.size+1) 35 #[O U m,O U y]) (by kernel_rfl) HS.out (fun _=> ?_)
    refine hTk (i:=0) (d:=85) (v:=O U Q) rfl rfl (Or.inl ⟨rfl,by rintro W' ⟨j0,s0,t0⟩;have j_0:=j0.cell 0;have j_1:=j0.cell 1;have j_2:=j0.cell 2;have j_3:=j0.cell 3;have j_4:=j0.cell 4;have j_5:=j0.cell 5;have y_0:=s0.cell 0;have y_1:=s0.cell 1;have y_2:=s0.cell 2;have y_3:=s0.cell 3;have y_4:=s0.cell 4;have y_5:=s0.cell 5;have y_6:=s0.cell 6;have y_7:=s0.cell 7;have y_8:=s0.cell 8;have y_9:=s0.cell 9;have z_0:=t0.cell 0;have z_1:=t0.cell 1;go_simp⟩) HS.out ?_
    simp only [Act.put,sB,sZ,sS]
    refine hTk (i:=1) (d:=86) (v:= .pointer (some ⟨w.heap.size+1,1,none⟩)) rfl rfl (Or.inl ⟨rfl,by rintro W' ⟨j0,s0,t0⟩;have j_0:=j0.cell 0;have j_1:=j0.cell 1;have j_2:=j0.cell 2;have j_3:=j0.cell 3;have j_4:=j0.cell 4;have j_5:=j0.cell 5;have y_0:=s0.cell 0;have y_1:=s0.cell 1;have y_2:=s0.cell 2;have y_3:=s0.cell 3;have y_4:=s0.cell 4;have y_5:=s0.cell 5;have y_6:=s0.cell 6;have y_7:=s0.cell 7;have y_8:=s0.cell 8;have y_9:=s0.cell 9;have z_0:=t0.cell 0;have z_1:=t0.cell 1;go_simp⟩) HS.out ?_
    simp only [Act.put,sB,sZ,sS]
    refine hTk (i:=2) (d:=87) (v:=O U y) rfl rfl (Or.inl ⟨rfl,by rintro W' ⟨j0,s0,t0⟩;have j_0:=j0.cell 0;have j_1:=j0.cell 1;have j_2:=j0.cell 2;have j_3:=j0.cell 3;have j_4:=j0.cell 4;have j_5:=j0.cell 5;have y_0:=s0.cell 0;have y_1:=s0.cell 1;have y_2:=s0.cell 2;have y_3:=s0.cell 3;have y_4:=s0.cell 4;have y_5:=s0.cell 5;have y_6:=s0.cell 6;have y_7:=s0.cell 7;have y_8:=s0.cell 8;have y_9:=s0.cell 9;have z_0:=t0.cell 0;have z_1:=t0.cell 1;go_simp⟩) HS.out ?_
    simp only [Act.put,sB,sZ,sS]
    refine hTk (i:=3) (d:=88) (v:=O U Q) rfl rfl (Or.inl ⟨rfl,by rintro W' ⟨j0,s0,t0⟩;have j_0:=j0.cell 0;have j_1:=j0.cell 1;have j_2:=j0.cell 2;have j_3:=j0.cell 3;have j_4:=j0.cell 4;have j_5:=j0.cell 5;have y_0:=s0.cell 0;have y_1:=s0.cell 1;have y_2:=s0.cell 2;have y_3:=s0.cell 3;have y_4:=s0.cell 4;have y_5:=s0.cell 5;have y_6:=s0.cell 6;have y_7:=s0.cell 7;have y_8:=s0.cell 8;have y_9:=s0.cell 9;have z_0:=t0.cell 0;have z_1:=t0.cell 1;go_simp⟩) HS.out ?_
    simp only [Act.put,sB,sZ,sS]
    refine hTk (i:=4) (d:=89) (v:=O U (y+Q)) rfl rfl (Or.inl ⟨rfl,by rintro W' ⟨j0,s0,t0⟩;have j_0:=j0.cell 0;have j_1:=j0.cell 1;have j_2:=j0.cell 2;have j_3:=j0.cell 3;have j_4:=j0.cell 4;have j_5:=j0.cell 5;have y_0:=s0.cell 0;have y_1:=s0.cell 1;have y_2:=s0.cell 2;have y_3:=s0.cell 3;have y_4:=s0.cell 4;have y_5:=s0.cell 5;have y_6:=s0.cell 6;have y_7:=s0.cell 7;have y_8:=s0.cell 8;have y_9:=s0.cell 9;have z_0:=t0.cell 0;have z_1:=t0.cell 1;go_simp⟩) HS.out ?_
    simp only [Act.put,sB,sZ,sS]
    refine hTk (i:=5) (d:=90) (v:= .agg #[O U Q,O U (y+Q)]) rfl rfl (Or.inl ⟨rfl,by rintro W' ⟨j0,s0,t0⟩;have j_0:=j0.cell 0;have j_1:=j0.cell 1;have j_2:=j0.cell 2;have j_3:=j0.cell 3;have j_4:=j0.cell 4;have j_5:=j0.cell 5;have y_0:=s0.cell 0;have y_1:=s0.cell 1;have y_2:=s0.cell 2;have y_3:=s0.cell 3;have y_4:=s0.cell 4;have y_5:=s0.cell 5;have y_6:=s0.cell 6;have y_7:=s0.cell 7;have y_8:=s0.cell 8;have y_9:=s0.cell 9;have z_0:=t0.cell 0;have z_1:=t0.cell 1;go_simp⟩) HS.out ?_
    simp only [Act.put,sB,sZ,sS]
    refine hTk (i:=6) (d:=91) (v:= .agg #[O U z1,O U z2,O U z3,O U z4,O U z5,O U 0]) rfl rfl (Or.inl ⟨rfl,by rintro W' ⟨j0,s0,t0⟩;have j_0:=j0.cell 0;have j_1:=j0.cell 1;have j_2:=j0.cell 2;have j_3:=j0.cell 3;have j_4:=j0.cell 4;have j_5:=j0.cell 5;have y_0:=s0.cell 0;have y_1:=s0.cell 1;have y_2:=s0.cell 2;have y_3:=s0.cell 3;have y_4:=s0.cell 4;have y_5:=s0.cell 5;have y_6:=s0.cell 6;have y_7:=s0.cell 7;have y_8:=s0.cell 8;have y_9:=s0.cell 9;have z_0:=t0.cell 0;have z_1:=t0.cell 1;go_simp⟩) HS.out ?_
    simp only [Act.put,sB,sZ,sS]
    refine hTk (i:=7) (d:=92) (v:=O U Q) rfl rfl (Or.inl ⟨rfl,by rintro W' ⟨j0,s0,t0⟩;have j_0:=j0.cell 0;have j_1:=j0.cell 1;have j_2:=j0.cell 2;have j_3:=j0.cell 3;have j_4:=j0.cell 4;have j_5:=j0.cell 5;have y_0:=s0.cell 0;have y_1:=s0.cell 1;have y_2:=s0.cell 2;have y_3:=s0.cell 3;have y_4:=s0.cell 4;have y_5:=s0.cell 5;have y_6:=s0.cell 6;have y_7:=s0.cell 7;have y_8:=s0.cell 8;have y_9:=s0.cell 9;have z_0:=t0.cell 0;have z_1:=t0.cell 1;go_simp⟩) HS.out ?_
    simp only [Act.put,sB,sZ,sS]
    refine hTk (i:=8) (d:=93) (v:= .pointer (some ⟨w.heap.size,0,none⟩)) rfl rfl (Or.inl ⟨rfl,by rintro W' ⟨j0,s0,t0⟩;have j_0:=j0.cell 0;have j_1:=j0.cell 1;have j_2:=j0.cell 2;have j_3:=j0.cell 3;have j_4:=j0.cell 4;have j_5:=j0.cell 5;have y_0:=s0.cell 0;have y_1:=s0.cell 1;have y_2:=s0.cell 2;have y_3:=s0.cell 3;have y_4:=s0.cell 4;have y_5:=s0.cell 5;have y_6:=s0.cell 6;have y_7:=s0.cell 7;have y_8:=s0.cell 8;have y_9:=s0.cell 9;have z_0:=t0.cell 0;have z_1:=t0.cell 1;go_simp⟩) HS.out ?_
    simp only [Act.put,sB,sZ,sS]
    refine hTk (i:=9) (d:=94) (v:=O U t.mass) rfl rfl (Or.inl ⟨rfl,by rintro W' ⟨j0,s0,t0⟩;have j_0:=j0.cell 0;have j_1:=j0.cell 1;have j_2:=j0.cell 2;have j_3:=j0.cell 3;have j_4:=j0.cell 4;have j_5:=j0.cell 5;have y_0:=s0.cell 0;have y_1:=s0.cell 1;have y_2:=s0.cell 2;have y_3:=s0.cell 3;have y_4:=s0.cell 4;have y_5:=s0.cell 5;have y_6:=s0.cell 6;have y_7:=s0.cell 7;have y_8:=s0.cell 8;have y_9:=s0.cell 9;have z_0:=t0.cell 0;have z_1:=t0.cell 1;go_simp⟩) HS.out ?_
    simp only [Act.put,sB,sZ,sS]
    refine hTk (i:=10) (d:=95) (v:=O U (25000 * t.mass)) rfl rfl (Or.inl ⟨rfl,by rintro W' ⟨j0,s0,t0⟩;have j_0:=j0.cell 0;have j_1:=j0.cell 1;have j_2:=j0.cell 2;have j_3:=j0.cell 3;have j_4:=j0.cell 4;have j_5:=j0.cell 5;have y_0:=s0.cell 0;have y_1:=s0.cell 1;have y_2:=s0.cell 2;have y_3:=s0.cell 3;have y_4:=s0.cell 4;have y_5:=s0.cell 5;have y_6:=s0.cell 6;have y_7:=s0.cell 7;have y_8:=s0.cell 8;have y_9:=s0.cell 9;have z_0:=t0.cell 0;have z_1:=t0.cell 1;go_simp⟩) HS.out ?_
    simp only [Act.put,sB,sZ,sS]
    refine hTk (i:=11) (d:=96) (v:= .bool (decide (Q≤25000 * t.mass))) rfl rfl (Or.inl ⟨rfl,by rintro W' ⟨j0,s0,t0⟩;have j_0:=j0.cell 0;have j_1:=j0.cell 1;have j_2:=j0.cell 2;have j_3:=j0.cell 3;have j_4:=j0.cell 4;have j_5:=j0.cell 5;have y_0:=s0.cell 0;have y_1:=s0.cell 1;have y_2:=s0.cell 2;have y_3:=s0.cell 3;have y_4:=s0.cell 4;have y_5:=s0.cell 5;have y_6:=s0.cell 6;have y_7:=s0.cell 7;have y_8:=s0.cell 8;have y_9:=s0.cell 9;have z_0:=t0.cell 0;have z_1:=t0.cell 1;go_simp⟩) HS.out ?_
    simp only [Act.put,sB,sZ,sS]
    refine wpAnyH_ready (rs:= [12]) (by kernel_rfl) (by simp) ?_
    refine AllReadyH.cons rfl (fun K hK=> ?_) AllReadyH.nil
    rw [if_pos (by rfl)]
    refine wp_store_row 35 _ _ rfl (w.heap.size+1+1) rfl #[O U Q,O U (y+Q)] rfl 35 _ (HT.out _ hbq).1 (by kernel_rfl) rfl (by simp [Value.oneCell']) ?_
    have hr1:=(HT.out _ hbq).1.setRow #[O U Q,O U (y+Q)]
    have hr2:=(HT.out _ hbq).2.setRow_far (k:=w.heap.size+1+1) #[O U Q,O U (y+Q)] (by omega)
    have hbz:=below_setRow (HB4.out.trans (hbq.mono HB4.out.size)) (show w.heap.size≤w.heap.size+1+1 by omega) #[O U Q,O U (y+Q)]
    have HS2:=Z (And.intro ((HSJ.out _ hbq).1.setRow_far (k:=w.heap.size+1+1) #[O U Q,O U (y+Q)] (by have:=HLN.out;omega)) (And.intro ((HSJ.out _ hbq).2.1.setRow_far (k:=w.heap.size+1+1) #[O U Q,O U (y+Q)] (by omega)) ((HSJ.out _ hbq).2.2.setRow_far (k:=w.heap.size+1+1) #[O U Q,O U (y+Q)] (by omega))))
    refine hK.out _ _ HS2.out (fun _=> ?_)
    clear hK K
    try simp only [Act.put,sB,sZ,sS]
    refine wpAnyH_ready (rs:= [13]) (by kernel_rfl) (by simp) ?_
    refine AllReadyH.cons rfl (fun K hK=> ?_) AllReadyH.nil
    rw [if_pos (by rfl)]
    refine wp_store_row 37 _ _ rfl (w.heap.size+1+1+1) rfl #[O U z1,O U z2,O U z3,O U z4,O U z5,O U 0] rfl 37 _ hr2 (by kernel_rfl) rfl (by simp [Value.oneCell']) ?_
    have hr3:=hr2.setRow #[O U z1,O U z2,O U z3,O U z4,O U z5,O U 0]
    have hr4:=hr1.setRow_far (k:=w.heap.size+1+1+1) #[O U z1,O U z2,O U z3,O U z4,O U z5,O U 0] (by omega)
    have hby:=below_setRow hbz (show w.heap.size≤w.heap.size+1+1+1 by omega) #[O U z1,O U z2,O U z3,O U z4,O U z5,O U 0]
    have HS:=Z (And.intro (HS2.out.1.setRow_far (k:=w.heap.size+1+1+1) #[O U z1,O U z2,O U z3,O U z4,O U z5,O U 0] (by have:=HLN.out;omega)) (And.intro (HS2.out.2.1.setRow_far (k:=w.heap.size+1+1+1) #[O U z1,O U z2,O U z3,O U z4,O U z5,O U 0] (by omega)) (HS2.out.2.2.setRow_far (k:=w.heap.size+1+1+1) #[O U z1,O U z2,O U z3,O U z4,O U z5,O U 0] (by omega))))
    refine hK.out _ _ HS.out (fun _=> ?_)
    clear hK K
    try simp only [Act.put,sB,sZ,sS]
    refine hTk (i:=14) (d:=12) (v:= .bool (decide (Q≤25000 * t.mass))) rfl rfl (Or.inl ⟨rfl,by rintro W' ⟨j0,s0,t0⟩;have j_0:=j0.cell 0;have j_1:=j0.cell 1;have j_2:=j0.cell 2;have j_3:=j0.cell 3;have j_4:=j0.cell 4;have j_5:=j0.cell 5;have y_0:=s0.cell 0;have y_1:=s0.cell 1;have y_2:=s0.cell 2;have y_3:=s0.cell 3;have y_4:=s0.cell 4;have y_5:=s0.cell 5;have y_6:=s0.cell 6;have y_7:=s0.cell 7;have y_8:=s0.cell 8;have y_9:=s0.cell 9;have z_0:=t0.cell 0;have z_1:=t0.cell 1;go_simp⟩) HS.out ?_
    simp only [Act.put,sB,sZ,sS]
    refine wpAnyH_done (by kernel_rfl) ?_ _
    go_wp2
    (try simp only [Exit.inBlock,Exit.then])
    exact bodyPost_ret (res_cct rfl _ _ _ _ _ _ _ _ _ _ _ rfl rfl rfl hr4 hr3 Tryz.underlying35 rfl (by kernel_rfl) Tryz.underlying37 rfl (by kernel_rfl)) rfl ⟨by first|rfl|(simp only [Int.add_zero];rfl),hby⟩
  ·have hQ:=hQ';have hL:=hL'
   have hzb:(m == 0)=false:=by rw [beq_eq_false_iff_ne];exact hz
   clear hQ' hL' hz
   subst hL
   subst hQ
   go_upto_region 9 with (fail)
   have q8:Rw _ w2.heap.size 37 #[O U z1,O U z2,O U z3,O U z4,O U z5,O U 0]:=((((((HQ9.out.set 0 (O U z1)).set 1 (O U z2)).set 2 (O U z3)).set 3 (O U z4)).set 4 (O U z5)).set 5 (O U 0))
   have hx4:=((((((HX3.out.setCell (p:=⟨w2.heap.size,0,none⟩) HX2.out.size (O U z1)).setCell (p:=⟨w2.heap.size,1,none⟩) HX2.out.size (O U z2)).setCell (p:=⟨w2.heap.size,2,none⟩) HX2.out.size (O U z3)).setCell (p:=⟨w2.heap.size,3,none⟩) HX2.out.size (O U z4)).setCell (p:=⟨w2.heap.size,4,none⟩) HX2.out.size (O U z5)).setCell (p:=⟨w2.heap.size,5,none⟩) HX2.out.size (O U 0))
   obtain⟨W4,hW4⟩:∃z,((((((W3.setCell ⟨w2.heap.size,0,none⟩ (O U z1)).setCell ⟨w2.heap.size,1,none⟩ (O U z2)).setCell ⟨w2.heap.size,2,none⟩ (O U z3)).setCell ⟨w2.heap.size,3,none⟩ (O U z4)).setCell ⟨w2.heap.size,4,none⟩ (O U z5)).setCell ⟨w2.heap.size,5,none⟩ (O U 0))=z:=⟨_,rfl⟩
   rw [hW4] at q8 hx4 ⊢
   have HB4:=Z (HB1.out.trans (hx4.mono HB1.out.size))
   have HSJ:=Z (show ∀wx,Below W4.heap.size W4 wx→Rw wx w2.heap.size 37 #[O U z1,O U z2,O U z3,O U z4,O U z5,O U 0]∧Rw wx w.heap.size 24 #[O U t.mass,O U t.len,O U t.speed,O U t.effort,O U t.brake,O U t.power,O U t.resist,O U t.rise,O U t.back,.slice A n c]∧Rw wx (w.heap.size+1) 35 #[O U m,O U y] from fun wx h=>⟨q8.below h q8.lt,(HQ.out _ (hx4.trans (h.mono hx4.size))).1,(HQ.out _ (hx4.trans (h.mono hx4.size))).2.1⟩)
   have HT:=Z (show ∀wx,Below W4.heap.size W4 wx→Rw wx (w.heap.size+1+1) 35 #[O U 0,O U 0]∧Rw wx (w.heap.size+1+1+1) 37 #[O U 0,O U 0,O U 0,O U 0,O U 0,O U 0] from fun wx h=>(HQ.out _ (hx4.trans (h.mono hx4.size))).2.2)
   have hbq:Below W4.heap.size W4 W4.drew:=(Below.refl _ _).drew
   have HS:=Z (HSJ.out _ hbq)
   clear q8 hx4 hW4
   refine wp_region_held_drew (S:=fun wx=>Rw wx w2.heap.size 37 #[O U z1,O U z2,O U z3,O U z4,O U z5,O U 0]∧Rw wx w.heap.size 24 #[O U t.mass,O U t.len,O U t.speed,O U t.effort,O U t.brake,O U t.power,O U t.resist,O U t.rise,O U t.back,.slice A n c]∧Rw wx (w.heap.size+1) 35 #[O U m,O U y]) (by kernel_rfl) HS.out (fun _=> ?_)
   refine hTk (i:=0) (d:=85) (v:=O U Q) rfl rfl (Or.inl ⟨rfl,by rintro W' ⟨j0,s0,t0⟩;have j_0:=j0.cell 0;have j_1:=j0.cell 1;have j_2:=j0.cell 2;have j_3:=j0.cell 3;have j_4:=j0.cell 4;have j_5:=j0.cell 5;have y_0:=s0.cell 0;have y_1:=s0.cell 1;have y_2:=s0.cell 2;have y_3:=s0.cell 3;have y_4:=s0.cell 4;have y_5:=s0.cell 5;have y_6:=s0.cell 6;have y_7:=s0.cell 7;have y_8:=s0.cell 8;have y_9:=s0.cell 9;have z_0:=t0.cell 0;have z_1:=t0.cell 1;go_simp⟩) HS.out ?_
   simp only [Act.put,sB,sZ,sS]
   refine hTk (i:=1) (d:=86) (v:= .pointer (some ⟨w.heap.size+1,1,none⟩)) rfl rfl (Or.inl ⟨rfl,by rintro W' ⟨j0,s0,t0⟩;have j_0:=j0.cell 0;have j_1:=j0.cell 1;have j_2:=j0.cell 2;have j_3:=j0.cell 3;have j_4:=j0.cell 4;have j_5:=j0.cell 5;have y_0:=s0.cell 0;have y_1:=s0.cell 1;have y_2:=s0.cell 2;have y_3:=s0.cell 3;have y_4:=s0.cell 4;have y_5:=s0.cell 5;have y_6:=s0.cell 6;have y_7:=s0.cell 7;have y_8:=s0.cell 8;have y_9:=s0.cell 9;have z_0:=t0.cell 0;have z_1:=t0.cell 1;go_simp⟩) HS.out ?_
   simp only [Act.put,sB,sZ,sS]
   refine hTk (i:=2) (d:=87) (v:=O U y) rfl rfl (Or.inl ⟨rfl,by rintro W' ⟨j0,s0,t0⟩;have j_0:=j0.cell 0;have j_1:=j0.cell 1;have j_2:=j0.cell 2;have j_3:=j0.cell 3;have j_4:=j0.cell 4;have j_5:=j0.cell 5;have y_0:=s0.cell 0;have y_1:=s0.cell 1;have y_2:=s0.cell 2;have y_3:=s0.cell 3;have y_4:=s0.cell 4;have y_5:=s0.cell 5;have y_6:=s0.cell 6;have y_7:=s0.cell 7;have y_8:=s0.cell 8;have y_9:=s0.cell 9;have z_0:=t0.cell 0;have z_1:=t0.cell 1;go_simp⟩) HS.out ?_
   simp only [Act.put,sB,sZ,sS]
   refine hTk (i:=3) (d:=88) (v:=O U Q) rfl rfl (Or.inl ⟨rfl,by rintro W' ⟨j0,s0,t0⟩;have j_0:=j0.cell 0;have j_1:=j0.cell 1;have j_2:=j0.cell 2;have j_3:=j0.cell 3;have j_4:=j0.cell 4;have j_5:=j0.cell 5;have y_0:=s0.cell 0;have y_1:=s0.cell 1;have y_2:=s0.cell 2;have y_3:=s0.cell 3;have y_4:=s0.cell 4;have y_5:=s0.cell 5;have y_6:=s0.cell 6;have y_7:=s0.cell 7;have y_8:=s0.cell 8;have y_9:=s0.cell 9;have z_0:=t0.cell 0;have z_1:=t0.cell 1;go_simp⟩) HS.out ?_
   simp only [Act.put,sB,sZ,sS]
   refine hTk (i:=4) (d:=89) (v:=O U (y+Q)) rfl rfl (Or.inl ⟨rfl,by rintro W' ⟨j0,s0,t0⟩;have j_0:=j0.cell 0;have j_1:=j0.cell 1;have j_2:=j0.cell 2;have j_3:=j0.cell 3;have j_4:=j0.cell 4;have j_5:=j0.cell 5;have y_0:=s0.cell 0;have y_1:=s0.cell 1;have y_2:=s0.cell 2;have y_3:=s0.cell 3;have y_4:=s0.cell 4;have y_5:=s0.cell 5;have y_6:=s0.cell 6;have y_7:=s0.cell 7;have y_8:=s0.cell 8;have y_9:=s0.cell 9;have z_0:=t0.cell 0;have z_1:=t0.cell 1;go_simp⟩) HS.out ?_
   simp only [Act.put,sB,sZ,sS]
   refine hTk (i:=5) (d:=90) (v:= .agg #[O U Q,O U (y+Q)]) rfl rfl (Or.inl ⟨rfl,by rintro W' ⟨j0,s0,t0⟩;have j_0:=j0.cell 0;have j_1:=j0.cell 1;have j_2:=j0.cell 2;have j_3:=j0.cell 3;have j_4:=j0.cell 4;have j_5:=j0.cell 5;have y_0:=s0.cell 0;have y_1:=s0.cell 1;have y_2:=s0.cell 2;have y_3:=s0.cell 3;have y_4:=s0.cell 4;have y_5:=s0.cell 5;have y_6:=s0.cell 6;have y_7:=s0.cell 7;have y_8:=s0.cell 8;have y_9:=s0.cell 9;have z_0:=t0.cell 0;have z_1:=t0.cell 1;go_simp⟩) HS.out ?_
   simp only [Act.put,sB,sZ,sS]
   refine hTk (i:=6) (d:=91) (v:= .agg #[O U z1,O U z2,O U z3,O U z4,O U z5,O U 0]) rfl rfl (Or.inl ⟨rfl,by rintro W' ⟨j0,s0,t0⟩;have j_0:=j0.cell 0;have j_1:=j0.cell 1;have j_2:=j0.cell 2;have j_3:=j0.cell 3;have j_4:=j0.cell 4;have j_5:=j0.cell 5;have y_0:=s0.cell 0;have y_1:=s0.cell 1;have y_2:=s0.cell 2;have y_3:=s0.cell 3;have y_4:=s0.cell 4;have y_5:=s0.cell 5;have y_6:=s0.cell 6;have y_7:=s0.cell 7;have y_8:=s0.cell 8;have y_9:=s0.cell 9;have z_0:=t0.cell 0;have z_1:=t0.cell 1;go_simp⟩) HS.out ?_
   simp only [Act.put,sB,sZ,sS]
   refine hTk (i:=7) (d:=92) (v:=O U Q) rfl rfl (Or.inl ⟨rfl,by rintro W' ⟨j0,s0,t0⟩;have j_0:=j0.cell 0;have j_1:=j0.cell 1;have j_2:=j0.cell 2;have j_3:=j0.cell 3;have j_4:=j0.cell 4;have j_5:=j0.cell 5;have y_0:=s0.cell 0;have y_1:=s0.cell 1;have y_2:=s0.cell 2;have y_3:=s0.cell 3;have y_4:=s0.cell 4;have y_5:=s0.cell 5;have y_6:=s0.cell 6;have y_7:=s0.cell 7;have y_8:=s0.cell 8;have y_9:=s0.cell 9;have z_0:=t0.cell 0;have z_1:=t0.cell 1;go_simp⟩) HS.out ?_
   simp only [Act.put,sB,sZ,sS]
   refine hTk (i:=8) (d:=93) (v:= .pointer (some ⟨w.heap.size,0,none⟩)) rfl rfl (Or.inl ⟨rfl,by rintro W' ⟨j0,s0,t0⟩;have j_0:=j0.cell 0;have j_1:=j0.cell 1;have j_2:=j0.cell 2;have j_3:=j0.cell 3;have j_4:=j0.cell 4;have j_5:=j0.cell 5;have y_0:=s0.cell 0;have y_1:=s0.cell 1;have y_2:=s0.cell 2;have y_3:=s0.cell 3;have y_4:=s0.cell 4;have y_5:=s0.cell 5;have y_6:=s0.cell 6;have y_7:=s0.cell 7;have y_8:=s0.cell 8;have y_9:=s0.cell 9;have z_0:=t0.cell 0;have z_1:=t0.cell 1;go_simp⟩) HS.out ?_
   simp only [Act.put,sB,sZ,sS]
   refine hTk (i:=9) (d:=94) (v:=O U t.mass) rfl rfl (Or.inl ⟨rfl,by rintro W' ⟨j0,s0,t0⟩;have j_0:=j0.cell 0;have j_1:=j0.cell 1;have j_2:=j0.cell 2;have j_3:=j0.cell 3;have j_4:=j0.cell 4;have j_5:=j0.cell 5;have y_0:=s0.cell 0;have y_1:=s0.cell 1;have y_2:=s0.cell 2;have y_3:=s0.cell 3;have y_4:=s0.cell 4;have y_5:=s0.cell 5;have y_6:=s0.cell 6;have y_7:=s0.cell 7;have y_8:=s0.cell 8;have y_9:=s0.cell 9;have z_0:=t0.cell 0;have z_1:=t0.cell 1;go_simp⟩) HS.out ?_
   simp only [Act.put,sB,sZ,sS]
   refine hTk (i:=10) (d:=95) (v:=O U (25000 * t.mass)) rfl rfl (Or.inl ⟨rfl,by rintro W' ⟨j0,s0,t0⟩;have j_0:=j0.cell 0;have j_1:=j0.cell 1;have j_2:=j0.cell 2;have j_3:=j0.cell 3;have j_4:=j0.cell 4;have j_5:=j0.cell 5;have y_0:=s0.cell 0;have y_1:=s0.cell 1;have y_2:=s0.cell 2;have y_3:=s0.cell 3;have y_4:=s0.cell 4;have y_5:=s0.cell 5;have y_6:=s0.cell 6;have y_7:=s0.cell 7;have y_8:=s0.cell 8;have y_9:=s0.cell 9;have z_0:=t0.cell 0;have z_1:=t0.cell 1;go_simp⟩) HS.out ?_
   simp only [Act.put,sB,sZ,sS]
   refine hTk (i:=11) (d:=96) (v:= .bool (decide (Q≤25000 * t.mass))) rfl rfl (Or.inl ⟨rfl,by rintro W' ⟨j0,s0,t0⟩;have j_0:=j0.cell 0;have j_1:=j0.cell 1;have j_2:=j0.cell 2;have j_3:=j0.cell 3;have j_4:=j0.cell 4;have j_5:=j0.cell 5;have y_0:=s0.cell 0;have y_1:=s0.cell 1;have y_2:=s0.cell 2;have y_3:=s0.cell 3;have y_4:=s0.cell 4;have y_5:=s0.cell 5;have y_6:=s0.cell 6;have y_7:=s0.cell 7;have y_8:=s0.cell 8;have y_9:=s0.cell 9;have z_0:=t0.cell 0;have z_1:=t0.cell 1;go_simp⟩) HS.out ?_
   simp only [Act.put,sB,sZ,sS]
   refine wpAnyH_ready (rs:= [12]) (by kernel_rfl) (by simp) ?_
   refine AllReadyH.cons rfl (fun K hK=> ?_) AllReadyH.nil
   rw [if_pos (by rfl)]
   refine wp_store_row 35 _ _ rfl (w.heap.size+1+1) rfl #[O U Q,O U (y+Q)] rfl 35 _ (HT.out _ hbq).1 (by kernel_rfl) rfl (by simp [Value.oneCell']) ?_
   have hr1:=(HT.out _ hbq).1.setRow #[O U Q,O U (y+Q)]
   have hr2:=(HT.out _ hbq).2.setRow_far (k:=w.heap.size+1+1) #[O U Q,O U (y+Q)] (by omega)
   have hbz:=below_setRow (HB4.out.trans (hbq.mono HB4.out.size)) (show w.heap.size≤w.heap.size+1+1 by omega) #[O U Q,O U (y+Q)]
   have HS2:=Z (And.intro ((HSJ.out _ hbq).1.setRow_far (k:=w.heap.size+1+1) #[O U Q,O U (y+Q)] (by have:=HLN.out;omega)) (And.intro ((HSJ.out _ hbq).2.1.setRow_far (k:=w.heap.size+1+1) #[O U Q,O U (y+Q)] (by omega)) ((HSJ.out _ hbq).2.2.setRow_far (k:=w.heap.size+1+1) #[O U Q,O U (y+Q)] (by omega))))
   refine hK.out _ _ HS2.out (fun _=> ?_)
   clear hK K
   try simp only [Act.put,sB,sZ,sS]
   refine wpAnyH_ready (rs:= [13]) (by kernel_rfl) (by simp) ?_
   refine AllReadyH.cons rfl (fun K hK=> ?_) AllReadyH.nil
   rw [if_pos (by rfl)]
   refine wp_store_row 37 _ _ rfl (w.heap.size+1+1+1) rfl #[O U z1,O U z2,O U z3,O U z4,O U z5,O U 0] rfl 37 _ hr2 (by kernel_rfl) rfl (by simp [Value.oneCell']) ?_
   have hr3:=hr2.setRow #[O U z1,O U z2,O U z3,O U z4,O U z5,O U 0]
   have hr4:=hr1.setRow_far (k:=w.heap.size+1+1+1) #[O U z1,O U z2,O U z3,O U z4,O U z5,O U 0] (by omega)
   have hby:=below_setRow hbz (show w.heap.size≤w.heap.size+1+1+1 by omega) #[O U z1,O U z2,O U z3,O U z4,O U z5,O U 0]
   have HS:=Z (And.intro (HS2.out.1.setRow_far (k:=w.heap.size+1+1+1) #[O U z1,O U z2,O U z3,O U z4,O U z5,O U 0] (by have:=HLN.out;omega)) (And.intro (HS2.out.2.1.setRow_far (k:=w.heap.size+1+1+1) #[O U z1,O U z2,O U z3,O U z4,O U z5,O U 0] (by omega)) (HS2.out.2.2.setRow_far (k:=w.heap.size+1+1+1) #[O U z1,O U z2,O U z3,O U z4,O U z5,O U 0] (by omega))))
   refine hK.out _ _ HS.out (fun _=> ?_)
   clear hK K
   try simp only [Act.put,sB,sZ,sS]
   refine hTk (i:=14) (d:=12) (v:= .bool (decide (Q≤25000 * t.mass))) rfl rfl (Or.inl ⟨rfl,by rintro W' ⟨j0,s0,t0⟩;have j_0:=j0.cell 0;have j_1:=j0.cell 1;have j_2:=j0.cell 2;have j_3:=j0.cell 3;have j_4:=j0.cell 4;have j_5:=j0.cell 5;have y_0:=s0.cell 0;have y_1:=s0.cell 1;have y_2:=s0.cell 2;have y_3:=s0.cell 3;have y_4:=s0.cell 4;have y_5:=s0.cell 5;have y_6:=s0.cell 6;have y_7:=s0.cell 7;have y_8:=s0.cell 8;have y_9:=s0.cell 9;have z_0:=t0.cell 0;have z_1:=t0.cell 1;go_simp⟩) HS.out ?_
   simp only [Act.put,sB,sZ,sS]
   refine wpAnyH_done (by kernel_rfl) ?_ _
   go_wp2
   (try simp only [Exit.inBlock,Exit.then])
   exact bodyPost_ret (res_cct rfl _ _ _ _ _ _ _ _ _ _ _ rfl rfl rfl hr4 hr3 Tryz.underlying35 rfl (by kernel_rfl) Tryz.underlying37 rfl (by kernel_rfl)) rfl ⟨by first|rfl|(simp only [Int.add_zero];rfl),hby⟩
end Go.Proofs.YtfhkbbjddjddmaaGreat
