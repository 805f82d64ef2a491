/- Texts M5 M6 M7 M8 M9. -/
import Derived.Test.YtfhkbbjddjddmaaGreatMa
set_option linter.unusedVariables false
set_option linter.unusedSimpArgs false
open Go.Value renaming int→O
open Go.IntKind renaming i64→U
open Go.Lib renaming hid→Z
namespace Go.Proofs.YtfhkbbjddjddmaaGreat
open Go.RowKit
structure Fs where
 p:Int
 b:Int
 d:Int
 h:Int
def fsZ (t:Tr) (a m d sl:Int):Fs:=⟨pullZ t a (m / t.mass) d,brakeZ t a d,dragZ t (m / t.mass),hillZ t sl⟩
def Fs.sum (f:Fs):Int:=sumZ f.p f.b f.d f.h
def nextZ (t:Tr) (a m d sl:Int):Int:=afterZ m (fsZ t a m d sl).sum
structure FsOk (f:Fs):Prop where
 p1:0≤f.p
 p2:f.p≤200000
 b1:0≤f.b
 b2:f.b≤200000
 d1:0≤f.d
 d2:f.d≤350000
 h1: -94176≤f.h
 h2:f.h≤94176
theorem speed_bd {t:Tr} (ht:TrOk t) {m:Int} (h0:0≤m) (h1:m≤25000 * t.mass):0≤m / t.mass∧m / t.mass≤25000:=by
 have m1:=ht.m1
 refine⟨Int.ediv_nonneg h0 (by omega), ?_⟩
 exact Int.ediv_le_of_le_mul (by omega) h1
theorem fs_ok {t:Tr} (ht:TrOk t) {a m d sl:Int} (ha:0≤a) (h0:0≤m) (h1:m≤25000 * t.mass) (d0: -4≤d) (d1:d≤4) (s0: -120≤sl) (s1:sl≤120):FsOk (fsZ t a m d sl):=by
 obtain⟨v0,v1⟩:=speed_bd ht h0 h1
 unfold fsZ
 generalize m / t.mass=v at v0 v1
 have e1:=ht.e1;have e2:=ht.e2;have b1:=ht.b1;have b2:=ht.b2;have p1:=ht.p1;have r1:=ht.r1;have r2:=ht.r2;have x1:=ht.s1;have x2:=ht.s2;have m1:=ht.m1;have m2:=ht.m2
 have q1:d≤0∨(0≤t.effort * d / 4∧t.effort * d / 4≤200000):=by
  by_cases hd:d≤0
  ·exact .inl hd
  ·right
   have a1:=Int.mul_le_mul_of_nonneg_left d1 (show 0≤t.effort by omega)
   have a2:=Int.mul_nonneg (show 0≤t.effort by omega) (show 0≤d by omega)
   omega
 have q2:0≤d∨(0≤t.brake * -d / 4∧t.brake * -d / 4≤200000):=by
  by_cases hd:0≤d
  ·exact .inl hd
  ·right
   have a1:=Int.mul_le_mul_of_nonneg_left (show -d≤4 by omega) (show 0≤t.brake by omega)
   have a2:=Int.mul_nonneg (show 0≤t.brake by omega) (show 0≤ -d by omega)
   omega
 have q3:0≤t.rise * v∧t.rise * v≤250000000:=⟨Int.mul_nonneg x1 v0,by
  have:=Int.mul_le_mul x2 v1 v0 (by omega)
  omega⟩
 have q4: -9600000≤t.mass * sl∧t.mass * sl≤9600000:=by
  have a1:=Int.mul_le_mul_of_nonneg_left s1 (show 0≤t.mass by omega)
  have a2:=Int.mul_le_mul_of_nonneg_left s0 (show 0≤t.mass by omega)
  omega
 have q5:0≤1000 * t.power / v:=Int.ediv_nonneg (by omega) v0
 refine⟨?_, ?_, ?_, ?_, ?_, ?_, ?_, ?_⟩
 ·show 0≤pullZ t a v d
  unfold pullZ;split
  ·omega
  ·split <;> omega
 ·show pullZ t a v d≤200000
  unfold pullZ;split
  ·omega
  ·split <;> omega
 ·show 0≤brakeZ t a d
  unfold brakeZ;split <;> omega
 ·show brakeZ t a d≤200000
  unfold brakeZ;split <;> omega
 ·show 0≤dragZ t v
  unfold dragZ;omega
 ·show dragZ t v≤350000
  unfold dragZ;omega
 ·show -94176≤hillZ t sl
  unfold hillZ
  generalize t.mass * sl=z at q4
  rcases Int.le_total 0 z with hz|hz
  ·rw [Int.tdiv_eq_ediv_of_nonneg (by omega)];omega
  ·have e:Int.tdiv (z * 981) 100000= -(Int.tdiv (-z * 981) 100000):=by rw [←Int.neg_tdiv];congr 1;omega
   rw [e,Int.tdiv_eq_ediv_of_nonneg (by omega)];omega
 ·show hillZ t sl≤94176
  unfold hillZ
  generalize t.mass * sl=z at q4
  rcases Int.le_total 0 z with hz|hz
  ·rw [Int.tdiv_eq_ediv_of_nonneg (by omega)];omega
  ·have e:Int.tdiv (z * 981) 100000= -(Int.tdiv (-z * 981) 100000):=by rw [←Int.neg_tdiv];congr 1;omega
   rw [e,Int.tdiv_eq_ediv_of_nonneg (by omega)];omega
theorem below_setRow {B:Nat} {a w:World} (h:Below B a w) {g:Nat} (hg:B≤g) (cs:Array Value):Below B a (w.setRow g cs):=
 h.trans ⟨rfl,rfl,rfl,by simp [World.setRow] <;> omega,fun b hb=>setRow_other w g b cs (by omega)⟩
set_option maxRecDepth 100000 in
set_option maxHeartbeats 4000000 in
theorem step_any (A:Option Addr) (c n k:Nat) (t:Tr) (a m d sl:Int) (w:World) (hE:Rw w k 139 #[O U t.mass,O U t.len,O U t.speed,O U t.effort,O U t.brake,O U t.power,O U t.resist,O U t.rise,O U t.back,.slice A n c,O U a,.func (.func 74) #[.pointer (some ⟨k,0,none⟩)] #[],.func (.func 75) #[.pointer (some ⟨k,0,none⟩)] #[],.func (.func 76) #[.pointer (some ⟨k,0,none⟩)] #[],.func (.func 77) #[.pointer (some ⟨k,0,none⟩)] #[]]) (ht:TrOk t) (ha:0≤a) (h0:0≤m) (h1:m≤25000 * t.mass) (d0: -4≤d) (d1:d≤4) (s0: -120≤sl) (s1:sl≤120) :
  Calls Tryz.prog 71 #[.pointer (some ⟨k,0,none⟩),O U m,O U d,O U sl] w fun e w'=>e= .returned (.agg #[O U (fsZ t a m d sl).p,O U (fsZ t a m d sl).b,O U (fsZ t a m d sl).d,O U (fsZ t a m d sl).h,O U m,O U (nextZ t a m d sl)])∧Below w.heap.size w w':=by
 have hf:=fs_ok ht ha h0 h1 d0 d1 s0 s1
 obtain⟨v0,v1⟩:=speed_bd ht h0 h1
 have hm1:=ht.m1;have hm2:=ht.m2
 have hmb:m≤2000000000:=by omega
 unfold nextZ Fs.sum
 obtain⟨hf1,hf2,hf3,hf4,hf5,hf6,hf7,hf8⟩:=hf
 have hfo:=fun (wx:World) (hx:Rw wx k 139 #[O U t.mass,O U t.len,O U t.speed,O U t.effort,O U t.brake,O U t.power,O U t.resist,O U t.rise,O U t.back,.slice A n c,O U a,.func (.func 74) #[.pointer (some ⟨k,0,none⟩)] #[],.func (.func 75) #[.pointer (some ⟨k,0,none⟩)] #[],.func (.func 76) #[.pointer (some ⟨k,0,none⟩)] #[],.func (.func 77) #[.pointer (some ⟨k,0,none⟩)] #[]])=>forces_any A c n k t a (m / t.mass) d sl wx hx ht d0 d1 v0 (by omega) s0 s1
 have e1:pullZ t a (m / t.mass) d=(fsZ t a m d sl).p:=rfl
 have e2:brakeZ t a d=(fsZ t a m d sl).b:=rfl
 have e3:dragZ t (m / t.mass)=(fsZ t a m d sl).d:=rfl
 have e4:hillZ t sl=(fsZ t a m d sl).h:=rfl
 rw [e1,e2,e3,e4] at hfo
 clear e1 e2 e3 e4
 generalize (fsZ t a m d sl).p=P at *
 generalize (fsZ t a m d sl).b=B at *
 generalize (fsZ t a m d sl).d=D at *
 generalize (fsZ t a m d sl).h=H at *
 have hb1:=(Below.refl w.heap.size w).alloc (Nat.le_refl _) (.cells #[O U 0,O U 0,O U 0,O U 0,O U 0,O U 0] 87)
 have q1:=Rw.new w #[O U 0,O U 0,O U 0,O U 0,O U 0,O U 0] 87
 have p1:=hE.below hb1 hE.lt
 obtain⟨W1,hW1⟩:∃z,w.alloc (.cells #[O U 0,O U 0,O U 0,O U 0,O U 0,O U 0] 87)=z:=⟨_,rfl⟩
 rw [hW1] at hb1 q1 p1
 have HB1:=Z hb1;have HQ1:=Z q1
 have HFO:=Z (hfo W1 p1)
 have HSU:=Z (fun wx=>sum_any P B D H wx (by omega) (by omega) (by omega) (by omega))
 have HAF:=Z (fun wx=>after_any m (sumZ P B D H) wx (by omega) (by unfold sumZ;omega))
 have x0:=p1.cell 0
 have hm0:t.mass≠0:=by omega
 have hlk:=hE.lt
 clear hb1 q1 p1 hE hfo hf1 hf2 hf3 hf4 hf5 hf6 hf7 hf8 d0 d1 s0 s1 v0 v1 ht
 go_enter Tryz.func71,Tryz.ntmps71
 go_wp2_with fail
 (with_reducible refine (HFO.out).mono ?_)
 rintro e w2 ⟨rfl,hb2⟩
 have HB2:=Z (HB1.out.trans (hb2.mono HB1.out.size))
 have HQ2:=Z (HQ1.out.below hb2 HQ1.out.lt)
 clear hb2 x0 hW1
 go_upto_region 2 with (fail)
 have hq9:=Rw.new w2 #[O U P,O U B,O U D,O U H] 85
 have HB3:=Z (HB2.out.alloc HB2.out.size (.cells #[O U P,O U B,O U D,O U H] 85))
 obtain⟨W3,hW3⟩:∃z,w2.alloc (.cells #[O U P,O U B,O U D,O U H] 85)=z:=⟨_,rfl⟩
 have hq8:=HQ2.out.alloc (.cells #[O U P,O U B,O U D,O U H] 85)
 rw [hW3] at hq9 HB3 hq8 ⊢
 have HSK:=Z (show ∀wx,Below W3.heap.size W3 wx→Rw wx w2.heap.size 85 #[O U P,O U B,O U D,O U H] from fun wx h=>hq9.below h hq9.lt)
 have HT:=Z (show ∀wx,Below W3.heap.size W3 wx→Rw wx w.heap.size 87 #[O U 0,O U 0,O U 0,O U 0,O U 0,O U 0] from fun wx h=>hq8.below h hq8.lt)
 have HNE:=Z (show w2.heap.size≠w.heap.size from by have:=HQ2.out.lt;omega)
 have hbq:Below W3.heap.size W3 W3.drew:=(Below.refl _ _).drew
 have HS:=Z (HSK.out _ hbq)
 clear hq9 hq8 hW3
 refine wp_region_held_drew (S:=fun wx=>Rw wx w2.heap.size 85 #[O U P,O U B,O U D,O U H]) (by kernel_rfl) HS.out (fun _=> ?_)
 refine hTk (i:=0) (d:=22) (v:= .agg #[O U P,O U B,O U D,O U H]) rfl rfl (Or.inl ⟨rfl,by rintro W' s0;have y0:=s0.cell 0;have y1:=s0.cell 1;have y2:=s0.cell 2;have y3:=s0.cell 3;go_simp⟩) HS.out ?_
 simp only [Act.put,sB,sZ,sS]
 refine hTk (i:=1) (d:=23) (v:=O U m) rfl rfl (Or.inl ⟨rfl,by rintro W' s0;have y0:=s0.cell 0;have y1:=s0.cell 1;have y2:=s0.cell 2;have y3:=s0.cell 3;go_simp⟩) HS.out ?_
 simp only [Act.put,sB,sZ,sS]
 refine hTk (i:=2) (d:=24) (v:=O U m) rfl rfl (Or.inl ⟨rfl,by rintro W' s0;have y0:=s0.cell 0;have y1:=s0.cell 1;have y2:=s0.cell 2;have y3:=s0.cell 3;go_simp⟩) HS.out ?_
 simp only [Act.put,sB,sZ,sS]
 refine hTk (i:=3) (d:=25) (v:= .agg #[O U P,O U B,O U D,O U H]) rfl rfl (Or.inl ⟨rfl,by rintro W' s0;have y0:=s0.cell 0;have y1:=s0.cell 1;have y2:=s0.cell 2;have y3:=s0.cell 3;go_simp⟩) HS.out ?_
 simp only [Act.put,sB,sZ,sS]
 refine wpAnyH_ready (rs:= [4]) (by kernel_rfl) (by simp) ?_
 refine AllReadyH.cons rfl (fun K hK=> ?_) AllReadyH.nil
 rw [if_pos (by rfl)]
 go_simp
 go_at_call 73
 (with_reducible refine (HSU.out _).mono ?_)
 rintro e w4 ⟨rfl,hbn⟩
 replace hbq:=hbq.trans (hbn.mono hbq.size)
 clear hbn
 have HS:=Z (HSK.out _ hbq)
 refine hK.out _ _ HS.out (fun _=> ?_)
 clear hK K
 try simp only [Act.put,sB,sZ,sS]
 refine wpAnyH_ready (rs:= [5]) (by kernel_rfl) (by simp) ?_
 refine AllReadyH.cons rfl (fun K hK=> ?_) AllReadyH.nil
 rw [if_pos (by rfl)]
 go_simp
 go_at_call 101
 (with_reducible refine (HAF.out _).mono ?_)
 rintro e w5 ⟨rfl,rfl⟩
 refine hK.out _ _ HS.out (fun _=> ?_)
 clear hK K
 try simp only [Act.put,sB,sZ,sS]
 refine hTk (i:=6) (d:=28) (v:= .agg #[O U P,O U B,O U D,O U H,O U m,O U (afterZ m (sumZ P B D H))]) rfl rfl (Or.inl ⟨rfl,by rintro W' s0;have y0:=s0.cell 0;have y1:=s0.cell 1;have y2:=s0.cell 2;have y3:=s0.cell 3;go_simp⟩) HS.out ?_
 simp only [Act.put,sB,sZ,sS]
 refine wpAnyH_ready (rs:= [7]) (by kernel_rfl) (by simp) ?_
 refine AllReadyH.cons rfl (fun K hK=> ?_) AllReadyH.nil
 rw [if_pos (by rfl)]
 refine wp_store_row 87 _ _ rfl w.heap.size rfl #[O U P,O U B,O U D,O U H,O U m,O U (afterZ m (sumZ P B D H))] rfl 87 _ (HT.out _ hbq) (by kernel_rfl) rfl (by simp [Value.oneCell']) ?_
 have hr:=(HT.out _ hbq).setRow #[O U P,O U B,O U D,O U H,O U m,O U (afterZ m (sumZ P B D H))]
 have hbz:=below_setRow (HB3.out.trans (hbq.mono HB3.out.size)) (Nat.le_refl _) #[O U P,O U B,O U D,O U H,O U m,O U (afterZ m (sumZ P B D H))]
 have HS2:=Z ((HSK.out _ hbq).setRow_far #[O U P,O U B,O U D,O U H,O U m,O U (afterZ m (sumZ P B D H))] HNE.out)
 refine hK.out _ _ HS2.out (fun _=> ?_)
 clear hK K
 try simp only [Act.put,sB,sZ,sS]
 refine wpAnyH_done (by kernel_rfl) ?_ _
 go_wp2
 (try simp only [Exit.inBlock,Exit.then])
 exact bodyPost_ret (res_c rfl _ _ _ _ _ _ rfl hr Tryz.underlying87 rfl (by kernel_rfl)) rfl ⟨rfl,hbz⟩
open Go.RowKit
structure Lg where
 pull:Int
 brake:Int
 drag:Int
 hill:Int
 round:Int
 hold:Int
def fLg (l:Lg):Array Value:=#[O U l.pull,O U l.brake,O U l.drag,O U l.hill,O U l.round,O U l.hold]
def ledgerZ (f:Fs) (m q:Int):Lg:=if q=m+100 * f.sum then ⟨200 * f.p * q,200 * f.b * q,200 * f.d * q,200 * f.h * q,10000 * f.sum * f.sum,0⟩ else ⟨200 * f.p * q,200 * f.b * q,200 * f.d * q,200 * f.h * q,0,m * m⟩
theorem mul_bd {x y X Y:Int} (x0: -X≤x) (x1:x≤X) (y0:0≤y) (y1:y≤Y) (hX:0≤X): -(X * Y)≤x * y∧x * y≤X * Y:=by
 have a1:=Int.mul_le_mul_of_nonneg_right x1 y0
 have a2:=Int.mul_le_mul_of_nonneg_right x0 y0
 have a3:=Int.mul_le_mul_of_nonneg_left y1 hX
 rw [Int.neg_mul] at a2
 omega
theorem sum_bd {f:Fs} (hf:FsOk f): -800000≤f.sum∧f.sum≤800000:=by
 obtain⟨a1,a2,a3,a4,a5,a6,a7,a8⟩:=hf
 unfold Fs.sum sumZ
 omega
theorem sq_bd {x X:Int} (x0: -X≤x) (x1:x≤X):0≤x * x∧x * x≤X * X:=by
 rcases Int.le_total 0 x with h|h
 ·exact⟨Int.mul_nonneg h h,Int.mul_le_mul x1 x1 h (by omega)⟩
 ·have e:x * x= -x * -x:=by rw [Int.neg_mul_neg]
  rw [e]
  exact⟨Int.mul_nonneg (by omega) (by omega),Int.mul_le_mul (by omega) (by omega) (by omega) (by omega)⟩
set_option maxRecDepth 100000 in
set_option maxHeartbeats 4000000 in
theorem ledger_any (f:Fs) (m q:Int) (w:World) (hf:FsOk f) (m0:0≤m) (m1:m≤2000000000) (q0:0≤q) (q1:q≤2100000000) :
  Calls Tryz.prog 44 #[.agg #[O U f.p,O U f.b,O U f.d,O U f.h,O U m,O U q]] w fun e w'=>e= .returned (.agg (fLg (ledgerZ f m q)))∧Below w.heap.size w w':=by
 obtain⟨s0,s1⟩:=sum_bd hf
 obtain⟨a1,a2,a3,a4,a5,a6,a7,a8⟩:=hf
 have hsu:=fun wx=>sum_any f.p f.b f.d f.h wx (by omega) (by omega) (by omega) (by omega)
 have es:sumZ f.p f.b f.d f.h=f.sum:=rfl
 rw [es] at hsu
 clear es
 have b1:=mul_bd (x:=200 * f.p) (X:=40000000) (by omega) (by omega) q0 q1 (by omega)
 have b2:=mul_bd (x:=200 * f.b) (X:=40000000) (by omega) (by omega) q0 q1 (by omega)
 have b3:=mul_bd (x:=200 * f.d) (X:=70000000) (by omega) (by omega) q0 q1 (by omega)
 have b4:=mul_bd (x:=200 * f.h) (X:=20000000) (by omega) (by omega) q0 q1 (by omega)
 have b5:=sq_bd s0 s1
 have b6:=sq_bd (X:=2000000000) (by omega) m1
 have hle:ledgerZ f m q=if q=m+100 * f.sum then ⟨200 * f.p * q,200 * f.b * q,200 * f.d * q,200 * f.h * q,10000 * f.sum * f.sum,0⟩ else ⟨200 * f.p * q,200 * f.b * q,200 * f.d * q,200 * f.h * q,0,m * m⟩:=rfl
 generalize f.sum=S at *
 have w1:IntKind.i64.wrap (200 * f.p)=200 * f.p:=by rw [IntKind.wrap_i64];omega
 have w2:IntKind.i64.wrap (200 * f.b)=200 * f.b:=by rw [IntKind.wrap_i64];omega
 have w3:IntKind.i64.wrap (200 * f.d)=200 * f.d:=by rw [IntKind.wrap_i64];omega
 have w4:IntKind.i64.wrap (200 * f.h)=200 * f.h:=by rw [IntKind.wrap_i64];omega
 have g5:10000 * S * S=10000 * (S * S):=by rw [Int.mul_assoc]
 obtain⟨z1,hz1⟩:∃z,200 * f.p * q=z:=⟨_,rfl⟩
 obtain⟨z2,hz2⟩:∃z,200 * f.b * q=z:=⟨_,rfl⟩
 obtain⟨z3,hz3⟩:∃z,200 * f.d * q=z:=⟨_,rfl⟩
 obtain⟨z4,hz4⟩:∃z,200 * f.h * q=z:=⟨_,rfl⟩
 obtain⟨z5,hz5⟩:∃z,10000 * S * S=z:=⟨_,rfl⟩
 obtain⟨z6,hz6⟩:∃z,m * m=z:=⟨_,rfl⟩
 rw [hz1] at b1
 rw [hz2] at b2
 rw [hz3] at b3
 rw [hz4] at b4
 rw [hz6] at b6
 rw [hz1,hz2,hz3,hz4,hz5,hz6] at hle
 have v1:IntKind.i64.wrap (200 * f.p * q)=z1:=by rw [hz1,IntKind.wrap_i64];omega
 have v2:IntKind.i64.wrap (200 * f.b * q)=z2:=by rw [hz2,IntKind.wrap_i64];omega
 have v3:IntKind.i64.wrap (200 * f.d * q)=z3:=by rw [hz3,IntKind.wrap_i64];omega
 have v4:IntKind.i64.wrap (200 * f.h * q)=z4:=by rw [hz4,IntKind.wrap_i64];omega
 have v5:IntKind.i64.wrap (10000 * S)=10000 * S:=by rw [IntKind.wrap_i64];omega
 have v6:IntKind.i64.wrap (10000 * S * S)=z5:=by rw [hz5,IntKind.wrap_i64];omega
 have v7:IntKind.i64.wrap (m * m)=z6:=by rw [hz6,IntKind.wrap_i64];omega
 have v8:IntKind.i64.wrap (100 * S)=100 * S:=by rw [IntKind.wrap_i64];omega
 have v9:IntKind.i64.wrap (m+100 * S)=m+100 * S:=by rw [IntKind.wrap_i64];omega
 have HLE:=Z hle
 have HSU:=Z hsu
 have hb2:=((Below.refl w.heap.size w).alloc (Nat.le_refl _) (.cells #[O U f.p,O U f.b,O U f.d,O U f.h,O U m,O U q] 87)).alloc (by simp) (.cells #[O U 0,O U 0,O U 0,O U 0,O U 0,O U 0] 37)
 obtain⟨p1,p2⟩:=rows2 w #[O U f.p,O U f.b,O U f.d,O U f.h,O U m,O U q] #[O U 0,O U 0,O U 0,O U 0,O U 0,O U 0] 87 37
 obtain⟨W1,hW1⟩:∃z,((w.alloc (.cells #[O U f.p,O U f.b,O U f.d,O U f.h,O U m,O U q] 87)).alloc (.cells #[O U 0,O U 0,O U 0,O U 0,O U 0,O U 0] 37))=z:=⟨_,rfl⟩
 rw [hW1] at hb2 p1 p2
 have HB1:=Z hb2;have HP:=Z (And.intro p1 p2)
 have e0:=p1.cell 0;have e1:=p1.cell 1;have e2:=p1.cell 2;have e3:=p1.cell 3;have e4:=p1.cell 4;have e5:=p1.cell 5
 have l1:=p1.lt;have l2:=p2.lt
 have HNE:=Z (show w.heap.size+1≠W1.heap.size from by have:=p2.lt;omega)
 clear hle hsu hb2 p1 p2 a1 a2 a3 a4 a5 a6 a7 a8 b1 b2 b3 b4 b5 b6 s0 s1 g5 hz1 hz2 hz3 hz4 hz5 hz6
 go_enter Tryz.func44,Tryz.ntmps44
 go_wp2_with fail
 (with_reducible refine (HSU.out _).mono ?_)
 rintro e w2 ⟨rfl,hb⟩
 have hx:=((Below.refl W1.heap.size W1).alloc (Nat.le_refl _) (.cells #[O U z1,O U z2,O U z3,O U z4,O U 0,O U 0] 37)).trans (hb.mono (by simp))
 have r3:=(Rw.new W1 #[O U z1,O U z2,O U z3,O U z4,O U 0,O U 0] 37).below hb (Rw.new W1 #[O U z1,O U z2,O U z3,O U z4,O U 0,O U 0] 37).lt
 have r1:=HP.out.1.below hx HP.out.1.lt
 have r2:=HP.out.2.below hx HP.out.2.lt
 have HX:=Z (HB1.out.trans (hx.mono HB1.out.size))
 have HR:=Z (And.intro r1 (And.intro r2 r3))
 have HZ:=Z HB1.out.size
 have y0:=r1.cell 0;have y1:=r1.cell 1;have y2:=r1.cell 2;have y3:=r1.cell 3;have y4:=r1.cell 4;have y5:=r1.cell 5;have g0:=r2.cell 0;have k0:=r2.frozen 0;have j0:=r3.cell 0;have i0:=r3.frozen 0;have g1:=r2.cell 1;have k1:=r2.frozen 1;have j1:=r3.cell 1;have i1:=r3.frozen 1;have g2:=r2.cell 2;have k2:=r2.frozen 2;have j2:=r3.cell 2;have i2:=r3.frozen 2;have g3:=r2.cell 3;have k3:=r2.frozen 3;have j3:=r3.cell 3;have i3:=r3.frozen 3;have g4:=r2.cell 4;have k4:=r2.frozen 4;have j4:=r3.cell 4;have i4:=r3.frozen 4;have g5:=r2.cell 5;have k5:=r2.frozen 5;have j5:=r3.cell 5;have i5:=r3.frozen 5
 clear hb hx r1 r2 r3 hW1 e0 e1 e2 e3 e4 e5
 by_cases hq:q=m+100 * S
 ·have hqb:(q == m+100 * S)=true:=by rw [beq_iff_eq];exact hq
  have HQ:=Z (show ledgerZ f m q=⟨z1,z2,z3,z4,z5,0⟩ from by rw [HLE.out,if_pos hq])
  clear hq
  go_wp2
  (try simp only [Exit.inBlock,Exit.then])
  have hr:=((((((HR.out.2.1.far (k:=W1.heap.size) 4 (O U z5) HNE.out).set 0 (O U z1)).set 1 (O U z2)).set 2 (O U z3)).set 3 (O U z4)).set 4 (O U z5)).set 5 (O U 0)
  refine bodyPost_ret (res_c rfl _ _ _ _ _ _ rfl hr Tryz.underlying37 rfl (by kernel_rfl)) rfl ⟨by rw [HQ.out];rfl, ?_⟩
  exact (((((((HX.out.setCell (by have:=HZ.out;simp <;> omega) _).setCell (by simp <;> omega) _).setCell (by simp <;> omega) _).setCell (by simp <;> omega) _).setCell (by simp <;> omega) _).setCell (by simp <;> omega) _).setCell (by simp <;> omega) _)
 ·have hqb:(q == m+100 * S)=false:=by rw [beq_eq_false_iff_ne];exact hq
  have HQ:=Z (show ledgerZ f m q=⟨z1,z2,z3,z4,0,z6⟩ from by rw [HLE.out,if_neg hq])
  clear hq
  go_wp2
  (try simp only [Exit.inBlock,Exit.then])
  have hr:=((((((HR.out.2.1.far (k:=W1.heap.size) 5 (O U z6) HNE.out).set 0 (O U z1)).set 1 (O U z2)).set 2 (O U z3)).set 3 (O U z4)).set 4 (O U 0)).set 5 (O U z6)
  refine bodyPost_ret (res_c rfl _ _ _ _ _ _ rfl hr Tryz.underlying37 rfl (by kernel_rfl)) rfl ⟨by rw [HQ.out];rfl, ?_⟩
  exact (((((((HX.out.setCell (by have:=HZ.out;simp <;> omega) _).setCell (by simp <;> omega) _).setCell (by simp <;> omega) _).setCell (by simp <;> omega) _).setCell (by simp <;> omega) _).setCell (by simp <;> omega) _).setCell (by simp <;> omega) _)
open Go.RowKit
theorem wrapDiv {y u:Int} (h0:0≤y) (h1:y≤9000000000000000000) (h2:1≤u):wrap64 (y.tdiv u)=y / u:=by
 rw [Int.tdiv_eq_ediv_of_nonneg h0]
 have a:=Int.ediv_nonneg h0 (show 0≤u by omega)
 have b:=Int.ediv_le_self u h0
 exact IntWalk.wrap64_in _ ⟨by omega,by omega⟩
def tookZ (t:Tr) (f:Fs) (q:Int):Int:=(f.p * q+1000 * t.mass - 1) / (1000 * t.mass)
def gaveZ (t:Tr) (f:Fs) (q:Int):Int:=f.b * q * t.back / (100 * (1000 * t.mass))
set_option maxRecDepth 100000 in
set_option maxHeartbeats 4000000 in
theorem powers_any (A:Option Addr) (c n k:Nat) (t:Tr) (f:Fs) (a m q:Int) (w:World) (hE:Rw w k 139 #[O U t.mass,O U t.len,O U t.speed,O U t.effort,O U t.brake,O U t.power,O U t.resist,O U t.rise,O U t.back,.slice A n c,O U a,.func (.func 74) #[.pointer (some ⟨k,0,none⟩)] #[],.func (.func 75) #[.pointer (some ⟨k,0,none⟩)] #[],.func (.func 76) #[.pointer (some ⟨k,0,none⟩)] #[],.func (.func 77) #[.pointer (some ⟨k,0,none⟩)] #[]]) (ht:TrOk t) (hf:FsOk f) (q0:0≤q) (q1:q≤2100000000) :
  Calls Tryz.prog 46 #[.pointer (some ⟨k,0,none⟩),.agg #[O U f.p,O U f.b,O U f.d,O U f.h,O U m,O U q]] w fun e w'=>e= .returned (.tuple #[O U (tookZ t f q),O U (gaveZ t f q)])∧Below w.heap.size w w':=by
 have hb1:=(Below.refl w.heap.size w).alloc (Nat.le_refl _) (.cells #[O U f.p,O U f.b,O U f.d,O U f.h,O U m,O U q] 87)
 have r1:=Rw.new w #[O U f.p,O U f.b,O U f.d,O U f.h,O U m,O U q] 87
 have p1:=hE.below hb1 hE.lt
 obtain⟨W1,hW1⟩:∃z,w.alloc (.cells #[O U f.p,O U f.b,O U f.d,O U f.h,O U m,O U q] 87)=z:=⟨_,rfl⟩
 rw [hW1] at hb1 r1 p1
 have HB1:=Z hb1
 have e0:=r1.cell 0;have e1:=r1.cell 1;have e5:=r1.cell 5;have x0:=p1.cell 0;have x8:=p1.cell 8
 obtain⟨f1,f2,f3,f4,f5,f6,f7,f8⟩:=hf
 have b1:=mul_bd (x:=f.p) (X:=200000) (by omega) (by omega) q0 q1 (by omega)
 have b2:=mul_bd (x:=f.b) (X:=200000) (by omega) (by omega) q0 q1 (by omega)
 have n1:=Int.mul_nonneg f1 q0
 have n2:=Int.mul_nonneg f3 q0
 have m1:=ht.m1;have m2:=ht.m2;have k1:=ht.k1;have k2:=ht.k2
 have HV:=Z (show tookZ t f q=(f.p * q+1000 * t.mass - 1) / (1000 * t.mass)∧gaveZ t f q=f.b * q * t.back / (100 * (1000 * t.mass)) from⟨rfl,rfl⟩)
 obtain⟨z1,hz1⟩:∃z,f.p * q=z:=⟨_,rfl⟩
 obtain⟨z2,hz2⟩:∃z,f.b * q=z:=⟨_,rfl⟩
 rw [hz1] at b1 n1
 rw [hz2] at b2 n2
 rw [hz1,hz2] at HV
 have b3:=mul_bd (x:=z2) (X:=420000000000000) (by omega) (by omega) k1 k2 (by omega)
 have n3:=Int.mul_nonneg n2 k1
 obtain⟨z3,hz3⟩:∃z,z2 * t.back=z:=⟨_,rfl⟩
 rw [hz3] at b3 n3 HV
 have v1:IntKind.i64.wrap (f.p * q)=z1:=by rw [hz1,IntKind.wrap_i64];omega
 have v2:IntKind.i64.wrap (f.b * q)=z2:=by rw [hz2,IntKind.wrap_i64];omega
 have v3:IntKind.i64.wrap (z2 * t.back)=z3:=by rw [hz3,IntKind.wrap_i64];omega
 have v4:IntKind.i64.wrap (1000 * t.mass)=1000 * t.mass:=by rw [IntKind.wrap_i64];omega
 have v5:IntKind.i64.wrap (100 * (1000 * t.mass))=100 * (1000 * t.mass):=by rw [IntKind.wrap_i64];omega
 have v6:IntKind.i64.wrap (z1+1000 * t.mass)=z1+1000 * t.mass:=by rw [IntKind.wrap_i64];omega
 have v7:IntKind.i64.wrap (z1+1000 * t.mass - 1)=z1+1000 * t.mass - 1:=by rw [IntKind.wrap_i64];omega
 obtain⟨u,hu⟩:∃z,1000 * t.mass=z:=⟨_,rfl⟩
 rw [hu] at HV v5 v6 v7
 replace v4:IntKind.i64.wrap (1000 * t.mass)=u:=v4.trans hu
 have u1:1000000≤u:=by omega
 have u2:u≤80000000:=by omega
 have HD:=Z (And.intro (wrapDiv (y:=z1+u - 1) (u:=u) (by omega) (by omega) (by omega)) (wrapDiv (y:=z3) (u:=100 * u) (by omega) (by omega) (by omega)))
 clear hu m1 m2
 clear hb1 r1 p1 hE b1 b2 b3 hz1 hz2 hz3 ht f1 f2 f3 f4 f5 f6 f7 f8
 go_enter Tryz.func46,Tryz.ntmps46
 go_wp2
 go_quiet (fail)
 go_wp2
 go_ret2
 exact⟨by rw [HV.out.1,HV.out.2];first|done|rfl|(simp only [HD.out.1,HD.out.2];done)|(simp [HD.out.1,HD.out.2];done),by first|exact bDrewN HB1.out _|exact HB1.out⟩
set_option maxRecDepth 100000 in
set_option maxHeartbeats 4000000 in
theorem rPlace_any (A:Option Addr) (c n:Nat) (t:Tr) (m y:Int) (w:World) (ht:TrOk t) (y0:0≤y) (y1:y≤20000000000000000):Calls Tryz.prog 53 #[.agg #[O U t.mass,O U t.len,O U t.speed,O U t.effort,O U t.brake,O U t.power,O U t.resist,O U t.rise,O U t.back,.slice A n c],.agg #[O U m,O U y]] w fun e w'=>e= .returned (O U (y / (10 * t.mass)))∧Below w.heap.size w w':=by
 have hb1:=((Below.refl w.heap.size w).alloc (Nat.le_refl _) (.cells #[O U t.mass,O U t.len,O U t.speed,O U t.effort,O U t.brake,O U t.power,O U t.resist,O U t.rise,O U t.back,.slice A n c] 24)).alloc (by simp) (.cells #[O U m,O U y] 35)
 obtain⟨q1,q2⟩:=rows2 w #[O U t.mass,O U t.len,O U t.speed,O U t.effort,O U t.brake,O U t.power,O U t.resist,O U t.rise,O U t.back,.slice A n c] #[O U m,O U y] 24 35
 obtain⟨W1,hW1⟩:∃z,((w.alloc (.cells #[O U t.mass,O U t.len,O U t.speed,O U t.effort,O U t.brake,O U t.power,O U t.resist,O U t.rise,O U t.back,.slice A n c] 24)).alloc (.cells #[O U m,O U y] 35))=z:=⟨_,rfl⟩
 rw [hW1] at hb1 q1 q2
 have HB1:=Z hb1
 have e0:=q1.cell 0;have x1:=q2.cell 1
 have m1:=ht.m1;have m2:=ht.m2
 have v1:IntKind.i64.wrap (10 * t.mass)=10 * t.mass:=by rw [IntKind.wrap_i64];omega
 have HV:=Z (Eq.refl (y / (10 * t.mass)))
 obtain⟨u,hu⟩:∃z,10 * t.mass=z:=⟨_,rfl⟩
 rw [hu] at HV ⊢
 replace v1:IntKind.i64.wrap (10 * t.mass)=u:=v1.trans hu
 have u1:10000≤u:=by omega
 have HD:=Z (wrapDiv (u:=u) y0 (by omega) (by omega))
 clear hb1 q1 q2 ht hu m1 m2
 go_enter Tryz.func53,Tryz.ntmps53
 go_wp2
 go_ret
 exact⟨by first|rfl|(simp;exact HD.out),HB1.out⟩
open Go.RowKit
theorem results_tmp4 {fn:Func} {t u v x:Tmp} (h:fn.results=#[.tmp t,.tmp u,.tmp v,.tmp x]) (tmps:Array Value) (P:Program) (w:World) :
  (results fn tmps).run P w= .ok (.tuple #[tmps.getD t undef,tmps.getD u undef,tmps.getD v undef,tmps.getD x undef]) w:=by
 simp [results,h]
set_option maxRecDepth 100000 in
set_option maxHeartbeats 4000000 in
theorem rForces_any (A:Option Addr) (c n:Nat) (t:Tr) (sp d sl st g:Int) (i:Nat) (w:World) (ht:TrOk t) (hn:t.grip.length=n) (hs:st=(i:Int)) (hg:t.grip[i]? = some g) (hS:Sl w w.heap.size 1 CI A t.grip) (v0:0≤sp) (v1:sp≤3000000) (d0: -4≤d) (d1:d≤4) (s0: -120≤sl) (s1:sl≤120) :
  Calls Tryz.prog 48 #[.agg #[O U t.mass,O U t.len,O U t.speed,O U t.effort,O U t.brake,O U t.power,O U t.resist,O U t.rise,O U t.back,.slice A n c],O U sp,O U d,O U sl,O U st] w fun e w'=>e= .returned (.tuple #[O U (pullZ t (adhZ t g) sp d),O U (brakeZ t (adhZ t g) d),O U (dragZ t sp),O U (hillZ t sl)])∧Below w.heap.size w w':=by
 subst hs
 have hb1:=(Below.refl w.heap.size w).alloc (Nat.le_refl _) (.cells #[O U t.mass,O U t.len,O U t.speed,O U t.effort,O U t.brake,O U t.power,O U t.resist,O U t.rise,O U t.back,.slice A n c] 24)
 have q1:=Rw.new w #[O U t.mass,O U t.len,O U t.speed,O U t.effort,O U t.brake,O U t.power,O U t.resist,O U t.rise,O U t.back,.slice A n c] 24
 obtain⟨hil,hge⟩:=List.getElem?_eq_some_iff.1 hg
 obtain⟨b,o,eA,gb,c0⟩:=int_at (hS.below hb1) hil
 rw [hge] at c0
 have hm1:=ht.m1;have hm2:=ht.m2
 have hgs:=ht.gs g (List.mem_of_getElem? hg)
 have hg8:=ht.g2
 have hii:(i:Int)<(n:Int):=by omega
 have hi0:(0:Int)≤(i:Int):=by omega
 have hp:0≤g * t.mass∧g * t.mass≤80000000:=⟨Int.mul_nonneg (by omega) (by omega),by
  have:=Int.mul_le_mul hgs.2 hm2 (by omega) (by omega)
  omega⟩
 have ead:adhZ t g=g * t.mass * 981 / 100000:=rfl
 obtain⟨gm,hgm⟩:∃z,g * t.mass=z:=⟨_,rfl⟩
 rw [hgm] at hp ead
 have hw1:IntKind.i64.wrap (g * t.mass)=gm:=by rw [hgm,IntKind.wrap_i64];omega
 have hw2:IntKind.i64.wrap (gm * 981)=gm * 981:=by rw [IntKind.wrap_i64];omega
 obtain⟨a,ha⟩:∃a,adhZ t g=a:=⟨_,rfl⟩
 have hda:wrap64 ((gm * 981).tdiv 100000)=a:=by rw [wrapDiv (by omega) (by omega) (by omega),←ead,ha]
 have a0:0≤a:=by omega
 have a1:a≤80000000:=by omega
 have hq1:gm * 981 / 100000=a:=by omega
 rw [ha]
 -- drag
 have r1:=ht.r1;have r2:=ht.r2;have x1:=ht.s1;have x2:=ht.s2
 have hr:0≤t.rise * sp∧t.rise * sp≤30000000000:=⟨Int.mul_nonneg x1 v0,by
  have:=Int.mul_le_mul x2 v1 v0 (by omega)
  omega⟩
 have HVd:=Z (show dragZ t sp=t.resist+t.rise * sp / 1000 from rfl)
 obtain⟨zd,hzd⟩:∃z,t.rise * sp=z:=⟨_,rfl⟩
 rw [hzd] at hr HVd
 have hw3:IntKind.i64.wrap (t.rise * sp)=zd:=by rw [hzd,IntKind.wrap_i64];omega
 have hw4:IntKind.i64.wrap (t.resist+zd / 1000)=t.resist+zd / 1000:=by rw [IntKind.wrap_i64];omega
 -- hill
 have hh: -9600000≤t.mass * sl∧t.mass * sl≤9600000:=by
  have a1:=Int.mul_le_mul_of_nonneg_left s1 (show 0≤t.mass by omega)
  have a2:=Int.mul_le_mul_of_nonneg_left s0 (show 0≤t.mass by omega)
  omega
 have HVh:=Z (show hillZ t sl=Int.tdiv (t.mass * sl * 981) 100000 from rfl)
 obtain⟨zh,hzh⟩:∃z,t.mass * sl=z:=⟨_,rfl⟩
 rw [hzh] at hh HVh
 have hw5:IntKind.i64.wrap (t.mass * sl)=zh:=by rw [hzh,IntKind.wrap_i64];omega
 have hw6:IntKind.i64.wrap (zh * 981)=zh * 981:=by rw [IntKind.wrap_i64];omega
 obtain⟨W1,hW1⟩:∃z,w.alloc (.cells #[O U t.mass,O U t.len,O U t.speed,O U t.effort,O U t.brake,O U t.power,O U t.resist,O U t.rise,O U t.back,.slice A n c] 24)=z:=⟨_,rfl⟩
 rw [hW1] at hb1 q1 c0
 have HB1:=Z hb1
 have e0:=q1.cell 0;have e1:=q1.cell 1;have e2:=q1.cell 2;have e3:=q1.cell 3;have e4:=q1.cell 4;have e5:=q1.cell 5;have e6:=q1.cell 6;have e7:=q1.cell 7;have e8:=q1.cell 8;have e9:=q1.cell 9
 subst eA
 have HF:=Z ht
 clear hb1 q1 hS hg hil hge hgm hzd hzh ht ead ha hgs
 by_cases hd:0<d
 ·have e1':=HF.out.e1;have e2':=HF.out.e2;have p1':=HF.out.p1;have p2':=HF.out.p2
  have HVb:=Z (show brakeZ t a d=0 by unfold brakeZ;rw [if_pos (by omega)])
  have hpe:0≤t.effort * d∧t.effort * d≤800000:=by
   have a1:=Int.mul_le_mul_of_nonneg_left d1 (show 0≤t.effort by omega)
   have a2:=Int.mul_nonneg (show 0≤t.effort by omega) (show 0≤d by omega)
   omega
  by_cases hsp:0<sp
  ·have HVp:=Z (show pullZ t a sp d=min (min (t.effort * d / 4) a) (1000 * t.power / sp) by unfold pullZ;rw [if_neg (by omega),if_pos hsp])
   obtain⟨zp,hzp⟩:∃z,t.effort * d=z:=⟨_,rfl⟩
   rw [hzp] at hpe HVp
   have hw7:IntKind.i64.wrap (t.effort * d)=zp:=by rw [hzp,IntKind.wrap_i64];omega
   have hw8:IntKind.i64.wrap (1000 * t.power)=1000 * t.power:=by rw [IntKind.wrap_i64];omega
   have HD:=Z (wrapDiv (y:=1000 * t.power) (u:=sp) (by omega) (by omega) (by omega))
   clear hzp
   go_enter Tryz.func48,Tryz.ntmps48
   go_wp2
   go_quiet (fail)
   go_wp2
   all_goals go_quiet (fail)
   all_goals go_wp2
   all_goals (try simp only [Exit.inBlock,Exit.then])
   all_goals refine bodyPost_ret (results_tmp4 rfl _ _ _) rfl ?_
   all_goals exact⟨by rw [HVp.out,HVb.out,HVd.out,HVh.out];first|done|rfl|(simp;omega)|(simp only [minIf];done)|(simp [minIf];done)|(simp [minIf];omega)|(simp only [minIf,HD.out];done)|(simp [minIf,HD.out];done),by first|exact bDrewN HB1.out _|exact bDrewN (bDrewN HB1.out _) _⟩
  ·have HVp:=Z (show pullZ t a sp d=min (t.effort * d / 4) a by unfold pullZ;rw [if_neg (by omega),if_neg hsp])
   obtain⟨zp,hzp⟩:∃z,t.effort * d=z:=⟨_,rfl⟩
   rw [hzp] at hpe HVp
   have hw7:IntKind.i64.wrap (t.effort * d)=zp:=by rw [hzp,IntKind.wrap_i64];omega
   have HD:=Z (Eq.refl (0:Int))
   clear hzp
   go_enter Tryz.func48,Tryz.ntmps48
   go_wp2
   go_quiet (fail)
   go_wp2
   all_goals go_quiet (fail)
   all_goals go_wp2
   all_goals (try simp only [Exit.inBlock,Exit.then])
   all_goals refine bodyPost_ret (results_tmp4 rfl _ _ _) rfl ?_
   all_goals exact⟨by rw [HVp.out,HVb.out,HVd.out,HVh.out];first|done|rfl|(simp;omega)|(simp only [minIf];done)|(simp [minIf];done)|(simp [minIf];omega)|(simp only [minIf,HD.out];done)|(simp [minIf,HD.out];done),by first|exact bDrewN HB1.out _|exact bDrewN (bDrewN HB1.out _) _⟩
 ·have HVp:=Z (show pullZ t a sp d=0 by unfold pullZ;rw [if_pos (by omega)])
  by_cases hd2:d<0
  ·have m1':=HF.out.b1;have m2':=HF.out.b2
   have HVb:=Z (show brakeZ t a d=min (t.brake * -d / 4) a by unfold brakeZ;rw [if_neg (by omega)])
   have hpb:0≤t.brake * -d∧t.brake * -d≤800000:=by
    have a1:=Int.mul_le_mul_of_nonneg_left (show -d≤4 by omega) (show 0≤t.brake by omega)
    have a2:=Int.mul_nonneg (show 0≤t.brake by omega) (show 0≤ -d by omega)
    omega
   obtain⟨zb,hzb⟩:∃z,t.brake * -d=z:=⟨_,rfl⟩
   rw [hzb] at hpb HVb
   have hw0:IntKind.i64.wrap (-d)= -d:=by rw [IntKind.wrap_i64];omega
   have hw9:IntKind.i64.wrap (t.brake * -d)=zb:=by rw [hzb,IntKind.wrap_i64];omega
   have HD:=Z (Eq.refl (0:Int))
   clear hzb
   go_enter Tryz.func48,Tryz.ntmps48
   go_wp2
   go_quiet (fail)
   go_wp2
   all_goals go_quiet (fail)
   all_goals go_wp2
   all_goals (try simp only [Exit.inBlock,Exit.then])
   all_goals refine bodyPost_ret (results_tmp4 rfl _ _ _) rfl ?_
   all_goals exact⟨by rw [HVp.out,HVb.out,HVd.out,HVh.out];first|done|rfl|(simp;omega)|(simp only [minIf];done)|(simp [minIf];done)|(simp [minIf];omega)|(simp only [minIf,HD.out];done)|(simp [minIf,HD.out];done),by first|exact bDrewN HB1.out _|exact bDrewN (bDrewN HB1.out _) _⟩
  ·have HVb:=Z (show brakeZ t a d=0 by unfold brakeZ;rw [if_pos (by omega)])
   have HD:=Z (Eq.refl (0:Int))
   go_enter Tryz.func48,Tryz.ntmps48
   go_wp2
   go_quiet (fail)
   go_wp2
   all_goals go_quiet (fail)
   all_goals go_wp2
   all_goals (try simp only [Exit.inBlock,Exit.then])
   all_goals refine bodyPost_ret (results_tmp4 rfl _ _ _) rfl ?_
   all_goals exact⟨by rw [HVp.out,HVb.out,HVd.out,HVh.out];first|done|rfl|(simp;omega)|(simp only [minIf];done)|(simp [minIf];done)|(simp [minIf];omega)|(simp only [minIf,HD.out];done)|(simp [minIf,HD.out];done),by first|exact bDrewN HB1.out _|exact bDrewN (bDrewN HB1.out _) _⟩
open Go.RowKit
def gripZ (t:Tr) (st:Int):Int:=t.grip.getD st.toNat 0
def mkF (t:Tr) (m d sl st:Int):Fs:=fsZ t (adhZ t (gripZ t st)) m d sl
def mkQ (t:Tr) (m d sl st:Int):Int:=nextZ t (adhZ t (gripZ t st)) m d sl
def mkE (t:Tr) (m y d sl st:Int):Int:=if fineB t m y d sl st=true then (if mkQ t m d sl st≤25000 * t.mass∧y+mkQ t m d sl st≤10000000000000000 then 0 else 3) else 2
def mkS (t:Tr) (m y d sl st:Int):Array Value:=if mkE t m y d sl st=0 then #[O U (mkF t m d sl st).p,O U (mkF t m d sl st).b,O U (mkF t m d sl st).d,O U (mkF t m d sl st).h,O U m,O U (mkQ t m d sl st)] else #[O U 0,O U 0,O U 0,O U 0,O U 0,O U 0]
structure FineOk (t:Tr) (m y d sl st:Int):Prop where
 ok:TrOk t
 m0:0≤m
 m1:m≤25000 * t.mass
 y0:0≤y
 y1:y≤20000000000000000
 d0: -4≤d
 d1:d≤4
 s0: -120≤sl
 s1:sl≤120
 i0:0≤st
 ig:t.grip[st.toNat]? = some (gripZ t st)
 g0:1≤gripZ t st
 g1:gripZ t st≤1000
theorem FineOk.of {t:Tr} {m y d sl st:Int} (h:fineB t m y d sl st=true):FineOk t m y d sl st:=by
 unfold fineB stateB at h
 simp only [Bool.and_eq_true,inB_iff] at h
 obtain⟨h1,⟨⟨a1,a2⟩,b1,b2⟩,⟨c1,c2⟩,⟨e1,e2⟩,f1,f2⟩:=h
 have ok:=TrOk.of h1
 have hi:st.toNat<t.grip.length:=by omega
 have hg:t.grip[st.toNat]? = some (gripZ t st):=by
  unfold gripZ
  rw [List.getD_eq_getElem?_getD,List.getElem?_eq_getElem hi]
  rfl
 have hgs:=ok.gs _ (List.mem_of_getElem? hg)
 exact⟨ok,a1,a2,b1,by omega,c1,c2,e1,e2,f1,hg,hgs.1,hgs.2⟩
theorem adh_bd {t:Tr} (ht:TrOk t) {g:Int} (g0:1≤g) (g1:g≤1000):0≤adhZ t g∧adhZ t g≤784800:=by
 have m1:=ht.m1;have m2:=ht.m2
 have hp:0≤g * t.mass∧g * t.mass≤80000000:=⟨Int.mul_nonneg (by omega) (by omega),by
  have:=Int.mul_le_mul g1 m2 (by omega) (by omega)
  omega⟩
 unfold adhZ
 omega
theorem next_bd {t:Tr} {a m d sl:Int} (hf:FsOk (fsZ t a m d sl)) (m1:m≤2000000000):0≤nextZ t a m d sl∧nextZ t a m d sl≤2080000000:=by
 have h:=sum_bd hf
 unfold nextZ afterZ
 omega
theorem fine_fs {t:Tr} {m y d sl st:Int} (h:FineOk t m y d sl st):FsOk (mkF t m d sl st):=fs_ok h.ok (adh_bd h.ok h.g0 h.g1).1 h.m0 h.m1 h.d0 h.d1 h.s0 h.s1
theorem fine_q {t:Tr} {m y d sl st:Int} (h:FineOk t m y d sl st):0≤mkQ t m d sl st∧mkQ t m d sl st≤2080000000:=next_bd (fine_fs h) (by have:=h.m1;have:=h.ok.m2;omega)
set_option maxRecDepth 100000 in
set_option maxHeartbeats 4000000 in
theorem makeStep_bad (A:Option Addr) (c n:Nat) (t:Tr) (m y d sl st:Int) (w:World) (hn:t.grip.length=n) (hn2:n≤140737488351232) (hS:Sl w w.heap.size 1 CI A t.grip) (hfin:fineB t m y d sl st=false) :
  Calls Tryz.prog 43 #[.agg #[O U t.mass,O U t.len,O U t.speed,O U t.effort,O U t.brake,O U t.power,O U t.resist,O U t.rise,O U t.back,.slice A n c],.agg #[O U m,O U y],O U d,O U sl,O U st] w fun e w'=>e= .returned (.tuple #[.agg (mkS t m y d sl st),O U (mkE t m y d sl st)])∧Below w.heap.size w w':=by
 have hb1:=(((Below.refl w.heap.size w).alloc (Nat.le_refl _) (.cells #[O U t.mass,O U t.len,O U t.speed,O U t.effort,O U t.brake,O U t.power,O U t.resist,O U t.rise,O U t.back,.slice A n c] 24)).alloc (by simp) (.cells #[O U m,O U y] 35)).alloc (by simp;omega) (.cells #[O U 0,O U 0,O U 0,O U 0,O U 0,O U 0] 87)
 obtain⟨q1,q2,q3⟩:=rows3 w #[O U t.mass,O U t.len,O U t.speed,O U t.effort,O U t.brake,O U t.power,O U t.resist,O U t.rise,O U t.back,.slice A n c] #[O U m,O U y] #[O U 0,O U 0,O U 0,O U 0,O U 0,O U 0] 24 35 87
 obtain⟨W1,hW1⟩:∃z,(((w.alloc (.cells #[O U t.mass,O U t.len,O U t.speed,O U t.effort,O U t.brake,O U t.power,O U t.resist,O U t.rise,O U t.back,.slice A n c] 24)).alloc (.cells #[O U m,O U y] 35)).alloc (.cells #[O U 0,O U 0,O U 0,O U 0,O U 0,O U 0] 87))=z:=⟨_,rfl⟩
 rw [hW1] at hb1 q1 q2 q3
 have HB1:=Z hb1
 have HX1:=Z (Below.refl W1.heap.size W1)
 have HQ:=Z (show ∀wx,Below W1.heap.size W1 wx→Rw wx w.heap.size 24 #[O U t.mass,O U t.len,O U t.speed,O U t.effort,O U t.brake,O U t.power,O U t.resist,O U t.rise,O U t.back,.slice A n c]∧Rw wx (w.heap.size+1) 35 #[O U m,O U y]∧Rw wx (w.heap.size+1+1) 87 #[O U 0,O U 0,O U 0,O U 0,O U 0,O U 0] from fun wx h=>⟨q1.below h q1.lt,q2.below h q2.lt,q3.below h q3.lt⟩)
 have HS:=Z (show ∀wx,Below W1.heap.size W1 wx→Sl wx wx.heap.size 1 CI A t.grip from fun wx h=>(hS.below (hb1.trans (h.mono hb1.size))).more (fun _ _ h=>h) (Nat.le_trans hb1.size h.size))
 have e0:=q1.cell 0;have e1:=q1.cell 1;have e2:=q1.cell 2;have e3:=q1.cell 3;have e4:=q1.cell 4;have e5:=q1.cell 5;have e6:=q1.cell 6;have e7:=q1.cell 7;have e8:=q1.cell 8;have e9:=q1.cell 9;have f0:=q2.cell 0;have f1:=q2.cell 1
 obtain⟨b0,h0⟩:∃b,rightB t=b:=⟨_,rfl⟩
 obtain⟨b1,h1⟩:∃b,stateB t m y=b:=⟨_,rfl⟩
 obtain⟨b2,h2⟩:∃b,inB d (-4) 4=b:=⟨_,rfl⟩
 obtain⟨b3,h3⟩:∃b,placeB t sl st=b:=⟨_,rfl⟩
 have HN:=Z (show (b0 && (b1 && (b2 && b3)))=false from by rw [←hfin];unfold fineB placeB at *;rw [←h0,←h1,←h2,←h3])
 have HE:=Z (show mkS t m y d sl st=#[O U 0,O U 0,O U 0,O U 0,O U 0,O U 0]∧mkE t m y d sl st=2 from by
  have h:mkE t m y d sl st=2:=by unfold mkE;rw [hfin];rfl
  exact⟨by unfold mkS;rw [h];rfl,h⟩)
 have H0:=Z (show ∀wx,Below W1.heap.size W1 wx→Calls Tryz.prog 39 #[.agg #[O U t.mass,O U t.len,O U t.speed,O U t.effort,O U t.brake,O U t.power,O U t.resist,O U t.rise,O U t.back,.slice A n c]] wx fun e w'=>e= .returned (.bool b0)∧Below wx.heap.size wx w' from fun wx h=>by have:=right_any A c n t wx hn hn2 (HS.out wx h);rwa [h0] at this)
 have H1:=Z (show b0=true→∀wx,Calls Tryz.prog 49 #[.agg #[O U t.mass,O U t.len,O U t.speed,O U t.effort,O U t.brake,O U t.power,O U t.resist,O U t.rise,O U t.back,.slice A n c],.agg #[O U m,O U y]] wx fun e w'=>e= .returned (.bool b1)∧Below wx.heap.size wx w' from fun hb wx=>by have:=stateRight_any A c n t m y wx (TrOk.of (h0.trans hb));rwa [h1] at this)
 have H2:=Z (show ∀wx,Calls Tryz.prog 54 #[O U d,O U (-4),O U 4] wx fun e w'=>e= .returned (.bool b2)∧wx=w' from fun wx=>by have:=within_any d (-4) 4 wx;rwa [h2] at this)
 have H3:=Z (show b0=true→∀wx,Calls Tryz.prog 50 #[.agg #[O U t.mass,O U t.len,O U t.speed,O U t.effort,O U t.brake,O U t.power,O U t.resist,O U t.rise,O U t.back,.slice A n c],O U sl,O U st] wx fun e w'=>e= .returned (.bool b3)∧Below wx.heap.size wx w' from fun hb wx=>by have:=placeRight_any A c n t sl st wx hn (by have:=(TrOk.of (h0.trans hb)).g2;omega);rwa [h3] at this)
 clear hb1 q1 q2 q3 hS hn h0 h1 h2 h3 hfin
 go_enter Tryz.func43,Tryz.ntmps43
 go_wp2_with fail
 (with_reducible refine (H0.out _ HX1.out).mono ?_)
 rintro e w2 ⟨rfl,hb2⟩
 have HX2:=Z (HX1.out.trans (hb2.mono HX1.out.size))
 clear hb2
 obtain⟨r1,r2,r3⟩:=HQ.out _ HX2.out
 have e0:=r1.cell 0;have e1:=r1.cell 1;have e2:=r1.cell 2;have e3:=r1.cell 3;have e4:=r1.cell 4;have e5:=r1.cell 5;have e6:=r1.cell 6;have e7:=r1.cell 7;have e8:=r1.cell 8;have e9:=r1.cell 9;have f0:=r2.cell 0;have f1:=r2.cell 1;have g0:=r3.cell 0;have k0:=r3.frozen 0;have g1:=r3.cell 1;have k1:=r3.frozen 1;have g2:=r3.cell 2;have k2:=r3.frozen 2;have g3:=r3.cell 3;have k3:=r3.frozen 3;have g4:=r3.cell 4;have k4:=r3.frozen 4;have g5:=r3.cell 5;have k5:=r3.frozen 5;have lt3:=r3.lt
 clear r1 r2 r3
 cases b0 with
 | false=>
  go_wp2
  (try simp only [Exit.inBlock,Exit.then])
  have hr:=(((((((HQ.out _ HX2.out).2.2.set 0 (O U 0)).set 1 (O U 0)).set 2 (O U 0)).set 3 (O U 0)).set 4 (O U 0)).set 5 (O U 0))
  refine bodyPost_ret (res_ct rfl _ _ _ _ _ _ _ rfl rfl hr Tryz.underlying87 rfl (by kernel_rfl)) rfl ⟨by rw [HE.out.1,HE.out.2];rfl, ?_⟩
  have HZ:=HB1.out.size;have HY:=HX2.out.size
  exact (((((((HB1.out.trans (HX2.out.mono HB1.out.size)).setCell (by simp <;> omega) _).setCell (by simp <;> omega) _).setCell (by simp <;> omega) _).setCell (by simp <;> omega) _).setCell (by simp <;> omega) _).setCell (by simp <;> omega) _)
 | true=>
  go_wp2_with fail
  (with_reducible refine ((show ∀wx:World,Calls Tryz.prog 49 #[.agg #[O U t.mass,O U t.len,O U t.speed,O U t.effort,O U t.brake,O U t.power,O U t.resist,O U t.rise,O U t.back,.slice A n c],.agg #[O U m,O U y]] wx fun e w'=>e= .returned (.bool b1)∧Below wx.heap.size wx w' from by have h:=H1.out;simpa using h) _).mono ?_)
  rintro e w3 ⟨rfl,hb3⟩
  have HX3:=Z (HX2.out.trans (hb3.mono HX2.out.size))
  clear hb3
  obtain⟨r1,r2,r3⟩:=HQ.out _ HX3.out
  have e0:=r1.cell 0;have e1:=r1.cell 1;have e2:=r1.cell 2;have e3:=r1.cell 3;have e4:=r1.cell 4;have e5:=r1.cell 5;have e6:=r1.cell 6;have e7:=r1.cell 7;have e8:=r1.cell 8;have e9:=r1.cell 9;have f0:=r2.cell 0;have f1:=r2.cell 1;have g0:=r3.cell 0;have k0:=r3.frozen 0;have g1:=r3.cell 1;have k1:=r3.frozen 1;have g2:=r3.cell 2;have k2:=r3.frozen 2;have g3:=r3.cell 3;have k3:=r3.frozen 3;have g4:=r3.cell 4;have k4:=r3.frozen 4;have g5:=r3.cell 5;have k5:=r3.frozen 5;have lt3:=r3.lt
  clear r1 r2 r3
  cases b1 with
  | false=>
   go_wp2
   (try simp only [Exit.inBlock,Exit.then])
   have hr:=(((((((HQ.out _ HX3.out).2.2.set 0 (O U 0)).set 1 (O U 0)).set 2 (O U 0)).set 3 (O U 0)).set 4 (O U 0)).set 5 (O U 0))
   refine bodyPost_ret (res_ct rfl _ _ _ _ _ _ _ rfl rfl hr Tryz.underlying87 rfl (by kernel_rfl)) rfl ⟨by rw [HE.out.1,HE.out.2];rfl, ?_⟩
   have HZ:=HB1.out.size;have HY:=HX3.out.size
   exact (((((((HB1.out.trans (HX3.out.mono HB1.out.size)).setCell (by simp <;> omega) _).setCell (by simp <;> omega) _).setCell (by simp <;> omega) _).setCell (by simp <;> omega) _).setCell (by simp <;> omega) _).setCell (by simp <;> omega) _)
  | true=>
   go_wp2_with fail
   (with_reducible refine (H2.out _).mono ?_)
   rintro e w4 ⟨rfl,rfl⟩
   cases b2 with
   | false=>
    go_wp2
    (try simp only [Exit.inBlock,Exit.then])
    have hr:=(((((((HQ.out _ HX3.out).2.2.set 0 (O U 0)).set 1 (O U 0)).set 2 (O U 0)).set 3 (O U 0)).set 4 (O U 0)).set 5 (O U 0))
    refine bodyPost_ret (res_ct rfl _ _ _ _ _ _ _ rfl rfl hr Tryz.underlying87 rfl (by kernel_rfl)) rfl ⟨by rw [HE.out.1,HE.out.2];rfl, ?_⟩
    have HZ:=HB1.out.size;have HY:=HX3.out.size
    exact (((((((HB1.out.trans (HX3.out.mono HB1.out.size)).setCell (by simp <;> omega) _).setCell (by simp <;> omega) _).setCell (by simp <;> omega) _).setCell (by simp <;> omega) _).setCell (by simp <;> omega) _).setCell (by simp <;> omega) _)
   | true=>
    go_wp2_with fail
    (with_reducible refine ((show ∀wx:World,Calls Tryz.prog 50 #[.agg #[O U t.mass,O U t.len,O U t.speed,O U t.effort,O U t.brake,O U t.power,O U t.resist,O U t.rise,O U t.back,.slice A n c],O U sl,O U st] wx fun e w'=>e= .returned (.bool b3)∧Below wx.heap.size wx w' from by have h:=H3.out;simpa using h) _).mono ?_)
    rintro e w5 ⟨rfl,hb5⟩
    have HX5:=Z (HX3.out.trans (hb5.mono HX3.out.size))
    clear hb5
    obtain⟨r1,r2,r3⟩:=HQ.out _ HX5.out
    have e0:=r1.cell 0;have e1:=r1.cell 1;have e2:=r1.cell 2;have e3:=r1.cell 3;have e4:=r1.cell 4;have e5:=r1.cell 5;have e6:=r1.cell 6;have e7:=r1.cell 7;have e8:=r1.cell 8;have e9:=r1.cell 9;have f0:=r2.cell 0;have f1:=r2.cell 1;have g0:=r3.cell 0;have k0:=r3.frozen 0;have g1:=r3.cell 1;have k1:=r3.frozen 1;have g2:=r3.cell 2;have k2:=r3.frozen 2;have g3:=r3.cell 3;have k3:=r3.frozen 3;have g4:=r3.cell 4;have k4:=r3.frozen 4;have g5:=r3.cell 5;have k5:=r3.frozen 5;have lt3:=r3.lt
    clear r1 r2 r3
    cases b3 with
    | false=>
     go_wp2
     (try simp only [Exit.inBlock,Exit.then])
     have hr:=(((((((HQ.out _ HX5.out).2.2.set 0 (O U 0)).set 1 (O U 0)).set 2 (O U 0)).set 3 (O U 0)).set 4 (O U 0)).set 5 (O U 0))
     refine bodyPost_ret (res_ct rfl _ _ _ _ _ _ _ rfl rfl hr Tryz.underlying87 rfl (by kernel_rfl)) rfl ⟨by rw [HE.out.1,HE.out.2];rfl, ?_⟩
     have HZ:=HB1.out.size;have HY:=HX5.out.size
     exact (((((((HB1.out.trans (HX5.out.mono HB1.out.size)).setCell (by simp <;> omega) _).setCell (by simp <;> omega) _).setCell (by simp <;> omega) _).setCell (by simp <;> omega) _).setCell (by simp <;> omega) _).setCell (by simp <;> omega) _)
    | true=>
     exact absurd HN.out (by simp)
set_option maxRecDepth 100000 in
set_option maxHeartbeats 4000000 in
theorem makeStep_ok (A:Option Addr) (c n:Nat) (t:Tr) (m y d sl st:Int) (w:World) (hn:t.grip.length=n) (hn2:n≤140737488351232) (hS:Sl w w.heap.size 1 CI A t.grip) (hfin:fineB t m y d sl st=true) :
  Calls Tryz.prog 43 #[.agg #[O U t.mass,O U t.len,O U t.speed,O U t.effort,O U t.brake,O U t.power,O U t.resist,O U t.rise,O U t.back,.slice A n c],.agg #[O U m,O U y],O U d,O U sl,O U st] w fun e w'=>e= .returned (.tuple #[.agg (mkS t m y d sl st),O U (mkE t m y d sl st)])∧Below w.heap.size w w':=by
 have hF:=FineOk.of hfin
 have hfs:=fine_fs hF
 have hq:=fine_q hF
 have ha:=adh_bd hF.ok hF.g0 hF.g1
 have hb1:=(((Below.refl w.heap.size w).alloc (Nat.le_refl _) (.cells #[O U t.mass,O U t.len,O U t.speed,O U t.effort,O U t.brake,O U t.power,O U t.resist,O U t.rise,O U t.back,.slice A n c] 24)).alloc (by simp) (.cells #[O U m,O U y] 35)).alloc (by simp;omega) (.cells #[O U 0,O U 0,O U 0,O U 0,O U 0,O U 0] 87)
 obtain⟨q1,q2,q3⟩:=rows3 w #[O U t.mass,O U t.len,O U t.speed,O U t.effort,O U t.brake,O U t.power,O U t.resist,O U t.rise,O U t.back,.slice A n c] #[O U m,O U y] #[O U 0,O U 0,O U 0,O U 0,O U 0,O U 0] 24 35 87
 obtain⟨W1,hW1⟩:∃z,(((w.alloc (.cells #[O U t.mass,O U t.len,O U t.speed,O U t.effort,O U t.brake,O U t.power,O U t.resist,O U t.rise,O U t.back,.slice A n c] 24)).alloc (.cells #[O U m,O U y] 35)).alloc (.cells #[O U 0,O U 0,O U 0,O U 0,O U 0,O U 0] 87))=z:=⟨_,rfl⟩
 rw [hW1] at hb1 q1 q2 q3
 have HB1:=Z hb1
 have HX1:=Z (Below.refl W1.heap.size W1)
 have HQ:=Z (show ∀wx,Below W1.heap.size W1 wx→Rw wx w.heap.size 24 #[O U t.mass,O U t.len,O U t.speed,O U t.effort,O U t.brake,O U t.power,O U t.resist,O U t.rise,O U t.back,.slice A n c]∧Rw wx (w.heap.size+1) 35 #[O U m,O U y]∧Rw wx (w.heap.size+1+1) 87 #[O U 0,O U 0,O U 0,O U 0,O U 0,O U 0] from fun wx h=>⟨q1.below h q1.lt,q2.below h q2.lt,q3.below h q3.lt⟩)
 have HS:=Z (show ∀wx,Below W1.heap.size W1 wx→Sl wx wx.heap.size 1 CI A t.grip from fun wx h=>(hS.below (hb1.trans (h.mono hb1.size))).more (fun _ _ h=>h) (Nat.le_trans hb1.size h.size))
 have e0:=q1.cell 0;have e1:=q1.cell 1;have e2:=q1.cell 2;have e3:=q1.cell 3;have e4:=q1.cell 4;have e5:=q1.cell 5;have e6:=q1.cell 6;have e7:=q1.cell 7;have e8:=q1.cell 8;have e9:=q1.cell 9;have f0:=q2.cell 0;have f1:=q2.cell 1
 have hbs:rightB t=true∧stateB t m y=true∧inB d (-4) 4=true∧placeB t sl st=true:=by
  unfold fineB at hfin
  simp only [Bool.and_eq_true] at hfin
  exact⟨hfin.1,hfin.2.1,hfin.2.2.1,by unfold placeB;rw [hfin.2.2.2.1,hfin.2.2.2.2];rfl⟩
 have hn8:=hF.ok.g2
 have H0:=Z (show ∀wx,Below W1.heap.size W1 wx→Calls Tryz.prog 39 #[.agg #[O U t.mass,O U t.len,O U t.speed,O U t.effort,O U t.brake,O U t.power,O U t.resist,O U t.rise,O U t.back,.slice A n c]] wx fun e w'=>e= .returned (.bool true)∧Below wx.heap.size wx w' from fun wx h=>by have:=right_any A c n t wx hn hn2 (HS.out wx h);rwa [hbs.1] at this)
 have H1:=Z (show ∀wx,Calls Tryz.prog 49 #[.agg #[O U t.mass,O U t.len,O U t.speed,O U t.effort,O U t.brake,O U t.power,O U t.resist,O U t.rise,O U t.back,.slice A n c],.agg #[O U m,O U y]] wx fun e w'=>e= .returned (.bool true)∧Below wx.heap.size wx w' from fun wx=>by have:=stateRight_any A c n t m y wx hF.ok;rwa [hbs.2.1] at this)
 have H2:=Z (show ∀wx,Calls Tryz.prog 54 #[O U d,O U (-4),O U 4] wx fun e w'=>e= .returned (.bool true)∧wx=w' from fun wx=>by have:=within_any d (-4) 4 wx;rwa [hbs.2.2.1] at this)
 have H3:=Z (show ∀wx,Calls Tryz.prog 50 #[.agg #[O U t.mass,O U t.len,O U t.speed,O U t.effort,O U t.brake,O U t.power,O U t.resist,O U t.rise,O U t.back,.slice A n c],O U sl,O U st] wx fun e w'=>e= .returned (.bool true)∧Below wx.heap.size wx w' from fun wx=>by have:=placeRight_any A c n t sl st wx hn (by omega);rwa [hbs.2.2.2] at this)
 have H4:=Z (show ∀wx,Below W1.heap.size W1 wx→Calls Tryz.prog 45 #[.agg #[O U t.mass,O U t.len,O U t.speed,O U t.effort,O U t.brake,O U t.power,O U t.resist,O U t.rise,O U t.back,.slice A n c],O U st] wx fun e w'=>∃k,e= .returned (.pointer (some ⟨k,0,none⟩))∧wx.heap.size≤k∧Rw w' k 139 #[O U t.mass,O U t.len,O U t.speed,O U t.effort,O U t.brake,O U t.power,O U t.resist,O U t.rise,O U t.back,.slice A n c,O U (adhZ t (gripZ t st)),.func (.func 74) #[.pointer (some ⟨k,0,none⟩)] #[],.func (.func 75) #[.pointer (some ⟨k,0,none⟩)] #[],.func (.func 76) #[.pointer (some ⟨k,0,none⟩)] #[],.func (.func 77) #[.pointer (some ⟨k,0,none⟩)] #[]]∧Below wx.heap.size wx w' from fun wx h=>newEngine_any A c n t st (gripZ t st) st.toNat wx hF.ok hn (by have:=hF.i0;omega) hF.ig (HS.out wx h))
 have H5:=Z (show ∀wx k,Rw wx k 139 #[O U t.mass,O U t.len,O U t.speed,O U t.effort,O U t.brake,O U t.power,O U t.resist,O U t.rise,O U t.back,.slice A n c,O U (adhZ t (gripZ t st)),.func (.func 74) #[.pointer (some ⟨k,0,none⟩)] #[],.func (.func 75) #[.pointer (some ⟨k,0,none⟩)] #[],.func (.func 76) #[.pointer (some ⟨k,0,none⟩)] #[],.func (.func 77) #[.pointer (some ⟨k,0,none⟩)] #[]]→Calls Tryz.prog 71 #[.pointer (some ⟨k,0,none⟩),O U m,O U d,O U sl] wx fun e w'=>e= .returned (.agg #[O U (mkF t m d sl st).p,O U (mkF t m d sl st).b,O U (mkF t m d sl st).d,O U (mkF t m d sl st).h,O U m,O U (mkQ t m d sl st)])∧Below wx.heap.size wx w' from fun wx k h=>step_any A c n k t (adhZ t (gripZ t st)) m d sl wx h hF.ok ha.1 hF.m0 hF.m1 hF.d0 hF.d1 hF.s0 hF.s1)
 have H6:=Z (show ∀wx k,Rw wx k 139 #[O U t.mass,O U t.len,O U t.speed,O U t.effort,O U t.brake,O U t.power,O U t.resist,O U t.rise,O U t.back,.slice A n c,O U (adhZ t (gripZ t st)),.func (.func 74) #[.pointer (some ⟨k,0,none⟩)] #[],.func (.func 75) #[.pointer (some ⟨k,0,none⟩)] #[],.func (.func 76) #[.pointer (some ⟨k,0,none⟩)] #[],.func (.func 77) #[.pointer (some ⟨k,0,none⟩)] #[]]→Calls Tryz.prog 72 #[.pointer (some ⟨k,0,none⟩),O U (mkQ t m d sl st)] wx fun e w'=>e= .returned (.bool (decide (mkQ t m d sl st≤25000 * t.mass)))∧wx=w' from fun wx k h=>possible_any A c n k t (adhZ t (gripZ t st)) (mkQ t m d sl st) wx h hF.ok)
 have hE0:mkE t m y d sl st=if mkQ t m d sl st≤25000 * t.mass∧y+mkQ t m d sl st≤10000000000000000 then 0 else 3:=by unfold mkE;rw [hfin];rfl
 have hE1:mkS t m y d sl st=if mkE t m y d sl st=0 then #[O U (mkF t m d sl st).p,O U (mkF t m d sl st).b,O U (mkF t m d sl st).d,O U (mkF t m d sl st).h,O U m,O U (mkQ t m d sl st)] else #[O U 0,O U 0,O U 0,O U 0,O U 0,O U 0]:=rfl
 have hy0:=hF.y0;have hy1:=hF.y1
 generalize mkQ t m d sl st=q at *
 generalize (mkF t m d sl st).p=P at *
 generalize (mkF t m d sl st).b=B at *
 generalize (mkF t m d sl st).d=D at *
 generalize (mkF t m d sl st).h=H at *
 have hwy:IntKind.i64.wrap (y+q)=y+q:=by rw [IntKind.wrap_i64];omega
 have H7:=Z (And.intro hE0 hE1)
 clear hb1 q1 q2 q3 hS hn hbs hF hfs ha hn8 hfin hE0 hE1 hq hy0 hy1
 go_enter Tryz.func43,Tryz.ntmps43
 go_wp2_with fail
 (with_reducible refine (H0.out _ HX1.out).mono ?_)
 rintro e w2 ⟨rfl,hb2⟩
 have HX2:=Z (HX1.out.trans (hb2.mono HX1.out.size))
 clear hb2
 obtain⟨r1,r2,r3⟩:=HQ.out _ HX2.out
 have e0:=r1.cell 0;have e1:=r1.cell 1;have e2:=r1.cell 2;have e3:=r1.cell 3;have e4:=r1.cell 4;have e5:=r1.cell 5;have e6:=r1.cell 6;have e7:=r1.cell 7;have e8:=r1.cell 8;have e9:=r1.cell 9;have f0:=r2.cell 0;have f1:=r2.cell 1;have g0:=r3.cell 0;have k0:=r3.frozen 0;have g1:=r3.cell 1;have k1:=r3.frozen 1;have g2:=r3.cell 2;have k2:=r3.frozen 2;have g3:=r3.cell 3;have k3:=r3.frozen 3;have g4:=r3.cell 4;have k4:=r3.frozen 4;have g5:=r3.cell 5;have k5:=r3.frozen 5;have lt3:=r3.lt
 clear r1 r2 r3
 go_wp2_with fail
 (with_reducible refine (H1.out _).mono ?_)
 rintro e w3 ⟨rfl,hb3⟩
 have HX3:=Z (HX2.out.trans (hb3.mono HX2.out.size))
 clear hb3
 obtain⟨r1,r2,r3⟩:=HQ.out _ HX3.out
 have e0:=r1.cell 0;have e1:=r1.cell 1;have e2:=r1.cell 2;have e3:=r1.cell 3;have e4:=r1.cell 4;have e5:=r1.cell 5;have e6:=r1.cell 6;have e7:=r1.cell 7;have e8:=r1.cell 8;have e9:=r1.cell 9;have f0:=r2.cell 0;have f1:=r2.cell 1;have g0:=r3.cell 0;have k0:=r3.frozen 0;have g1:=r3.cell 1;have k1:=r3.frozen 1;have g2:=r3.cell 2;have k2:=r3.frozen 2;have g3:=r3.cell 3;have k3:=r3.frozen 3;have g4:=r3.cell 4;have k4:=r3.frozen 4;have g5:=r3.cell 5;have k5:=r3.frozen 5;have lt3:=r3.lt
 clear r1 r2 r3
 go_wp2_with fail
 (with_reducible refine (H2.out _).mono ?_)
 rintro e w4 ⟨rfl,rfl⟩
 go_wp2_with fail
 (with_reducible refine (H3.out _).mono ?_)
 rintro e w5 ⟨rfl,hb5⟩
 have HX5:=Z (HX3.out.trans (hb5.mono HX3.out.size))
 clear hb5
 obtain⟨r1,r2,r3⟩:=HQ.out _ HX5.out
 have e0:=r1.cell 0;have e1:=r1.cell 1;have e2:=r1.cell 2;have e3:=r1.cell 3;have e4:=r1.cell 4;have e5:=r1.cell 5;have e6:=r1.cell 6;have e7:=r1.cell 7;have e8:=r1.cell 8;have e9:=r1.cell 9;have f0:=r2.cell 0;have f1:=r2.cell 1;have g0:=r3.cell 0;have k0:=r3.frozen 0;have g1:=r3.cell 1;have k1:=r3.frozen 1;have g2:=r3.cell 2;have k2:=r3.frozen 2;have g3:=r3.cell 3;have k3:=r3.frozen 3;have g4:=r3.cell 4;have k4:=r3.frozen 4;have g5:=r3.cell 5;have k5:=r3.frozen 5;have lt3:=r3.lt
 clear r1 r2 r3
 go_wp2_with fail
 (with_reducible refine (H4.out _ HX5.out).mono ?_)
 rintro e w6 ⟨k,rfl,hk,hR,hb6⟩
 have HR6:=Z hR
 have HX6:=Z (HX5.out.trans (hb6.mono HX5.out.size))
 clear hk hR hb6
 obtain⟨r1,r2,r3⟩:=HQ.out _ HX6.out
 have e0:=r1.cell 0;have e1:=r1.cell 1;have e2:=r1.cell 2;have e3:=r1.cell 3;have e4:=r1.cell 4;have e5:=r1.cell 5;have e6:=r1.cell 6;have e7:=r1.cell 7;have e8:=r1.cell 8;have e9:=r1.cell 9;have f0:=r2.cell 0;have f1:=r2.cell 1;have g0:=r3.cell 0;have k0:=r3.frozen 0;have g1:=r3.cell 1;have k1:=r3.frozen 1;have g2:=r3.cell 2;have k2:=r3.frozen 2;have g3:=r3.cell 3;have k3:=r3.frozen 3;have g4:=r3.cell 4;have k4:=r3.frozen 4;have g5:=r3.cell 5;have k5:=r3.frozen 5;have lt3:=r3.lt
 clear r1 r2 r3
 go_wp2_with fail
 (with_reducible refine (H5.out _ _ HR6.out).mono ?_)
 rintro e w7 ⟨rfl,hb7⟩
 have HR7:=Z (HR6.out.below hb7 HR6.out.lt)
 have HX7:=Z (HX6.out.trans (hb7.mono HX6.out.size))
 clear hb7
 obtain⟨r1,r2,r3⟩:=HQ.out _ HX7.out
 have e0:=r1.cell 0;have e1:=r1.cell 1;have e2:=r1.cell 2;have e3:=r1.cell 3;have e4:=r1.cell 4;have e5:=r1.cell 5;have e6:=r1.cell 6;have e7:=r1.cell 7;have e8:=r1.cell 8;have e9:=r1.cell 9;have f0:=r2.cell 0;have f1:=r2.cell 1;have g0:=r3.cell 0;have k0:=r3.frozen 0;have g1:=r3.cell 1;have k1:=r3.frozen 1;have g2:=r3.cell 2;have k2:=r3.frozen 2;have g3:=r3.cell 3;have k3:=r3.frozen 3;have g4:=r3.cell 4;have k4:=r3.frozen 4;have g5:=r3.cell 5;have k5:=r3.frozen 5;have lt3:=r3.lt
 clear r1 r2 r3
 go_wp2_with fail
 have q9:=Rw.new w7 #[O U P,O U B,O U D,O U H,O U m,O U q] 87
 have hxa:=HX7.out.alloc HX7.out.size (.cells #[O U P,O U B,O U D,O U H,O U m,O U q] 87)
 have hra:=HR7.out.alloc (.cells #[O U P,O U B,O U D,O U H,O U m,O U q] 87)
 obtain⟨W8,hW8⟩:∃z,w7.alloc (.cells #[O U P,O U B,O U D,O U H,O U m,O U q] 87)=z:=⟨_,rfl⟩
 rw [hW8] at q9 hxa hra ⊢
 have HX8:=Z hxa
 have HNQ:=Z (show w.heap.size+1+1≠w7.heap.size from by have:=(HQ.out _ HX7.out).2.2.lt;omega)
 obtain⟨r1,r2,r3⟩:=HQ.out _ HX8.out
 have e0:=r1.cell 0;have e1:=r1.cell 1;have e2:=r1.cell 2;have e3:=r1.cell 3;have e4:=r1.cell 4;have e5:=r1.cell 5;have e6:=r1.cell 6;have e7:=r1.cell 7;have e8:=r1.cell 8;have e9:=r1.cell 9;have f0:=r2.cell 0;have f1:=r2.cell 1;have g0:=r3.cell 0;have k0:=r3.frozen 0;have g1:=r3.cell 1;have k1:=r3.frozen 1;have g2:=r3.cell 2;have k2:=r3.frozen 2;have g3:=r3.cell 3;have k3:=r3.frozen 3;have g4:=r3.cell 4;have k4:=r3.frozen 4;have g5:=r3.cell 5;have k5:=r3.frozen 5;have lt3:=r3.lt
 clear r1 r2 r3
 have n0:=q9.cell 0;have o0:=q9.frozen 0;have n1:=q9.cell 1;have o1:=q9.frozen 1;have n2:=q9.cell 2;have o2:=q9.frozen 2;have n3:=q9.cell 3;have o3:=q9.frozen 3;have n4:=q9.cell 4;have o4:=q9.frozen 4;have n5:=q9.cell 5;have o5:=q9.frozen 5
 by_cases hq1:q≤25000 * t.mass
 ·have h6:=H6.out _ _ hra
  rw [decide_eq_true hq1] at h6
  clear hra hxa q9 hW8
  (with_reducible refine h6.mono ?_)
  rintro e w8 ⟨rfl,rfl⟩
  by_cases hq2:y+q≤10000000000000000
  ·have hq3:¬10000000000000000<y+q:=by omega
   have HE:=Z (show mkS t m y d sl st=#[O U P,O U B,O U D,O U H,O U m,O U q]∧mkE t m y d sl st=0 from by
    have h:=H7.out.1
    rw [if_pos ⟨hq1,hq2⟩] at h
    have h2:=H7.out.2
    rw [if_pos h] at h2
    exact⟨h2,h⟩)
   go_wp2
   (try simp only [Exit.inBlock,Exit.then])
   have hr:=(((((((HQ.out _ HX8.out).2.2.set 0 (O U P)).set 1 (O U B)).set 2 (O U D)).set 3 (O U H)).set 4 (O U m)).set 5 (O U q))
   refine bodyPost_ret (res_ct rfl _ _ _ _ _ _ _ rfl rfl hr Tryz.underlying87 rfl (by kernel_rfl)) rfl ⟨by rw [HE.out.1,HE.out.2];rfl, ?_⟩
   have HZ:=HB1.out.size;have HY:=HX8.out.size
   exact (((((((HB1.out.trans (HX8.out.mono HB1.out.size)).setCell (by simp <;> omega) _).setCell (by simp <;> omega) _).setCell (by simp <;> omega) _).setCell (by simp <;> omega) _).setCell (by simp <;> omega) _).setCell (by simp <;> omega) _)
  ·have hq3:10000000000000000<y+q:=by omega
   have HE:=Z (show mkS t m y d sl st=#[O U 0,O U 0,O U 0,O U 0,O U 0,O U 0]∧mkE t m y d sl st=3 from by
    have h:=H7.out.1
    rw [if_neg (fun hh=>hq2 hh.2)] at h
    have h2:=H7.out.2
    rw [if_neg (by rw [h];decide)] at h2
    exact⟨h2,h⟩)
   go_wp2
   (try simp only [Exit.inBlock,Exit.then])
   have hr:=(((((((HQ.out _ HX8.out).2.2.set 0 (O U 0)).set 1 (O U 0)).set 2 (O U 0)).set 3 (O U 0)).set 4 (O U 0)).set 5 (O U 0))
   refine bodyPost_ret (res_ct rfl _ _ _ _ _ _ _ rfl rfl hr Tryz.underlying87 rfl (by kernel_rfl)) rfl ⟨by rw [HE.out.1,HE.out.2];rfl, ?_⟩
   have HZ:=HB1.out.size;have HY:=HX8.out.size
   exact (((((((HB1.out.trans (HX8.out.mono HB1.out.size)).setCell (by simp <;> omega) _).setCell (by simp <;> omega) _).setCell (by simp <;> omega) _).setCell (by simp <;> omega) _).setCell (by simp <;> omega) _).setCell (by simp <;> omega) _)
 ·have h6:=H6.out _ _ hra
  rw [decide_eq_false hq1] at h6
  clear hra hxa q9 hW8
  (with_reducible refine h6.mono ?_)
  rintro e w8 ⟨rfl,rfl⟩
  have HE:=Z (show mkS t m y d sl st=#[O U 0,O U 0,O U 0,O U 0,O U 0,O U 0]∧mkE t m y d sl st=3 from by
   have h:=H7.out.1
   rw [if_neg (fun hh=>hq1 hh.1)] at h
   have h2:=H7.out.2
   rw [if_neg (by rw [h];decide)] at h2
   exact⟨h2,h⟩)
  go_wp2
  (try simp only [Exit.inBlock,Exit.then])
  have hr:=(((((((HQ.out _ HX8.out).2.2.set 0 (O U 0)).set 1 (O U 0)).set 2 (O U 0)).set 3 (O U 0)).set 4 (O U 0)).set 5 (O U 0))
  refine bodyPost_ret (res_ct rfl _ _ _ _ _ _ _ rfl rfl hr Tryz.underlying87 rfl (by kernel_rfl)) rfl ⟨by rw [HE.out.1,HE.out.2];rfl, ?_⟩
  have HZ:=HB1.out.size;have HY:=HX8.out.size
  exact (((((((HB1.out.trans (HX8.out.mono HB1.out.size)).setCell (by simp <;> omega) _).setCell (by simp <;> omega) _).setCell (by simp <;> omega) _).setCell (by simp <;> omega) _).setCell (by simp <;> omega) _).setCell (by simp <;> omega) _)
end Go.Proofs.YtfhkbbjddjddmaaGreat
