/- Contract: the reference's safe. -/
import Derived.Test.YtfhkbbjddjddmaaGreatM56
set_option linter.unusedVariables false
set_option linter.unusedSimpArgs false
open Go.Value renaming int→O
open Go.IntKind renaming i64→U
open Go.Lib renaming hid→Z
namespace Go.Proofs.YtfhkbbjddjddmaaGreat
open Go.RowKit Go.Shelf Go.Lib Go.BigFrame
theorem safeR_out {t:Tr} {a:Int} {sl lim:Int→Int} {s m y:Int} {f:Nat} (h:s<y / (10 * t.mass)∨lim (y / (10 * t.mass))<m / t.mass):safeR t a sl lim s f m y=false:=by
 have h2:(decide (s<y / (10 * t.mass)) || decide (lim (y / (10 * t.mass))<m / t.mass))=true:=by rw [Bool.or_eq_true,decide_eq_true_iff,decide_eq_true_iff];exact h
 cases f <;> (rw [safeR,if_pos h2])
section
variable {t:Tr} {a:Int} {sl lim:Int→Int} {s m y:Int} {f:Nat}
theorem safeR_no (h:¬(s<y / (10 * t.mass)∨lim (y / (10 * t.mass))<m / t.mass)):¬(decide (s<y / (10 * t.mass)) || decide (lim (y / (10 * t.mass))<m / t.mass))=true:=by rw [Bool.or_eq_true,decide_eq_true_iff,decide_eq_true_iff];exact h
theorem safeR_stand (h:¬(s<y / (10 * t.mass)∨lim (y / (10 * t.mass))<m / t.mass)) (h0:m=0):safeR t a sl lim s f m y=true:=by
 cases f <;> rw [safeR,if_neg (safeR_no h)]
 ·exact decide_eq_true h0
 ·rw [if_pos h0]
theorem safeR_late (h0:¬m=0):safeR t a sl lim s 0 m y=false:=by
 rw [safeR,decide_eq_false h0];simp
theorem safeR_fail (h0:¬m=0) (hq:¬nextZ t a m (-4) (sl (y / (10 * t.mass)))≤25000 * t.mass):safeR t a sl lim s (f+1) m y=false:=by
 rw [safeR,if_neg h0,if_neg hq];simp
theorem safeR_go (h:¬(s<y / (10 * t.mass)∨lim (y / (10 * t.mass))<m / t.mass)) (h0:¬m=0) (hq:nextZ t a m (-4) (sl (y / (10 * t.mass)))≤25000 * t.mass) :
  safeR t a sl lim s (f+1) m y=safeR t a sl lim s f (nextZ t a m (-4) (sl (y / (10 * t.mass)))) (y+nextZ t a m (-4) (sl (y / (10 * t.mass)))):=by
 rw [safeR,if_neg (safeR_no h),if_neg h0,if_pos hq]
end
theorem slpR_bd {p:Pl} (hV:Vld p) (l:List E) (x:Int): -120≤slpR p l x∧slpR p l x≤120:=slpE_bd hV _
structure RfC (w:World) (A A2:Option Addr) (c c2:Nat) (p:Pl) (Aw:Option Addr) (cw n:Nat) (l:List E) (t:Tr) (At:Option Addr) (nt ct:Nat) (st:Int):Prop where
 pl:PlAt w w.heap.size A c A2 c2 p
 v:Vld p
 wy:Sl w w.heap.size 2 CE Aw l
 ln:l.length=n
 n1:1≤n
 n2:n≤2000
 rl:∀e∈l,0≤e.rail∧e.rail<(p.rails.length:Int)
 tr:TrOk t
 gn:t.grip.length=nt
 gp:Sl w w.heap.size 1 CI At t.grip
 s0:0≤st
 s1:st<(nt:Int)
section
variable {w:World} {A A2:Option Addr} {c c2:Nat} {p:Pl} {Aw:Option Addr} {cw n:Nat} {l:List E} {t:Tr} {At:Option Addr} {nt ct:Nat} {st:Int}
theorem RfC.below (h:RfC w A A2 c c2 p Aw cw n l t At nt ct st) {w':World} (hb:Below w.heap.size w w'):RfC w' A A2 c c2 p Aw cw n l t At nt ct st:=
 ⟨(h.pl.below hb).more hb.size,h.v,(h.wy.below hb).more (fun _ _ h=>h) hb.size,h.ln,h.n1,h.n2,h.rl,h.tr,h.gn,(h.gp.below hb).more (fun _ _ h=>h) hb.size,h.s0,h.s1⟩
theorem RfC.fine (h:RfC w A A2 c c2 p Aw cw n l t At nt ct st) {m y d x:Int} (m0:0≤m) (m1:m≤25000 * t.mass) (y0:0≤y) (y1:y≤20000000000000000) (d0: -4≤d) (d1:d≤4):FineOk t m y d (slpR p l x) st:=by
 have hs:=slpR_bd h.v l x
 have h0:=h.s0;have h1:=h.s1;have hg:=h.gn
 obtain⟨i,rfl⟩:=Int.eq_ofNat_of_zero_le h0
 have hi:i<t.grip.length:=by omega
 have hgs:=h.tr.gs t.grip[i] (List.getElem_mem _)
 have hgz:gripZ t (i:Int)=t.grip[i]:=by unfold gripZ;simp [List.getD_eq_getElem?_getD,List.getElem?_eq_getElem hi]
 exact⟨h.tr,m0,m1,y0,y1,d0,d1,hs.1,hs.2,h0,by simp [hgz,List.getElem?_eq_getElem hi],by rw [hgz];exact hgs.1,by rw [hgz];exact hgs.2⟩
theorem RfC.place (h:RfC w A A2 c c2 p Aw cw n l t At nt ct st) (m y:Int) (y0:0≤y) (y1:y≤20000000000000000):Calls Tryz.prog 53 #[.agg #[O U t.mass,O U t.len,O U t.speed,O U t.effort,O U t.brake,O U t.power,O U t.resist,O U t.rise,O U t.back,.slice At nt ct],.agg #[O U m,O U y]] w fun e w'=>e= .returned (O U (y / (10 * t.mass)))∧Below w.heap.size w w':=rPlace_any At ct nt t m y w h.tr y0 y1
theorem RfC.slope (h:RfC w A A2 c c2 p Aw cw n l t At nt ct st) (stop x:Int):Calls Tryz.prog 65 #[.agg #[.slice A p.nodes.length c,.slice A2 p.rails.length c2,.slice Aw n cw,O U t.mass,O U t.len,O U t.speed,O U t.effort,O U t.brake,O U t.power,O U t.resist,O U t.rise,O U t.back,.slice At nt ct,O U st,O U stop],O U x] w fun e w'=>e= .returned (O U (slpR p l x))∧Below w.heap.size w w':=rslope_any A A2 c c2 p Aw cw n l t At nt ct st stop x w h.pl h.v h.wy h.ln h.n1 h.n2 h.rl
theorem RfC.limit (h:RfC w A A2 c c2 p Aw cw n l t At nt ct st) (x:Int) (h1:t.len≤x) (h2:x≤10000000000000):Calls Tryz.prog 115 #[.agg #[.slice A p.nodes.length c,.slice A2 p.rails.length c2],.slice Aw n cw,.agg #[O U t.mass,O U t.len,O U t.speed,O U t.effort,O U t.brake,O U t.power,O U t.resist,O U t.rise,O U t.back,.slice At nt ct],O U x] w fun e w'=>e= .returned (O U (limR p l t x))∧Below w.heap.size w w':=rLimit_any A A2 c c2 p Aw cw n l t At nt ct x w h.pl h.v h.wy h.ln h.n1 h.n2 h.rl h.tr h1 h2
theorem RfC.step (h:RfC w A A2 c c2 p Aw cw n l t At nt ct st) (m y d x:Int) (m0:0≤m) (m1:m≤25000 * t.mass) (y0:0≤y) (y1:y≤20000000000000000) (d0: -4≤d) (d1:d≤4) :
  Calls Tryz.prog 23 #[.agg #[O U t.mass,O U t.len,O U t.speed,O U t.effort,O U t.brake,O U t.power,O U t.resist,O U t.rise,O U t.back,.slice At nt ct],.agg #[O U m,O U y],O U d,O U (slpR p l x),O U st] w fun e w'=>e= .returned (.tuple #[.agg #[O U (mkQ t m d (slpR p l x) st),O U (y+mkQ t m d (slpR p l x) st)],.agg (fLg (mkL t m d (slpR p l x) st)),.bool (decide (mkQ t m d (slpR p l x) st≤25000 * t.mass))])∧Below w.heap.size w w':=
 rStep_any At ct nt t m y d (slpR p l x) st w h.gn (by have:=h.tr.g2;have:=h.gn;omega) h.gp (h.fine m0 m1 y0 y1 d0 d1)
end
set_option maxRecDepth 100000 in
set_option maxHeartbeats 4000000 in
theorem rsafe_any (A A2:Option Addr) (c c2:Nat) (p:Pl) (Aw:Option Addr) (cw n:Nat) (l:List E) (t:Tr) (At:Option Addr) (nt ct:Nat) (st stop m y:Int) (w:World) (hC:RfC w A A2 c c2 p Aw cw n l t At nt ct st) (hs:stop≤3000000000000) (m0:0≤m) (m1:m≤25000 * t.mass) (y0:0≤y) (y1:y≤10100000000000000) (hl:t.len≤y / (10 * t.mass)) :
  Calls Tryz.prog 97 #[.agg #[.slice A p.nodes.length c,.slice A2 p.rails.length c2,.slice Aw n cw,O U t.mass,O U t.len,O U t.speed,O U t.effort,O U t.brake,O U t.power,O U t.resist,O U t.rise,O U t.back,.slice At nt ct,O U st,O U stop],.agg #[O U m,O U y]] w fun e w'=>e= .returned (.bool (safeR t (adhZ t (gripZ t st)) (slpR p l) (limR p l t) stop 36000 m y))∧Below w.heap.size w w':=by
 have hb1:=((Below.refl w.heap.size w).alloc (Nat.le_refl _) (.cells #[.slice A p.nodes.length c,.slice A2 p.rails.length c2,.slice Aw n cw,O U t.mass,O U t.len,O U t.speed,O U t.effort,O U t.brake,O U t.power,O U t.resist,O U t.rise,O U t.back,.slice At nt ct,O U st,O U stop] 115)).alloc (by simp) (.cells #[O U m,O U y] 35)
 obtain⟨q1,q2⟩:=rows2 w #[.slice A p.nodes.length c,.slice A2 p.rails.length c2,.slice Aw n cw,O U t.mass,O U t.len,O U t.speed,O U t.effort,O U t.brake,O U t.power,O U t.resist,O U t.rise,O U t.back,.slice At nt ct,O U st,O U stop] #[O U m,O U y] 115 35
 have hz1:((w.alloc (.cells #[.slice A p.nodes.length c,.slice A2 p.rails.length c2,.slice Aw n cw,O U t.mass,O U t.len,O U t.speed,O U t.effort,O U t.brake,O U t.power,O U t.resist,O U t.rise,O U t.back,.slice At nt ct,O U st,O U stop] 115)).alloc (.cells #[O U m,O U y] 35)).heap.size=w.heap.size+2:=by simp
 obtain⟨W1,hW1⟩:∃z,(w.alloc (.cells #[.slice A p.nodes.length c,.slice A2 p.rails.length c2,.slice Aw n cw,O U t.mass,O U t.len,O U t.speed,O U t.effort,O U t.brake,O U t.power,O U t.resist,O U t.rise,O U t.back,.slice At nt ct,O U st,O U stop] 115)).alloc (.cells #[O U m,O U y] 35)=z:=⟨_,rfl⟩
 rw [hW1] at hb1 q1 q2 hz1
 obtain⟨B0,hB0⟩:∃B,w.heap.size=B:=⟨_,rfl⟩
 obtain⟨a,ha⟩:∃a,adhZ t (gripZ t st)=a:=⟨_,rfl⟩
 rw [ha]
 obtain⟨R,hR⟩:∃R,safeR t a (slpR p l) (limR p l t) stop 36000 m y=R:=⟨_,rfl⟩
 rw [hR]
 have HBE:=Z hB0
 rw [hB0] at q1 q2 hz1
 have HB1:=Z hb1;have HAE:=Z ha;have HCX:=Z hC;have HZ1:=Z hz1
 have HQ1:=Z q1;have HQ2:=Z q2
 have HI:=Z (show safeR t a (slpR p l) (limR p l t) stop (36000 - 0) m y=R from hR)
 have HCB:=Z (show ∀wx,Below w.heap.size w wx→RfC wx A A2 c c2 p Aw cw n l t At nt ct st from fun wx h=>hC.below h)
 have HSTP:=Z hs
 have HIN:=Z (And.intro m0 (And.intro m1 (And.intro y0 (And.intro y1 hl))))
 clear hb1 q1 q2 hC ha hR hz1 hs m0 m1 y0 y1 hl
 go_enter Tryz.func97,Tryz.ntmps97
 go_wp2
 clear hW1 hB0
 go_loopw [5] (fun s5 wr=>∃(k:Nat) (m y:Int),k≤36000∧s5=O U (k:Int)∧Rw wr (B0+1) 35 #[O U m,O U y]∧0≤m∧m≤25000 * t.mass∧0≤y∧y≤10100000000000000+(k:Int) * 2100000000∧t.len≤y / (10 * t.mass)∧safeR t a (slpR p l) (limR p l t) stop (36000 - k) m y=R∧Below w.heap.size w wr∧W1.heap.size≤wr.heap.size∧Rw wr B0 115 #[.slice A p.nodes.length c,.slice A2 p.rails.length c2,.slice Aw n cw,O U t.mass,O U t.len,O U t.speed,O U t.effort,O U t.brake,O U t.power,O U t.resist,O U t.rise,O U t.back,.slice At nt ct,O U st,O U stop]) (fun s5 _=>36001 - (intOf s5).toNat)
 case atStart=>exact⟨0,m,y,by omega,rfl,HQ2.out,HIN.out.1,HIN.out.2.1,HIN.out.2.2.1,by have:=HIN.out.2.2.2.1;omega,HIN.out.2.2.2.2,HI.out,HB1.out,Nat.le_refl _,HQ1.out⟩
 case round=>
  obtain⟨k,m,y,hk,rfl,hx,m0,m1,y0,y1,hlp,hR,hbr,hzr,hrv⟩:=hrel
  have HRR:=Z hR;have HKK:=Z hk
  have HBR:=Z (show Below w.heap.size w wr∧W1.heap.size≤wr.heap.size∧w.heap.size≤wr.heap.size from⟨hbr,hzr,hbr.size⟩)
  have HM:=Z (show 0≤m∧m≤25000 * t.mass∧0≤y∧y≤10100000000000000+(k:Int) * 2100000000∧t.len≤y / (10 * t.mass) from⟨m0,m1,y0,y1,hlp⟩)
  obtain⟨pl,hpl⟩:∃z,y / (10 * t.mass)=z:=⟨_,rfl⟩
  obtain⟨lm,hlm⟩:∃z,limR p l t pl=z:=⟨_,rfl⟩
  obtain⟨sp,hsp⟩:∃z,m / t.mass=z:=⟨_,rfl⟩
  have HPE:=Z hpl;have HLE:=Z hlm;have HSP:=Z hsp
  have HSD:=Z (show wrap64 (m.tdiv t.mass)=sp from by rw [←hsp];exact wrapDiv m0 (by have:=HCX.out.tr.m2;omega) (by have:=HCX.out.tr.m1;omega))
  have HSD2:=Z (show IntKind.i64.wrap (m.tdiv t.mass)=sp from by rw [IntKind.wrap_i64];have:=HSD.out;unfold wrap64 at this;exact this)
  have HM0:=Z (show ¬t.mass=0 from by have:=HCX.out.tr.m1;omega)
  have HSR:=Z (show ∀wx,Below wr.heap.size wr wx→Rw wx B0 115 #[.slice A p.nodes.length c,.slice A2 p.rails.length c2,.slice Aw n cw,O U t.mass,O U t.len,O U t.speed,O U t.effort,O U t.brake,O U t.power,O U t.resist,O U t.rise,O U t.back,.slice At nt ct,O U st,O U stop]∧Rw wx (B0+1) 35 #[O U m,O U y] from fun wx h=>⟨hrv.below h hrv.lt,hx.below h hx.lt⟩)
  have HSK:=HSR
  have HCW:=Z (show ∀wx,Below wr.heap.size wr wx→RfC wx A A2 c c2 p Aw cw n l t At nt ct st from fun wx h=>HCB.out wx (hbr.trans (h.mono hbr.size)))
  have HPL:=Z (show ∀wx,Below wr.heap.size wr wx→Calls Tryz.prog 53 #[.agg #[O U t.mass,O U t.len,O U t.speed,O U t.effort,O U t.brake,O U t.power,O U t.resist,O U t.rise,O U t.back,.slice At nt ct],.agg #[O U m,O U y]] wx fun e w'=>e= .returned (O U pl)∧Below wx.heap.size wx w' from fun wx h=>by
   have:=(HCW.out wx h).place m y y0 (by omega)
   rwa [hpl] at this)
  clear hk hx m0 m1 y0 y1 hlp hR hbr hzr hrv hsp
  go_upto_region 3 with (fail)
  have hbq:Below wr.heap.size wr wr.drew:=(Below.refl _ _).drew
  have HS:=Z (HSK.out _ hbq)
  by_cases hps:stop<pl
  ·have HPS:=Z hps
   have HRF:=Z (show R=false from by rw [←HRR.out];exact safeR_out (.inl (by rw [HPE.out];exact HPS.out)))
   clear hps hpl hlm
   refine wp_region_held_drew (S:=fun wx=>Rw wx B0 115 #[.slice A p.nodes.length c,.slice A2 p.rails.length c2,.slice Aw n cw,O U t.mass,O U t.len,O U t.speed,O U t.effort,O U t.brake,O U t.power,O U t.resist,O U t.rise,O U t.back,.slice At nt ct,O U st,O U stop]∧Rw wx (B0+1) 35 #[O U m,O U y]) (by kernel_rfl) HS.out (fun _=> ?_)
   refine hTk (i:=0) (d:=9) (v:= .pointer (some ⟨B0,3,none⟩)) rfl rfl (Or.inl ⟨rfl,by rintro W' ⟨s0,s1⟩;have y:=s0.cell;have x:=s1.cell;have hps:=HPS.out;go_simp⟩) HS.out ?_
   simp only [Act.put,sB,sZ,sS]
   refine hTk (i:=1) (d:=10) (v:= .agg #[O U t.mass,O U t.len,O U t.speed,O U t.effort,O U t.brake,O U t.power,O U t.resist,O U t.rise,O U t.back,.slice At nt ct]) rfl rfl (Or.inl ⟨rfl,by rintro W' ⟨s0,s1⟩;have y:=s0.cell;have x:=s1.cell;have hps:=HPS.out;go_simp⟩) HS.out ?_
   simp only [Act.put,sB,sZ,sS]
   refine hTk (i:=2) (d:=11) (v:= .agg #[O U m,O U y]) rfl rfl (Or.inl ⟨rfl,by rintro W' ⟨s0,s1⟩;have y:=s0.cell;have x:=s1.cell;have hps:=HPS.out;go_simp⟩) HS.out ?_
   simp only [Act.put,sB,sZ,sS]
   refine hTk (i:=4) (d:=13) (v:= .pointer (some ⟨B0,14,none⟩)) rfl rfl (Or.inl ⟨rfl,by rintro W' ⟨s0,s1⟩;have y:=s0.cell;have x:=s1.cell;have hps:=HPS.out;go_simp⟩) HS.out ?_
   simp only [Act.put,sB,sZ,sS]
   refine hTk (i:=5) (d:=14) (v:=O U stop) rfl rfl (Or.inl ⟨rfl,by rintro W' ⟨s0,s1⟩;have y:=s0.cell;have x:=s1.cell;have hps:=HPS.out;go_simp⟩) HS.out ?_
   simp only [Act.put,sB,sZ,sS]
   refine wpAnyH_ready (rs:= [3]) (by kernel_rfl) (by simp) ?_
   refine AllReadyH.cons rfl (fun K hK=> ?_) AllReadyH.nil
   rw [if_pos (by rfl)]
   go_simp
   go_at_call 53
   (with_reducible refine (HPL.out _ hbq).mono ?_)
   rintro e w10 ⟨rfl,hbn⟩
   replace hbq:=hbq.trans (hbn.mono hbq.size)
   clear hbn
   have HS:=Z (HSK.out _ hbq)
   refine hK.out _ _ HS.out (fun _=> ?_)
   clear hK K
   try simp only [Act.put,sB,sZ,sS]
   refine hTk (i:=6) (d:=15) (v:= .bool true) rfl rfl (Or.inl ⟨rfl,by rintro W' ⟨s0,s1⟩;have y:=s0.cell;have x:=s1.cell;have hps:=HPS.out;go_simp⟩) HS.out ?_
   simp only [Act.put,sB,sZ,sS]
   refine hTk (i:=7) (d:=16) (v:= .bool true) rfl rfl (Or.inl ⟨rfl,by rintro W' ⟨s0,s1⟩;have y:=s0.cell;have x:=s1.cell;have hps:=HPS.out;go_simp⟩) HS.out ?_
   simp only [Act.put,sB,sZ,sS]
   refine hTk (i:=8) (d:=17) (v:=undef) rfl rfl (Or.inr ⟨rfl,rfl⟩) HS.out ?_
   simp only [Act.put,sB,sZ,sS]
   refine hTk (i:=9) (d:=18) (v:=undef) rfl rfl (Or.inr ⟨rfl,rfl⟩) HS.out ?_
   simp only [Act.put,sB,sZ,sS]
   refine hTk (i:=10) (d:=19) (v:=undef) rfl rfl (Or.inr ⟨rfl,rfl⟩) HS.out ?_
   simp only [Act.put,sB,sZ,sS]
   refine hTk (i:=11) (d:=20) (v:=undef) rfl rfl (Or.inr ⟨rfl,rfl⟩) HS.out ?_
   simp only [Act.put,sB,sZ,sS]
   refine hTk (i:=12) (d:=21) (v:=undef) rfl rfl (Or.inr ⟨rfl,rfl⟩) HS.out ?_
   simp only [Act.put,sB,sZ,sS]
   refine hTk (i:=13) (d:=22) (v:=undef) rfl rfl (Or.inr ⟨rfl,rfl⟩) HS.out ?_
   simp only [Act.put,sB,sZ,sS]
   refine hTk (i:=14) (d:=23) (v:=undef) rfl rfl (Or.inr ⟨rfl,rfl⟩) HS.out ?_
   simp only [Act.put,sB,sZ,sS]
   refine hTk (i:=15) (d:=24) (v:=undef) rfl rfl (Or.inr ⟨rfl,rfl⟩) HS.out ?_
   simp only [Act.put,sB,sZ,sS]
   refine hTk (i:=16) (d:=25) (v:=undef) rfl rfl (Or.inr ⟨rfl,rfl⟩) HS.out ?_
   simp only [Act.put,sB,sZ,sS]
   refine hTk (i:=17) (d:=26) (v:=undef) rfl rfl (Or.inr ⟨rfl,rfl⟩) HS.out ?_
   simp only [Act.put,sB,sZ,sS]
   refine hTk (i:=18) (d:=27) (v:=undef) rfl rfl (Or.inr ⟨rfl,rfl⟩) HS.out ?_
   simp only [Act.put,sB,sZ,sS]
   refine hTk (i:=19) (d:=28) (v:=undef) rfl rfl (Or.inr ⟨rfl,rfl⟩) HS.out ?_
   simp only [Act.put,sB,sZ,sS]
   refine hTk (i:=20) (d:=29) (v:=undef) rfl rfl (Or.inr ⟨rfl,rfl⟩) HS.out ?_
   simp only [Act.put,sB,sZ,sS]
   refine hTk (i:=21) (d:=30) (v:=undef) rfl rfl (Or.inr ⟨rfl,rfl⟩) HS.out ?_
   simp only [Act.put,sB,sZ,sS]
   refine hTk (i:=22) (d:=31) (v:=undef) rfl rfl (Or.inr ⟨rfl,rfl⟩) HS.out ?_
   simp only [Act.put,sB,sZ,sS]
   refine hTk (i:=23) (d:=32) (v:=undef) rfl rfl (Or.inr ⟨rfl,rfl⟩) HS.out ?_
   simp only [Act.put,sB,sZ,sS]
   refine hTk (i:=24) (d:=33) (v:=undef) rfl rfl (Or.inr ⟨rfl,rfl⟩) HS.out ?_
   simp only [Act.put,sB,sZ,sS]
   refine hTk (i:=25) (d:=34) (v:=undef) rfl rfl (Or.inr ⟨rfl,rfl⟩) HS.out ?_
   simp only [Act.put,sB,sZ,sS]
   refine hTk (i:=26) (d:=35) (v:= .bool true) rfl rfl (Or.inl ⟨rfl,by rintro W' ⟨s0,s1⟩;have y:=s0.cell;have x:=s1.cell;have hps:=HPS.out;go_simp⟩) HS.out ?_
   simp only [Act.put,sB,sZ,sS]
   refine wpAnyH_done (by kernel_rfl) ?_ _
   have HBF:=Z (HBR.out.1.trans (hbq.mono HBR.out.2.2))
   clear hbq HS
   go_wp2
   go_ret
   exact⟨by rw [HRF.out];rfl,HBF.out⟩
  ·have HPS:=Z hps
   obtain⟨bb,hbb⟩:∃b,decide (lm<sp)=b:=⟨_,rfl⟩
   have HBB:=Z hbb
   have HLM:=Z (show ∀wx,Below wr.heap.size wr wx→Calls Tryz.prog 115 #[.agg #[.slice A p.nodes.length c,.slice A2 p.rails.length c2],.slice Aw n cw,.agg #[O U t.mass,O U t.len,O U t.speed,O U t.effort,O U t.brake,O U t.power,O U t.resist,O U t.rise,O U t.back,.slice At nt ct],O U pl] wx fun e w'=>e= .returned (O U lm)∧Below wx.heap.size wx w' from fun wx h=>by
    have:=(HCW.out wx h).limit pl (by rw [←hpl];exact HM.out.2.2.2.2) (by have:=HSTP.out;omega)
    rwa [hlm] at this)
   clear hps hpl hlm hbb
   refine wp_region_held_drew (S:=fun wx=>Rw wx B0 115 #[.slice A p.nodes.length c,.slice A2 p.rails.length c2,.slice Aw n cw,O U t.mass,O U t.len,O U t.speed,O U t.effort,O U t.brake,O U t.power,O U t.resist,O U t.rise,O U t.back,.slice At nt ct,O U st,O U stop]∧Rw wx (B0+1) 35 #[O U m,O U y]) (by kernel_rfl) HS.out (fun _=> ?_)
   refine hTk (i:=0) (d:=9) (v:= .pointer (some ⟨B0,3,none⟩)) rfl rfl (Or.inl ⟨rfl,by rintro W' ⟨s0,s1⟩;have y:=s0.cell;have x:=s1.cell;have hps:=HPS.out;have hbb:=HBB.out;have hm1:=HCX.out.tr.m1;have hqm:=HSD2.out;have hm0:=HM0.out;go_simp⟩) HS.out ?_
   simp only [Act.put,sB,sZ,sS]
   refine hTk (i:=1) (d:=10) (v:= .agg #[O U t.mass,O U t.len,O U t.speed,O U t.effort,O U t.brake,O U t.power,O U t.resist,O U t.rise,O U t.back,.slice At nt ct]) rfl rfl (Or.inl ⟨rfl,by rintro W' ⟨s0,s1⟩;have y:=s0.cell;have x:=s1.cell;have hps:=HPS.out;have hbb:=HBB.out;have hm1:=HCX.out.tr.m1;have hqm:=HSD2.out;have hm0:=HM0.out;go_simp⟩) HS.out ?_
   simp only [Act.put,sB,sZ,sS]
   refine hTk (i:=2) (d:=11) (v:= .agg #[O U m,O U y]) rfl rfl (Or.inl ⟨rfl,by rintro W' ⟨s0,s1⟩;have y:=s0.cell;have x:=s1.cell;have hps:=HPS.out;have hbb:=HBB.out;have hm1:=HCX.out.tr.m1;have hqm:=HSD2.out;have hm0:=HM0.out;go_simp⟩) HS.out ?_
   simp only [Act.put,sB,sZ,sS]
   refine hTk (i:=4) (d:=13) (v:= .pointer (some ⟨B0,14,none⟩)) rfl rfl (Or.inl ⟨rfl,by rintro W' ⟨s0,s1⟩;have y:=s0.cell;have x:=s1.cell;have hps:=HPS.out;have hbb:=HBB.out;have hm1:=HCX.out.tr.m1;have hqm:=HSD2.out;have hm0:=HM0.out;go_simp⟩) HS.out ?_
   simp only [Act.put,sB,sZ,sS]
   refine hTk (i:=5) (d:=14) (v:=O U stop) rfl rfl (Or.inl ⟨rfl,by rintro W' ⟨s0,s1⟩;have y:=s0.cell;have x:=s1.cell;have hps:=HPS.out;have hbb:=HBB.out;have hm1:=HCX.out.tr.m1;have hqm:=HSD2.out;have hm0:=HM0.out;go_simp⟩) HS.out ?_
   simp only [Act.put,sB,sZ,sS]
   refine wpAnyH_ready (rs:= [3]) (by kernel_rfl) (by simp) ?_
   refine AllReadyH.cons rfl (fun K hK=> ?_) AllReadyH.nil
   rw [if_pos (by rfl)]
   go_simp
   go_at_call 53
   (with_reducible refine (HPL.out _ hbq).mono ?_)
   rintro e w10 ⟨rfl,hbn⟩
   replace hbq:=hbq.trans (hbn.mono hbq.size)
   clear hbn
   have HS:=Z (HSK.out _ hbq)
   refine hK.out _ _ HS.out (fun _=> ?_)
   clear hK K
   try simp only [Act.put,sB,sZ,sS]
   refine hTk (i:=6) (d:=15) (v:= .bool false) rfl rfl (Or.inl ⟨rfl,by rintro W' ⟨s0,s1⟩;have y:=s0.cell;have x:=s1.cell;have hps:=HPS.out;have hbb:=HBB.out;have hm1:=HCX.out.tr.m1;have hqm:=HSD2.out;have hm0:=HM0.out;go_simp⟩) HS.out ?_
   simp only [Act.put,sB,sZ,sS]
   refine hTk (i:=7) (d:=16) (v:= .bool false) rfl rfl (Or.inl ⟨rfl,by rintro W' ⟨s0,s1⟩;have y:=s0.cell;have x:=s1.cell;have hps:=HPS.out;have hbb:=HBB.out;have hm1:=HCX.out.tr.m1;have hqm:=HSD2.out;have hm0:=HM0.out;go_simp⟩) HS.out ?_
   simp only [Act.put,sB,sZ,sS]
   refine hTk (i:=8) (d:=17) (v:= .pointer (some ⟨B0+1,0,none⟩)) rfl rfl (Or.inl ⟨rfl,by rintro W' ⟨s0,s1⟩;have y:=s0.cell;have x:=s1.cell;have hps:=HPS.out;have hbb:=HBB.out;have hm1:=HCX.out.tr.m1;have hqm:=HSD2.out;have hm0:=HM0.out;go_simp⟩) HS.out ?_
   simp only [Act.put,sB,sZ,sS]
   refine hTk (i:=9) (d:=18) (v:=O U m) rfl rfl (Or.inl ⟨rfl,by rintro W' ⟨s0,s1⟩;have y:=s0.cell;have x:=s1.cell;have hps:=HPS.out;have hbb:=HBB.out;have hm1:=HCX.out.tr.m1;have hqm:=HSD2.out;have hm0:=HM0.out;go_simp⟩) HS.out ?_
   simp only [Act.put,sB,sZ,sS]
   refine hTk (i:=10) (d:=19) (v:= .pointer (some ⟨B0,3,none⟩)) rfl rfl (Or.inl ⟨rfl,by rintro W' ⟨s0,s1⟩;have y:=s0.cell;have x:=s1.cell;have hps:=HPS.out;have hbb:=HBB.out;have hm1:=HCX.out.tr.m1;have hqm:=HSD2.out;have hm0:=HM0.out;go_simp⟩) HS.out ?_
   simp only [Act.put,sB,sZ,sS]
   refine hTk (i:=11) (d:=20) (v:= .pointer (some ⟨B0,3,none⟩)) rfl rfl (Or.inl ⟨rfl,by rintro W' ⟨s0,s1⟩;have y:=s0.cell;have x:=s1.cell;have hps:=HPS.out;have hbb:=HBB.out;have hm1:=HCX.out.tr.m1;have hqm:=HSD2.out;have hm0:=HM0.out;go_simp⟩) HS.out ?_
   simp only [Act.put,sB,sZ,sS]
   refine hTk (i:=12) (d:=21) (v:=O U t.mass) rfl rfl (Or.inl ⟨rfl,by rintro W' ⟨s0,s1⟩;have y:=s0.cell;have x:=s1.cell;have hps:=HPS.out;have hbb:=HBB.out;have hm1:=HCX.out.tr.m1;have hqm:=HSD2.out;have hm0:=HM0.out;go_simp⟩) HS.out ?_
   simp only [Act.put,sB,sZ,sS]
   refine hTk (i:=13) (d:=22) (v:=O U sp) rfl rfl (Or.inl ⟨rfl,by rintro W' ⟨s0,s1⟩;have y:=s0.cell;have x:=s1.cell;have hps:=HPS.out;have hbb:=HBB.out;have hm1:=HCX.out.tr.m1;have hqm:=HSD2.out;have hm0:=HM0.out;go_simp⟩) HS.out ?_
   simp only [Act.put,sB,sZ,sS]
   refine hTk (i:=14) (d:=23) (v:= .pointer (some ⟨B0,0,none⟩)) rfl rfl (Or.inl ⟨rfl,by rintro W' ⟨s0,s1⟩;have y:=s0.cell;have x:=s1.cell;have hps:=HPS.out;have hbb:=HBB.out;have hm1:=HCX.out.tr.m1;have hqm:=HSD2.out;have hm0:=HM0.out;go_simp⟩) HS.out ?_
   simp only [Act.put,sB,sZ,sS]
   refine hTk (i:=15) (d:=24) (v:= .agg #[.slice A p.nodes.length c,.slice A2 p.rails.length c2]) rfl rfl (Or.inl ⟨rfl,by rintro W' ⟨s0,s1⟩;have y:=s0.cell;have x:=s1.cell;have hps:=HPS.out;have hbb:=HBB.out;have hm1:=HCX.out.tr.m1;have hqm:=HSD2.out;have hm0:=HM0.out;go_simp⟩) HS.out ?_
   simp only [Act.put,sB,sZ,sS]
   refine hTk (i:=16) (d:=25) (v:= .pointer (some ⟨B0,2,none⟩)) rfl rfl (Or.inl ⟨rfl,by rintro W' ⟨s0,s1⟩;have y:=s0.cell;have x:=s1.cell;have hps:=HPS.out;have hbb:=HBB.out;have hm1:=HCX.out.tr.m1;have hqm:=HSD2.out;have hm0:=HM0.out;go_simp⟩) HS.out ?_
   simp only [Act.put,sB,sZ,sS]
   refine hTk (i:=17) (d:=26) (v:= .slice Aw n cw) rfl rfl (Or.inl ⟨rfl,by rintro W' ⟨s0,s1⟩;have y:=s0.cell;have x:=s1.cell;have hps:=HPS.out;have hbb:=HBB.out;have hm1:=HCX.out.tr.m1;have hqm:=HSD2.out;have hm0:=HM0.out;go_simp⟩) HS.out ?_
   simp only [Act.put,sB,sZ,sS]
   refine hTk (i:=18) (d:=27) (v:= .pointer (some ⟨B0,3,none⟩)) rfl rfl (Or.inl ⟨rfl,by rintro W' ⟨s0,s1⟩;have y:=s0.cell;have x:=s1.cell;have hps:=HPS.out;have hbb:=HBB.out;have hm1:=HCX.out.tr.m1;have hqm:=HSD2.out;have hm0:=HM0.out;go_simp⟩) HS.out ?_
   simp only [Act.put,sB,sZ,sS]
   refine hTk (i:=19) (d:=28) (v:= .agg #[O U t.mass,O U t.len,O U t.speed,O U t.effort,O U t.brake,O U t.power,O U t.resist,O U t.rise,O U t.back,.slice At nt ct]) rfl rfl (Or.inl ⟨rfl,by rintro W' ⟨s0,s1⟩;have y:=s0.cell;have x:=s1.cell;have hps:=HPS.out;have hbb:=HBB.out;have hm1:=HCX.out.tr.m1;have hqm:=HSD2.out;have hm0:=HM0.out;go_simp⟩) HS.out ?_
   simp only [Act.put,sB,sZ,sS]
   refine hTk (i:=20) (d:=29) (v:= .pointer (some ⟨B0,3,none⟩)) rfl rfl (Or.inl ⟨rfl,by rintro W' ⟨s0,s1⟩;have y:=s0.cell;have x:=s1.cell;have hps:=HPS.out;have hbb:=HBB.out;have hm1:=HCX.out.tr.m1;have hqm:=HSD2.out;have hm0:=HM0.out;go_simp⟩) HS.out ?_
   simp only [Act.put,sB,sZ,sS]
   refine hTk (i:=21) (d:=30) (v:= .agg #[O U t.mass,O U t.len,O U t.speed,O U t.effort,O U t.brake,O U t.power,O U t.resist,O U t.rise,O U t.back,.slice At nt ct]) rfl rfl (Or.inl ⟨rfl,by rintro W' ⟨s0,s1⟩;have y:=s0.cell;have x:=s1.cell;have hps:=HPS.out;have hbb:=HBB.out;have hm1:=HCX.out.tr.m1;have hqm:=HSD2.out;have hm0:=HM0.out;go_simp⟩) HS.out ?_
   simp only [Act.put,sB,sZ,sS]
   refine hTk (i:=22) (d:=31) (v:= .agg #[O U m,O U y]) rfl rfl (Or.inl ⟨rfl,by rintro W' ⟨s0,s1⟩;have y:=s0.cell;have x:=s1.cell;have hps:=HPS.out;have hbb:=HBB.out;have hm1:=HCX.out.tr.m1;have hqm:=HSD2.out;have hm0:=HM0.out;go_simp⟩) HS.out ?_
   simp only [Act.put,sB,sZ,sS]
   refine wpAnyH_ready (rs:= [23]) (by kernel_rfl) (by simp) ?_
   refine AllReadyH.cons rfl (fun K hK=> ?_) AllReadyH.nil
   rw [if_pos (by rfl)]
   go_simp
   go_at_call 53
   (with_reducible refine (HPL.out _ hbq).mono ?_)
   rintro e w11 ⟨rfl,hbn⟩
   replace hbq:=hbq.trans (hbn.mono hbq.size)
   clear hbn
   have HS:=Z (HSK.out _ hbq)
   refine hK.out _ _ HS.out (fun _=> ?_)
   clear hK K
   try simp only [Act.put,sB,sZ,sS]
   refine wpAnyH_ready (rs:= [24]) (by kernel_rfl) (by simp) ?_
   refine AllReadyH.cons rfl (fun K hK=> ?_) AllReadyH.nil
   rw [if_pos (by rfl)]
   go_simp
   go_at_call 115
   (with_reducible refine (HLM.out _ hbq).mono ?_)
   rintro e w12 ⟨rfl,hbn⟩
   replace hbq:=hbq.trans (hbn.mono hbq.size)
   clear hbn
   have HS:=Z (HSK.out _ hbq)
   refine hK.out _ _ HS.out (fun _=> ?_)
   clear hK K
   try simp only [Act.put,sB,sZ,sS]
   refine hTk (i:=25) (d:=34) (v:= .bool bb) rfl rfl (Or.inl ⟨rfl,by rintro W' ⟨s0,s1⟩;have y:=s0.cell;have x:=s1.cell;have hps:=HPS.out;have hbb:=HBB.out;have hm1:=HCX.out.tr.m1;have hqm:=HSD2.out;have hm0:=HM0.out;go_simp⟩) HS.out ?_
   simp only [Act.put,sB,sZ,sS]
   refine hTk (i:=26) (d:=35) (v:= .bool bb) rfl rfl (Or.inl ⟨rfl,by rintro W' ⟨s0,s1⟩;have y:=s0.cell;have x:=s1.cell;have hps:=HPS.out;have hbb:=HBB.out;have hm1:=HCX.out.tr.m1;have hqm:=HSD2.out;have hm0:=HM0.out;go_simp⟩) HS.out ?_
   simp only [Act.put,sB,sZ,sS]
   refine wpAnyH_done (by kernel_rfl) ?_ _
   cases bb with
   | true=>
    have HRF:=Z (show R=false from by rw [←HRR.out];exact safeR_out (.inr (by have:=HBB.out;rw [HPE.out,HLE.out,HSP.out];exact of_decide_eq_true this)))
    have HBF:=Z (HBR.out.1.trans (hbq.mono HBR.out.2.2))
    clear hbq HS
    go_wp2
    go_ret
    exact⟨by rw [HRF.out];rfl,HBF.out⟩
   | false=>
    have hno:¬(stop<y / (10 * t.mass)∨limR p l t (y / (10 * t.mass))<m / t.mass):=by
     rw [HPE.out,HLE.out,HSP.out]
     have h1:=of_decide_eq_false HBB.out
     have h2:=HPS.out
     omega
    have HNO:=Z hno
    clear hno
    have x0:=HS.out.2.cell 0;have x1:=HS.out.2.cell 1
    by_cases h0:m=0
    ·have hb0:(m == 0)=true:=by rw [beq_iff_eq];exact h0
     have HRF:=Z (show R=true from by rw [←HRR.out];exact safeR_stand HNO.out h0)
     have HBF:=Z (HBR.out.1.trans (hbq.mono HBR.out.2.2))
     clear hbq HS h0
     go_wp2
     go_ret
     exact⟨by rw [HRF.out];rfl,HBF.out⟩
    ·have hb0:(m == 0)=false:=by rw [beq_eq_false_iff_ne];exact h0
     have H0:=Z h0
     clear h0
     by_cases hk36:k=36000
     ·have hbk:((k:Int) == 36000)=true:=by rw [beq_iff_eq];omega
      have HRF:=Z (show R=false from by rw [←HRR.out,hk36];exact safeR_late H0.out)
      have HBF:=Z (HBR.out.1.trans (hbq.mono HBR.out.2.2))
      clear hbq HS hk36
      go_wp2
      go_ret
      exact⟨by rw [HRF.out];rfl,HBF.out⟩
     ·have hbk:((k:Int) == 36000)=false:=by rw [beq_eq_false_iff_ne];omega
      have HK36:=Z (show k<36000 from by have:=HKK.out;omega)
      clear hk36 x1
      obtain⟨wc,hwc⟩:∃z,w12=z:=⟨_,rfl⟩
      rw [hwc] at hbq HS x0 ⊢
      clear hwc
      have HBC:=Z hbq
      clear hbq HS
      go_upto_region 10 with (fail)
      clear x0 hb0 hbk
      have hbq:Below wc.heap.size wc wc.drew:=(Below.refl _ _).drew
      obtain⟨sl,hsl⟩:∃s,slpR p l pl=s:=⟨_,rfl⟩
      obtain⟨q,hq⟩:∃q,mkQ t m (-4) sl st=q:=⟨_,rfl⟩
      obtain⟨lg,hlg⟩:∃g,mkL t m (-4) sl st=g:=⟨_,rfl⟩
      obtain⟨ok,hok⟩:∃b,decide (q≤25000 * t.mass)=b:=⟨_,rfl⟩
      have hqb:=fine_q (HCX.out.fine (x:=pl) (m:=m) (y:=y) (d:= -4) HM.out.1 HM.out.2.1 HM.out.2.2.1 (by have:=HM.out.2.2.2.1;have:=HK36.out;omega) (by omega) (by omega))
      rw [hsl,hq] at hqb
      have HSK:=Z (show ∀wx,Below wc.heap.size wc wx→Rw wx B0 115 #[.slice A p.nodes.length c,.slice A2 p.rails.length c2,.slice Aw n cw,O U t.mass,O U t.len,O U t.speed,O U t.effort,O U t.brake,O U t.power,O U t.resist,O U t.rise,O U t.back,.slice At nt ct,O U st,O U stop]∧Rw wx (B0+1) 35 #[O U m,O U y] from fun wx h=>HSR.out wx (HBC.out.trans (h.mono HBC.out.size)))
      have HPL:=Z (show ∀wx,Below wc.heap.size wc wx→Calls Tryz.prog 53 #[.agg #[O U t.mass,O U t.len,O U t.speed,O U t.effort,O U t.brake,O U t.power,O U t.resist,O U t.rise,O U t.back,.slice At nt ct],.agg #[O U m,O U y]] wx fun e w'=>e= .returned (O U pl)∧Below wx.heap.size wx w' from fun wx h=>HPL.out wx (HBC.out.trans (h.mono HBC.out.size)))
      have HSL:=Z (show ∀wx,Below wc.heap.size wc wx→Calls Tryz.prog 65 #[.agg #[.slice A p.nodes.length c,.slice A2 p.rails.length c2,.slice Aw n cw,O U t.mass,O U t.len,O U t.speed,O U t.effort,O U t.brake,O U t.power,O U t.resist,O U t.rise,O U t.back,.slice At nt ct,O U st,O U stop],O U pl] wx fun e w'=>e= .returned (O U sl)∧Below wx.heap.size wx w' from fun wx h=>by
       have:=(HCW.out wx (HBC.out.trans (h.mono HBC.out.size))).slope stop pl
       rwa [hsl] at this)
      have HST:=Z (show ∀wx,Below wc.heap.size wc wx→Calls Tryz.prog 23 #[.agg #[O U t.mass,O U t.len,O U t.speed,O U t.effort,O U t.brake,O U t.power,O U t.resist,O U t.rise,O U t.back,.slice At nt ct],.agg #[O U m,O U y],O U (-4),O U sl,O U st] wx fun e w'=>e= .returned (.tuple #[.agg #[O U q,O U (y+q)],.agg (fLg lg),.bool ok])∧Below wx.heap.size wx w' from fun wx h=>by
       have:=(HCW.out wx (HBC.out.trans (h.mono HBC.out.size))).step m y (-4) pl HM.out.1 HM.out.2.1 HM.out.2.2.1 (by have:=HM.out.2.2.2.1;have:=HK36.out;omega) (by omega) (by omega)
       rw [hsl,hq,hlg,hok] at this
       exact this)
      have HQ:=Z (show nextZ t a m (-4) (slpR p l (y / (10 * t.mass)))=q from by rw [HPE.out,hsl,←hq,←HAE.out];rfl)
      have HOK:=Z hok;have HQB:=Z hqb
      clear hsl hq hlg hok hqb
      have HS:=Z (show Rw wc.drew B0 115 #[.slice A p.nodes.length c,.slice A2 p.rails.length c2,.slice Aw n cw,O U t.mass,O U t.len,O U t.speed,O U t.effort,O U t.brake,O U t.power,O U t.resist,O U t.rise,O U t.back,.slice At nt ct,O U st,O U stop]∧∃u0 u1,Rw wc.drew (B0+1) 35 #[u0,u1] from⟨(HSK.out _ hbq).1,_,_,(HSK.out _ hbq).2⟩)
      refine wp_region_held_drew (S:=fun wx=>Rw wx B0 115 #[.slice A p.nodes.length c,.slice A2 p.rails.length c2,.slice Aw n cw,O U t.mass,O U t.len,O U t.speed,O U t.effort,O U t.brake,O U t.power,O U t.resist,O U t.rise,O U t.back,.slice At nt ct,O U st,O U stop]∧∃u0 u1,Rw wx (B0+1) 35 #[u0,u1]) (by kernel_rfl) HS.out (fun _=> ?_)
      refine hTk (i:=0) (d:=42) (v:= .pointer (some ⟨B0,3,none⟩)) rfl rfl (Or.inl ⟨rfl,by rintro W' ⟨s0,_⟩;have y:=s0.cell;go_simp⟩) HS.out ?_
      simp only [Act.put,sB,sZ,sS]
      refine hTk (i:=1) (d:=43) (v:= .agg #[O U t.mass,O U t.len,O U t.speed,O U t.effort,O U t.brake,O U t.power,O U t.resist,O U t.rise,O U t.back,.slice At nt ct]) rfl rfl (Or.inl ⟨rfl,by rintro W' ⟨s0,_⟩;have y:=s0.cell;go_simp⟩) HS.out ?_
      simp only [Act.put,sB,sZ,sS]
      refine hTk (i:=3) (d:=45) (v:= .agg #[.slice A p.nodes.length c,.slice A2 p.rails.length c2,.slice Aw n cw,O U t.mass,O U t.len,O U t.speed,O U t.effort,O U t.brake,O U t.power,O U t.resist,O U t.rise,O U t.back,.slice At nt ct,O U st,O U stop]) rfl rfl (Or.inl ⟨rfl,by rintro W' ⟨s0,_⟩;have y:=s0.cell;go_simp⟩) HS.out ?_
      simp only [Act.put,sB,sZ,sS]
      refine hTk (i:=4) (d:=46) (v:= .pointer (some ⟨B0,3,none⟩)) rfl rfl (Or.inl ⟨rfl,by rintro W' ⟨s0,_⟩;have y:=s0.cell;go_simp⟩) HS.out ?_
      simp only [Act.put,sB,sZ,sS]
      refine hTk (i:=5) (d:=47) (v:= .agg #[O U t.mass,O U t.len,O U t.speed,O U t.effort,O U t.brake,O U t.power,O U t.resist,O U t.rise,O U t.back,.slice At nt ct]) rfl rfl (Or.inl ⟨rfl,by rintro W' ⟨s0,_⟩;have y:=s0.cell;go_simp⟩) HS.out ?_
      simp only [Act.put,sB,sZ,sS]
      refine hTk (i:=9) (d:=51) (v:= .pointer (some ⟨B0,13,none⟩)) rfl rfl (Or.inl ⟨rfl,by rintro W' ⟨s0,_⟩;have y:=s0.cell;go_simp⟩) HS.out ?_
      simp only [Act.put,sB,sZ,sS]
      refine hTk (i:=10) (d:=52) (v:=O U st) rfl rfl (Or.inl ⟨rfl,by rintro W' ⟨s0,_⟩;have y:=s0.cell;go_simp⟩) HS.out ?_
      simp only [Act.put,sB,sZ,sS]
      refine wpAnyH_ready (rs:= [2,6]) (by kernel_rfl) (by simp) ?_
      refine AllReadyH.cons rfl (fun K hK=> ?_) (AllReadyH.cons rfl (fun K hK=> ?_) AllReadyH.nil)
      ·rw [if_pos (by rfl)]
       have hx:=(HSK.out _ hbq).2
       have h0:=hx.cell 0;have h1:=hx.cell 1
       go_simp
       clear hx h0 h1
       have HS:=Z (show Rw wc.drew B0 115 #[.slice A p.nodes.length c,.slice A2 p.rails.length c2,.slice Aw n cw,O U t.mass,O U t.len,O U t.speed,O U t.effort,O U t.brake,O U t.power,O U t.resist,O U t.rise,O U t.back,.slice At nt ct,O U st,O U stop]∧∃u0 u1,Rw wc.drew (B0+1) 35 #[u0,u1] from⟨(HSK.out _ hbq).1,_,_,(HSK.out _ hbq).2⟩)
       refine hK.out _ _ HS.out (fun _=> ?_)
       clear hK K
       try simp only [Act.put,sB,sZ,sS]
       refine wpAnyH_ready (rs:= [6]) (by kernel_rfl) (by simp) ?_
       refine AllReadyH.cons rfl (fun K hK=> ?_) AllReadyH.nil
       rw [if_pos (by rfl)]
       have hx:=(HSK.out _ hbq).2
       have h0:=hx.cell 0;have h1:=hx.cell 1
       go_simp
       clear hx h0 h1
       have HS:=Z (show Rw wc.drew B0 115 #[.slice A p.nodes.length c,.slice A2 p.rails.length c2,.slice Aw n cw,O U t.mass,O U t.len,O U t.speed,O U t.effort,O U t.brake,O U t.power,O U t.resist,O U t.rise,O U t.back,.slice At nt ct,O U st,O U stop]∧∃u0 u1,Rw wc.drew (B0+1) 35 #[u0,u1] from⟨(HSK.out _ hbq).1,_,_,(HSK.out _ hbq).2⟩)
       refine hK.out _ _ HS.out (fun _=> ?_)
       clear hK K
       try simp only [Act.put,sB,sZ,sS]
       refine wpAnyH_ready (rs:= [7]) (by kernel_rfl) (by simp) ?_
       refine AllReadyH.cons rfl (fun K hK=> ?_) AllReadyH.nil
       rw [if_pos (by rfl)]
       go_simp
       go_at_call 53
       (with_reducible refine (HPL.out _ hbq).mono ?_)
       rintro e w20 ⟨rfl,hbn⟩
       replace hbq:=hbq.trans (hbn.mono hbq.size)
       clear hbn
       have HS:=Z (show Rw w20 B0 115 #[.slice A p.nodes.length c,.slice A2 p.rails.length c2,.slice Aw n cw,O U t.mass,O U t.len,O U t.speed,O U t.effort,O U t.brake,O U t.power,O U t.resist,O U t.rise,O U t.back,.slice At nt ct,O U st,O U stop]∧∃u0 u1,Rw w20 (B0+1) 35 #[u0,u1] from⟨(HSK.out _ hbq).1,_,_,(HSK.out _ hbq).2⟩)
       refine hK.out _ _ HS.out (fun _=> ?_)
       clear hK K
       try simp only [Act.put,sB,sZ,sS]
       refine wpAnyH_ready (rs:= [8]) (by kernel_rfl) (by simp) ?_
       refine AllReadyH.cons rfl (fun K hK=> ?_) AllReadyH.nil
       rw [if_pos (by rfl)]
       go_simp
       go_at_call 65
       (with_reducible refine (HSL.out _ hbq).mono ?_)
       rintro e w21 ⟨rfl,hbn⟩
       replace hbq:=hbq.trans (hbn.mono hbq.size)
       clear hbn
       have HS:=Z (show Rw w21 B0 115 #[.slice A p.nodes.length c,.slice A2 p.rails.length c2,.slice Aw n cw,O U t.mass,O U t.len,O U t.speed,O U t.effort,O U t.brake,O U t.power,O U t.resist,O U t.rise,O U t.back,.slice At nt ct,O U st,O U stop]∧∃u0 u1,Rw w21 (B0+1) 35 #[u0,u1] from⟨(HSK.out _ hbq).1,_,_,(HSK.out _ hbq).2⟩)
       refine hK.out _ _ HS.out (fun _=> ?_)
       clear hK K
       try simp only [Act.put,sB,sZ,sS]
       refine wpAnyH_ready (rs:= [11]) (by kernel_rfl) (by simp) ?_
       refine AllReadyH.cons rfl (fun K hK=> ?_) AllReadyH.nil
       rw [if_pos (by rfl)]
       go_simp
       go_at_call 23
       (with_reducible refine (HST.out _ hbq).mono ?_)
       rintro e w22 ⟨rfl,hbn⟩
       replace hbq:=hbq.trans (hbn.mono hbq.size)
       clear hbn
       have HS:=Z (show Rw w22 B0 115 #[.slice A p.nodes.length c,.slice A2 p.rails.length c2,.slice Aw n cw,O U t.mass,O U t.len,O U t.speed,O U t.effort,O U t.brake,O U t.power,O U t.resist,O U t.rise,O U t.back,.slice At nt ct,O U st,O U stop]∧∃u0 u1,Rw w22 (B0+1) 35 #[u0,u1] from⟨(HSK.out _ hbq).1,_,_,(HSK.out _ hbq).2⟩)
       refine hK.out _ _ HS.out (fun _=> ?_)
       clear hK K
       try simp only [Act.put,sB,sZ,sS]
       refine hTk (i:=12) (d:=41) (v:= .tuple #[.agg #[O U q,O U (y+q)],.agg (fLg lg),.bool ok]) rfl rfl (Or.inl ⟨rfl,by rintro W' ⟨s0,_⟩;have y:=s0.cell;go_simp⟩) HS.out ?_
       simp only [Act.put,sB,sZ,sS]
       refine hTk (i:=13) (d:=54) (v:= .agg #[O U q,O U (y+q)]) rfl rfl (Or.inl ⟨rfl,by rintro W' ⟨s0,_⟩;have y:=s0.cell;go_simp⟩) HS.out ?_
       simp only [Act.put,sB,sZ,sS]
       refine hTk (i:=14) (d:=55) (v:= .agg (fLg lg)) rfl rfl (Or.inl ⟨rfl,by rintro W' ⟨s0,_⟩;have y:=s0.cell;go_simp⟩) HS.out ?_
       simp only [Act.put,sB,sZ,sS]
       refine hTk (i:=15) (d:=56) (v:= .bool ok) rfl rfl (Or.inl ⟨rfl,by rintro W' ⟨s0,_⟩;have y:=s0.cell;go_simp⟩) HS.out ?_
       simp only [Act.put,sB,sZ,sS]
       refine wpAnyH_ready (rs:= [16]) (by kernel_rfl) (by simp) ?_
       refine AllReadyH.cons rfl (fun K hK=> ?_) AllReadyH.nil
       rw [if_pos (by rfl)]
       have hx:=(HSK.out _ hbq).2
       have h0:=hx.cell 0;have h1:=hx.cell 1;have z0:=hx.frozen 0;have z1:=hx.frozen 1
       go_simp
       have hx2:Rw ((w22.setCell ⟨B0+1,0,none⟩ (O U q)).setCell ⟨B0+1,1,none⟩ (O U (y+q))) (B0+1) 35 #[O U q,O U (y+q)]:=hx.set2
       have hy2:Rw ((w22.setCell ⟨B0+1,0,none⟩ (O U q)).setCell ⟨B0+1,1,none⟩ (O U (y+q))) B0 115 #[.slice A p.nodes.length c,.slice A2 p.rails.length c2,.slice Aw n cw,O U t.mass,O U t.len,O U t.speed,O U t.effort,O U t.brake,O U t.power,O U t.resist,O U t.rise,O U t.back,.slice At nt ct,O U st,O U stop]:=((HSK.out _ hbq).1.far (k:=B0+1) 0 _ (by omega)).far (k:=B0+1) 1 _ (by omega)
       have hb2:Below w.heap.size w ((w22.setCell ⟨B0+1,0,none⟩ (O U q)).setCell ⟨B0+1,1,none⟩ (O U (y+q))):=((HBR.out.1.trans ((HBC.out.trans (hbq.mono HBC.out.size)).mono HBR.out.2.2)).setCell (by have:=HBE.out;show w.heap.size≤B0+1;omega) _).setCell (by have:=HBE.out;show w.heap.size≤B0+1;omega) _
       have hz2:W1.heap.size≤((w22.setCell ⟨B0+1,0,none⟩ (O U q)).setCell ⟨B0+1,1,none⟩ (O U (y+q))).heap.size:=by rw [World.size_setCell,World.size_setCell];have:=HBR.out.2.1;have:=HBC.out.size;have:=hbq.size;omega
       have HE:=Z (And.intro hx2 (And.intro hb2 (And.intro hz2 hy2)))
       have HS:=Z (show Rw ((w22.setCell ⟨B0+1,0,none⟩ (O U q)).setCell ⟨B0+1,1,none⟩ (O U (y+q))) B0 115 #[.slice A p.nodes.length c,.slice A2 p.rails.length c2,.slice Aw n cw,O U t.mass,O U t.len,O U t.speed,O U t.effort,O U t.brake,O U t.power,O U t.resist,O U t.rise,O U t.back,.slice At nt ct,O U st,O U stop]∧∃u0 u1,Rw ((w22.setCell ⟨B0+1,0,none⟩ (O U q)).setCell ⟨B0+1,1,none⟩ (O U (y+q))) (B0+1) 35 #[u0,u1] from⟨hy2,_,_,hx2⟩)
       clear hx h0 h1 z0 z1 hx2 hy2 hb2 hz2
       refine hK.out _ _ HS.out (fun _=> ?_)
       clear hK K
       try simp only [Act.put,sB,sZ,sS]
       refine hTk (i:=17) (d:=6) (v:= .bool ok) rfl rfl (Or.inl ⟨rfl,by rintro W' ⟨s0,_⟩;have y:=s0.cell;go_simp⟩) HS.out ?_
       simp only [Act.put,sB,sZ,sS]
       refine wpAnyH_done (by kernel_rfl) ?_ _
       clear HS
       obtain⟨wz,hwz⟩:∃z,((w22.setCell ⟨B0+1,0,none⟩ (O U q)).setCell ⟨B0+1,1,none⟩ (O U (y+q)))=z:=⟨_,rfl⟩
       rw [hwz] at HE ⊢
       clear hwz hbq
       cases ok with
       | false=>
        have HRF:=Z (show R=false from by
         rw [←HRR.out,show 36000 - k=(36000 - k - 1)+1 by have:=HK36.out;omega]
         exact safeR_fail H0.out (by rw [HQ.out];exact of_decide_eq_false HOK.out))
        go_wp2
        go_ret
        exact⟨by rw [HRF.out];rfl,HE.out.2.1⟩
       | true=>
        have hk9:=HKK.out
        go_wp2
        refine⟨⟨k+1,q,y+q,by have:=HK36.out;omega,by simp,HE.out.1,HQB.out.1,of_decide_eq_true HOK.out,by have:=HM.out.2.2.1;have:=HQB.out.1;omega, ?_, ?_, ?_,HE.out.2.1,HE.out.2.2.1,HE.out.2.2.2⟩, ?_⟩
        ·have:=HM.out.2.2.2.1;have:=HQB.out.2;push_cast;omega
        ·have h1:=HM.out.2.2.2.2
         refine Int.le_trans h1 (Int.ediv_le_ediv (by have:=HCX.out.tr.m1;omega) (by have:=HQB.out.1;omega))
        ·rw [←HRR.out,show 36000 - k=(36000 - (k+1))+1 by have:=HK36.out;omega,safeR_go HNO.out H0.out (by rw [HQ.out];exact of_decide_eq_true HOK.out),HQ.out]
        ·have:=HK36.out
         simp [intOf] <;> omega
      ·rw [if_pos (by rfl)]
       have hx:=(HSK.out _ hbq).2
       have h0:=hx.cell 0;have h1:=hx.cell 1
       go_simp
       clear hx h0 h1
       have HS:=Z (show Rw wc.drew B0 115 #[.slice A p.nodes.length c,.slice A2 p.rails.length c2,.slice Aw n cw,O U t.mass,O U t.len,O U t.speed,O U t.effort,O U t.brake,O U t.power,O U t.resist,O U t.rise,O U t.back,.slice At nt ct,O U st,O U stop]∧∃u0 u1,Rw wc.drew (B0+1) 35 #[u0,u1] from⟨(HSK.out _ hbq).1,_,_,(HSK.out _ hbq).2⟩)
       refine hK.out _ _ HS.out (fun _=> ?_)
       clear hK K
       try simp only [Act.put,sB,sZ,sS]
       refine wpAnyH_ready (rs:= [2,7]) (by kernel_rfl) (by simp) ?_
       refine AllReadyH.cons rfl (fun K hK=> ?_) (AllReadyH.cons rfl (fun K hK=> ?_) AllReadyH.nil)
       ·rw [if_pos (by rfl)]
        have hx:=(HSK.out _ hbq).2
        have h0:=hx.cell 0;have h1:=hx.cell 1
        go_simp
        clear hx h0 h1
        have HS:=Z (show Rw wc.drew B0 115 #[.slice A p.nodes.length c,.slice A2 p.rails.length c2,.slice Aw n cw,O U t.mass,O U t.len,O U t.speed,O U t.effort,O U t.brake,O U t.power,O U t.resist,O U t.rise,O U t.back,.slice At nt ct,O U st,O U stop]∧∃u0 u1,Rw wc.drew (B0+1) 35 #[u0,u1] from⟨(HSK.out _ hbq).1,_,_,(HSK.out _ hbq).2⟩)
        refine hK.out _ _ HS.out (fun _=> ?_)
        clear hK K
        try simp only [Act.put,sB,sZ,sS]
        refine wpAnyH_ready (rs:= [7]) (by kernel_rfl) (by simp) ?_
        refine AllReadyH.cons rfl (fun K hK=> ?_) AllReadyH.nil
        rw [if_pos (by rfl)]
        go_simp
        go_at_call 53
        (with_reducible refine (HPL.out _ hbq).mono ?_)
        rintro e w20 ⟨rfl,hbn⟩
        replace hbq:=hbq.trans (hbn.mono hbq.size)
        clear hbn
        have HS:=Z (show Rw w20 B0 115 #[.slice A p.nodes.length c,.slice A2 p.rails.length c2,.slice Aw n cw,O U t.mass,O U t.len,O U t.speed,O U t.effort,O U t.brake,O U t.power,O U t.resist,O U t.rise,O U t.back,.slice At nt ct,O U st,O U stop]∧∃u0 u1,Rw w20 (B0+1) 35 #[u0,u1] from⟨(HSK.out _ hbq).1,_,_,(HSK.out _ hbq).2⟩)
        refine hK.out _ _ HS.out (fun _=> ?_)
        clear hK K
        try simp only [Act.put,sB,sZ,sS]
        refine wpAnyH_ready (rs:= [8]) (by kernel_rfl) (by simp) ?_
        refine AllReadyH.cons rfl (fun K hK=> ?_) AllReadyH.nil
        rw [if_pos (by rfl)]
        go_simp
        go_at_call 65
        (with_reducible refine (HSL.out _ hbq).mono ?_)
        rintro e w21 ⟨rfl,hbn⟩
        replace hbq:=hbq.trans (hbn.mono hbq.size)
        clear hbn
        have HS:=Z (show Rw w21 B0 115 #[.slice A p.nodes.length c,.slice A2 p.rails.length c2,.slice Aw n cw,O U t.mass,O U t.len,O U t.speed,O U t.effort,O U t.brake,O U t.power,O U t.resist,O U t.rise,O U t.back,.slice At nt ct,O U st,O U stop]∧∃u0 u1,Rw w21 (B0+1) 35 #[u0,u1] from⟨(HSK.out _ hbq).1,_,_,(HSK.out _ hbq).2⟩)
        refine hK.out _ _ HS.out (fun _=> ?_)
        clear hK K
        try simp only [Act.put,sB,sZ,sS]
        refine wpAnyH_ready (rs:= [11]) (by kernel_rfl) (by simp) ?_
        refine AllReadyH.cons rfl (fun K hK=> ?_) AllReadyH.nil
        rw [if_pos (by rfl)]
        go_simp
        go_at_call 23
        (with_reducible refine (HST.out _ hbq).mono ?_)
        rintro e w22 ⟨rfl,hbn⟩
        replace hbq:=hbq.trans (hbn.mono hbq.size)
        clear hbn
        have HS:=Z (show Rw w22 B0 115 #[.slice A p.nodes.length c,.slice A2 p.rails.length c2,.slice Aw n cw,O U t.mass,O U t.len,O U t.speed,O U t.effort,O U t.brake,O U t.power,O U t.resist,O U t.rise,O U t.back,.slice At nt ct,O U st,O U stop]∧∃u0 u1,Rw w22 (B0+1) 35 #[u0,u1] from⟨(HSK.out _ hbq).1,_,_,(HSK.out _ hbq).2⟩)
        refine hK.out _ _ HS.out (fun _=> ?_)
        clear hK K
        try simp only [Act.put,sB,sZ,sS]
        refine hTk (i:=12) (d:=41) (v:= .tuple #[.agg #[O U q,O U (y+q)],.agg (fLg lg),.bool ok]) rfl rfl (Or.inl ⟨rfl,by rintro W' ⟨s0,_⟩;have y:=s0.cell;go_simp⟩) HS.out ?_
        simp only [Act.put,sB,sZ,sS]
        refine hTk (i:=13) (d:=54) (v:= .agg #[O U q,O U (y+q)]) rfl rfl (Or.inl ⟨rfl,by rintro W' ⟨s0,_⟩;have y:=s0.cell;go_simp⟩) HS.out ?_
        simp only [Act.put,sB,sZ,sS]
        refine hTk (i:=14) (d:=55) (v:= .agg (fLg lg)) rfl rfl (Or.inl ⟨rfl,by rintro W' ⟨s0,_⟩;have y:=s0.cell;go_simp⟩) HS.out ?_
        simp only [Act.put,sB,sZ,sS]
        refine hTk (i:=15) (d:=56) (v:= .bool ok) rfl rfl (Or.inl ⟨rfl,by rintro W' ⟨s0,_⟩;have y:=s0.cell;go_simp⟩) HS.out ?_
        simp only [Act.put,sB,sZ,sS]
        refine wpAnyH_ready (rs:= [16]) (by kernel_rfl) (by simp) ?_
        refine AllReadyH.cons rfl (fun K hK=> ?_) AllReadyH.nil
        rw [if_pos (by rfl)]
        have hx:=(HSK.out _ hbq).2
        have h0:=hx.cell 0;have h1:=hx.cell 1;have z0:=hx.frozen 0;have z1:=hx.frozen 1
        go_simp
        have hx2:Rw ((w22.setCell ⟨B0+1,0,none⟩ (O U q)).setCell ⟨B0+1,1,none⟩ (O U (y+q))) (B0+1) 35 #[O U q,O U (y+q)]:=hx.set2
        have hy2:Rw ((w22.setCell ⟨B0+1,0,none⟩ (O U q)).setCell ⟨B0+1,1,none⟩ (O U (y+q))) B0 115 #[.slice A p.nodes.length c,.slice A2 p.rails.length c2,.slice Aw n cw,O U t.mass,O U t.len,O U t.speed,O U t.effort,O U t.brake,O U t.power,O U t.resist,O U t.rise,O U t.back,.slice At nt ct,O U st,O U stop]:=((HSK.out _ hbq).1.far (k:=B0+1) 0 _ (by omega)).far (k:=B0+1) 1 _ (by omega)
        have hb2:Below w.heap.size w ((w22.setCell ⟨B0+1,0,none⟩ (O U q)).setCell ⟨B0+1,1,none⟩ (O U (y+q))):=((HBR.out.1.trans ((HBC.out.trans (hbq.mono HBC.out.size)).mono HBR.out.2.2)).setCell (by have:=HBE.out;show w.heap.size≤B0+1;omega) _).setCell (by have:=HBE.out;show w.heap.size≤B0+1;omega) _
        have hz2:W1.heap.size≤((w22.setCell ⟨B0+1,0,none⟩ (O U q)).setCell ⟨B0+1,1,none⟩ (O U (y+q))).heap.size:=by rw [World.size_setCell,World.size_setCell];have:=HBR.out.2.1;have:=HBC.out.size;have:=hbq.size;omega
        have HE:=Z (And.intro hx2 (And.intro hb2 (And.intro hz2 hy2)))
        have HS:=Z (show Rw ((w22.setCell ⟨B0+1,0,none⟩ (O U q)).setCell ⟨B0+1,1,none⟩ (O U (y+q))) B0 115 #[.slice A p.nodes.length c,.slice A2 p.rails.length c2,.slice Aw n cw,O U t.mass,O U t.len,O U t.speed,O U t.effort,O U t.brake,O U t.power,O U t.resist,O U t.rise,O U t.back,.slice At nt ct,O U st,O U stop]∧∃u0 u1,Rw ((w22.setCell ⟨B0+1,0,none⟩ (O U q)).setCell ⟨B0+1,1,none⟩ (O U (y+q))) (B0+1) 35 #[u0,u1] from⟨hy2,_,_,hx2⟩)
        clear hx h0 h1 z0 z1 hx2 hy2 hb2 hz2
        refine hK.out _ _ HS.out (fun _=> ?_)
        clear hK K
        try simp only [Act.put,sB,sZ,sS]
        refine hTk (i:=17) (d:=6) (v:= .bool ok) rfl rfl (Or.inl ⟨rfl,by rintro W' ⟨s0,_⟩;have y:=s0.cell;go_simp⟩) HS.out ?_
        simp only [Act.put,sB,sZ,sS]
        refine wpAnyH_done (by kernel_rfl) ?_ _
        clear HS
        obtain⟨wz,hwz⟩:∃z,((w22.setCell ⟨B0+1,0,none⟩ (O U q)).setCell ⟨B0+1,1,none⟩ (O U (y+q)))=z:=⟨_,rfl⟩
        rw [hwz] at HE ⊢
        clear hwz hbq
        cases ok with
        | false=>
         have HRF:=Z (show R=false from by
          rw [←HRR.out,show 36000 - k=(36000 - k - 1)+1 by have:=HK36.out;omega]
          exact safeR_fail H0.out (by rw [HQ.out];exact of_decide_eq_false HOK.out))
         go_wp2
         go_ret
         exact⟨by rw [HRF.out];rfl,HE.out.2.1⟩
        | true=>
         have hk9:=HKK.out
         go_wp2
         refine⟨⟨k+1,q,y+q,by have:=HK36.out;omega,by simp,HE.out.1,HQB.out.1,of_decide_eq_true HOK.out,by have:=HM.out.2.2.1;have:=HQB.out.1;omega, ?_, ?_, ?_,HE.out.2.1,HE.out.2.2.1,HE.out.2.2.2⟩, ?_⟩
         ·have:=HM.out.2.2.2.1;have:=HQB.out.2;push_cast;omega
         ·have h1:=HM.out.2.2.2.2
          refine Int.le_trans h1 (Int.ediv_le_ediv (by have:=HCX.out.tr.m1;omega) (by have:=HQB.out.1;omega))
         ·rw [←HRR.out,show 36000 - k=(36000 - (k+1))+1 by have:=HK36.out;omega,safeR_go HNO.out H0.out (by rw [HQ.out];exact of_decide_eq_true HOK.out),HQ.out]
         ·have:=HK36.out
          simp [intOf] <;> omega
       ·rw [if_pos (by rfl)]
        go_simp
        go_at_call 53
        (with_reducible refine (HPL.out _ hbq).mono ?_)
        rintro e w20 ⟨rfl,hbn⟩
        replace hbq:=hbq.trans (hbn.mono hbq.size)
        clear hbn
        have HS:=Z (show Rw w20 B0 115 #[.slice A p.nodes.length c,.slice A2 p.rails.length c2,.slice Aw n cw,O U t.mass,O U t.len,O U t.speed,O U t.effort,O U t.brake,O U t.power,O U t.resist,O U t.rise,O U t.back,.slice At nt ct,O U st,O U stop]∧∃u0 u1,Rw w20 (B0+1) 35 #[u0,u1] from⟨(HSK.out _ hbq).1,_,_,(HSK.out _ hbq).2⟩)
        refine hK.out _ _ HS.out (fun _=> ?_)
        clear hK K
        try simp only [Act.put,sB,sZ,sS]
        refine wpAnyH_ready (rs:= [2,8]) (by kernel_rfl) (by simp) ?_
        refine AllReadyH.cons rfl (fun K hK=> ?_) (AllReadyH.cons rfl (fun K hK=> ?_) AllReadyH.nil)
        ·rw [if_pos (by rfl)]
         have hx:=(HSK.out _ hbq).2
         have h0:=hx.cell 0;have h1:=hx.cell 1
         go_simp
         clear hx h0 h1
         have HS:=Z (show Rw w20 B0 115 #[.slice A p.nodes.length c,.slice A2 p.rails.length c2,.slice Aw n cw,O U t.mass,O U t.len,O U t.speed,O U t.effort,O U t.brake,O U t.power,O U t.resist,O U t.rise,O U t.back,.slice At nt ct,O U st,O U stop]∧∃u0 u1,Rw w20 (B0+1) 35 #[u0,u1] from⟨(HSK.out _ hbq).1,_,_,(HSK.out _ hbq).2⟩)
         refine hK.out _ _ HS.out (fun _=> ?_)
         clear hK K
         try simp only [Act.put,sB,sZ,sS]
         refine wpAnyH_ready (rs:= [8]) (by kernel_rfl) (by simp) ?_
         refine AllReadyH.cons rfl (fun K hK=> ?_) AllReadyH.nil
         rw [if_pos (by rfl)]
         go_simp
         go_at_call 65
         (with_reducible refine (HSL.out _ hbq).mono ?_)
         rintro e w21 ⟨rfl,hbn⟩
         replace hbq:=hbq.trans (hbn.mono hbq.size)
         clear hbn
         have HS:=Z (show Rw w21 B0 115 #[.slice A p.nodes.length c,.slice A2 p.rails.length c2,.slice Aw n cw,O U t.mass,O U t.len,O U t.speed,O U t.effort,O U t.brake,O U t.power,O U t.resist,O U t.rise,O U t.back,.slice At nt ct,O U st,O U stop]∧∃u0 u1,Rw w21 (B0+1) 35 #[u0,u1] from⟨(HSK.out _ hbq).1,_,_,(HSK.out _ hbq).2⟩)
         refine hK.out _ _ HS.out (fun _=> ?_)
         clear hK K
         try simp only [Act.put,sB,sZ,sS]
         refine wpAnyH_ready (rs:= [11]) (by kernel_rfl) (by simp) ?_
         refine AllReadyH.cons rfl (fun K hK=> ?_) AllReadyH.nil
         rw [if_pos (by rfl)]
         go_simp
         go_at_call 23
         (with_reducible refine (HST.out _ hbq).mono ?_)
         rintro e w22 ⟨rfl,hbn⟩
         replace hbq:=hbq.trans (hbn.mono hbq.size)
         clear hbn
         have HS:=Z (show Rw w22 B0 115 #[.slice A p.nodes.length c,.slice A2 p.rails.length c2,.slice Aw n cw,O U t.mass,O U t.len,O U t.speed,O U t.effort,O U t.brake,O U t.power,O U t.resist,O U t.rise,O U t.back,.slice At nt ct,O U st,O U stop]∧∃u0 u1,Rw w22 (B0+1) 35 #[u0,u1] from⟨(HSK.out _ hbq).1,_,_,(HSK.out _ hbq).2⟩)
         refine hK.out _ _ HS.out (fun _=> ?_)
         clear hK K
         try simp only [Act.put,sB,sZ,sS]
         refine hTk (i:=12) (d:=41) (v:= .tuple #[.agg #[O U q,O U (y+q)],.agg (fLg lg),.bool ok]) rfl rfl (Or.inl ⟨rfl,by rintro W' ⟨s0,_⟩;have y:=s0.cell;go_simp⟩) HS.out ?_
         simp only [Act.put,sB,sZ,sS]
         refine hTk (i:=13) (d:=54) (v:= .agg #[O U q,O U (y+q)]) rfl rfl (Or.inl ⟨rfl,by rintro W' ⟨s0,_⟩;have y:=s0.cell;go_simp⟩) HS.out ?_
         simp only [Act.put,sB,sZ,sS]
         refine hTk (i:=14) (d:=55) (v:= .agg (fLg lg)) rfl rfl (Or.inl ⟨rfl,by rintro W' ⟨s0,_⟩;have y:=s0.cell;go_simp⟩) HS.out ?_
         simp only [Act.put,sB,sZ,sS]
         refine hTk (i:=15) (d:=56) (v:= .bool ok) rfl rfl (Or.inl ⟨rfl,by rintro W' ⟨s0,_⟩;have y:=s0.cell;go_simp⟩) HS.out ?_
         simp only [Act.put,sB,sZ,sS]
         refine wpAnyH_ready (rs:= [16]) (by kernel_rfl) (by simp) ?_
         refine AllReadyH.cons rfl (fun K hK=> ?_) AllReadyH.nil
         rw [if_pos (by rfl)]
         have hx:=(HSK.out _ hbq).2
         have h0:=hx.cell 0;have h1:=hx.cell 1;have z0:=hx.frozen 0;have z1:=hx.frozen 1
         go_simp
         have hx2:Rw ((w22.setCell ⟨B0+1,0,none⟩ (O U q)).setCell ⟨B0+1,1,none⟩ (O U (y+q))) (B0+1) 35 #[O U q,O U (y+q)]:=hx.set2
         have hy2:Rw ((w22.setCell ⟨B0+1,0,none⟩ (O U q)).setCell ⟨B0+1,1,none⟩ (O U (y+q))) B0 115 #[.slice A p.nodes.length c,.slice A2 p.rails.length c2,.slice Aw n cw,O U t.mass,O U t.len,O U t.speed,O U t.effort,O U t.brake,O U t.power,O U t.resist,O U t.rise,O U t.back,.slice At nt ct,O U st,O U stop]:=((HSK.out _ hbq).1.far (k:=B0+1) 0 _ (by omega)).far (k:=B0+1) 1 _ (by omega)
         have hb2:Below w.heap.size w ((w22.setCell ⟨B0+1,0,none⟩ (O U q)).setCell ⟨B0+1,1,none⟩ (O U (y+q))):=((HBR.out.1.trans ((HBC.out.trans (hbq.mono HBC.out.size)).mono HBR.out.2.2)).setCell (by have:=HBE.out;show w.heap.size≤B0+1;omega) _).setCell (by have:=HBE.out;show w.heap.size≤B0+1;omega) _
         have hz2:W1.heap.size≤((w22.setCell ⟨B0+1,0,none⟩ (O U q)).setCell ⟨B0+1,1,none⟩ (O U (y+q))).heap.size:=by rw [World.size_setCell,World.size_setCell];have:=HBR.out.2.1;have:=HBC.out.size;have:=hbq.size;omega
         have HE:=Z (And.intro hx2 (And.intro hb2 (And.intro hz2 hy2)))
         have HS:=Z (show Rw ((w22.setCell ⟨B0+1,0,none⟩ (O U q)).setCell ⟨B0+1,1,none⟩ (O U (y+q))) B0 115 #[.slice A p.nodes.length c,.slice A2 p.rails.length c2,.slice Aw n cw,O U t.mass,O U t.len,O U t.speed,O U t.effort,O U t.brake,O U t.power,O U t.resist,O U t.rise,O U t.back,.slice At nt ct,O U st,O U stop]∧∃u0 u1,Rw ((w22.setCell ⟨B0+1,0,none⟩ (O U q)).setCell ⟨B0+1,1,none⟩ (O U (y+q))) (B0+1) 35 #[u0,u1] from⟨hy2,_,_,hx2⟩)
         clear hx h0 h1 z0 z1 hx2 hy2 hb2 hz2
         refine hK.out _ _ HS.out (fun _=> ?_)
         clear hK K
         try simp only [Act.put,sB,sZ,sS]
         refine hTk (i:=17) (d:=6) (v:= .bool ok) rfl rfl (Or.inl ⟨rfl,by rintro W' ⟨s0,_⟩;have y:=s0.cell;go_simp⟩) HS.out ?_
         simp only [Act.put,sB,sZ,sS]
         refine wpAnyH_done (by kernel_rfl) ?_ _
         clear HS
         obtain⟨wz,hwz⟩:∃z,((w22.setCell ⟨B0+1,0,none⟩ (O U q)).setCell ⟨B0+1,1,none⟩ (O U (y+q)))=z:=⟨_,rfl⟩
         rw [hwz] at HE ⊢
         clear hwz hbq
         cases ok with
         | false=>
          have HRF:=Z (show R=false from by
           rw [←HRR.out,show 36000 - k=(36000 - k - 1)+1 by have:=HK36.out;omega]
           exact safeR_fail H0.out (by rw [HQ.out];exact of_decide_eq_false HOK.out))
          go_wp2
          go_ret
          exact⟨by rw [HRF.out];rfl,HE.out.2.1⟩
         | true=>
          have hk9:=HKK.out
          go_wp2
          refine⟨⟨k+1,q,y+q,by have:=HK36.out;omega,by simp,HE.out.1,HQB.out.1,of_decide_eq_true HOK.out,by have:=HM.out.2.2.1;have:=HQB.out.1;omega, ?_, ?_, ?_,HE.out.2.1,HE.out.2.2.1,HE.out.2.2.2⟩, ?_⟩
          ·have:=HM.out.2.2.2.1;have:=HQB.out.2;push_cast;omega
          ·have h1:=HM.out.2.2.2.2
           refine Int.le_trans h1 (Int.ediv_le_ediv (by have:=HCX.out.tr.m1;omega) (by have:=HQB.out.1;omega))
          ·rw [←HRR.out,show 36000 - k=(36000 - (k+1))+1 by have:=HK36.out;omega,safeR_go HNO.out H0.out (by rw [HQ.out];exact of_decide_eq_true HOK.out),HQ.out]
          ·have:=HK36.out
           simp [intOf] <;> omega
        ·rw [if_pos (by rfl)]
         go_simp
         go_at_call 65
         (with_reducible refine (HSL.out _ hbq).mono ?_)
         rintro e w21 ⟨rfl,hbn⟩
         replace hbq:=hbq.trans (hbn.mono hbq.size)
         clear hbn
         have HS:=Z (show Rw w21 B0 115 #[.slice A p.nodes.length c,.slice A2 p.rails.length c2,.slice Aw n cw,O U t.mass,O U t.len,O U t.speed,O U t.effort,O U t.brake,O U t.power,O U t.resist,O U t.rise,O U t.back,.slice At nt ct,O U st,O U stop]∧∃u0 u1,Rw w21 (B0+1) 35 #[u0,u1] from⟨(HSK.out _ hbq).1,_,_,(HSK.out _ hbq).2⟩)
         refine hK.out _ _ HS.out (fun _=> ?_)
         clear hK K
         try simp only [Act.put,sB,sZ,sS]
         refine wpAnyH_ready (rs:= [2]) (by kernel_rfl) (by simp) ?_
         refine AllReadyH.cons rfl (fun K hK=> ?_) AllReadyH.nil
         rw [if_pos (by rfl)]
         have hx:=(HSK.out _ hbq).2
         have h0:=hx.cell 0;have h1:=hx.cell 1
         go_simp
         clear hx h0 h1
         have HS:=Z (show Rw w21 B0 115 #[.slice A p.nodes.length c,.slice A2 p.rails.length c2,.slice Aw n cw,O U t.mass,O U t.len,O U t.speed,O U t.effort,O U t.brake,O U t.power,O U t.resist,O U t.rise,O U t.back,.slice At nt ct,O U st,O U stop]∧∃u0 u1,Rw w21 (B0+1) 35 #[u0,u1] from⟨(HSK.out _ hbq).1,_,_,(HSK.out _ hbq).2⟩)
         refine hK.out _ _ HS.out (fun _=> ?_)
         clear hK K
         try simp only [Act.put,sB,sZ,sS]
         refine wpAnyH_ready (rs:= [11]) (by kernel_rfl) (by simp) ?_
         refine AllReadyH.cons rfl (fun K hK=> ?_) AllReadyH.nil
         rw [if_pos (by rfl)]
         go_simp
         go_at_call 23
         (with_reducible refine (HST.out _ hbq).mono ?_)
         rintro e w22 ⟨rfl,hbn⟩
         replace hbq:=hbq.trans (hbn.mono hbq.size)
         clear hbn
         have HS:=Z (show Rw w22 B0 115 #[.slice A p.nodes.length c,.slice A2 p.rails.length c2,.slice Aw n cw,O U t.mass,O U t.len,O U t.speed,O U t.effort,O U t.brake,O U t.power,O U t.resist,O U t.rise,O U t.back,.slice At nt ct,O U st,O U stop]∧∃u0 u1,Rw w22 (B0+1) 35 #[u0,u1] from⟨(HSK.out _ hbq).1,_,_,(HSK.out _ hbq).2⟩)
         refine hK.out _ _ HS.out (fun _=> ?_)
         clear hK K
         try simp only [Act.put,sB,sZ,sS]
         refine hTk (i:=12) (d:=41) (v:= .tuple #[.agg #[O U q,O U (y+q)],.agg (fLg lg),.bool ok]) rfl rfl (Or.inl ⟨rfl,by rintro W' ⟨s0,_⟩;have y:=s0.cell;go_simp⟩) HS.out ?_
         simp only [Act.put,sB,sZ,sS]
         refine hTk (i:=13) (d:=54) (v:= .agg #[O U q,O U (y+q)]) rfl rfl (Or.inl ⟨rfl,by rintro W' ⟨s0,_⟩;have y:=s0.cell;go_simp⟩) HS.out ?_
         simp only [Act.put,sB,sZ,sS]
         refine hTk (i:=14) (d:=55) (v:= .agg (fLg lg)) rfl rfl (Or.inl ⟨rfl,by rintro W' ⟨s0,_⟩;have y:=s0.cell;go_simp⟩) HS.out ?_
         simp only [Act.put,sB,sZ,sS]
         refine hTk (i:=15) (d:=56) (v:= .bool ok) rfl rfl (Or.inl ⟨rfl,by rintro W' ⟨s0,_⟩;have y:=s0.cell;go_simp⟩) HS.out ?_
         simp only [Act.put,sB,sZ,sS]
         refine wpAnyH_ready (rs:= [16]) (by kernel_rfl) (by simp) ?_
         refine AllReadyH.cons rfl (fun K hK=> ?_) AllReadyH.nil
         rw [if_pos (by rfl)]
         have hx:=(HSK.out _ hbq).2
         have h0:=hx.cell 0;have h1:=hx.cell 1;have z0:=hx.frozen 0;have z1:=hx.frozen 1
         go_simp
         have hx2:Rw ((w22.setCell ⟨B0+1,0,none⟩ (O U q)).setCell ⟨B0+1,1,none⟩ (O U (y+q))) (B0+1) 35 #[O U q,O U (y+q)]:=hx.set2
         have hy2:Rw ((w22.setCell ⟨B0+1,0,none⟩ (O U q)).setCell ⟨B0+1,1,none⟩ (O U (y+q))) B0 115 #[.slice A p.nodes.length c,.slice A2 p.rails.length c2,.slice Aw n cw,O U t.mass,O U t.len,O U t.speed,O U t.effort,O U t.brake,O U t.power,O U t.resist,O U t.rise,O U t.back,.slice At nt ct,O U st,O U stop]:=((HSK.out _ hbq).1.far (k:=B0+1) 0 _ (by omega)).far (k:=B0+1) 1 _ (by omega)
         have hb2:Below w.heap.size w ((w22.setCell ⟨B0+1,0,none⟩ (O U q)).setCell ⟨B0+1,1,none⟩ (O U (y+q))):=((HBR.out.1.trans ((HBC.out.trans (hbq.mono HBC.out.size)).mono HBR.out.2.2)).setCell (by have:=HBE.out;show w.heap.size≤B0+1;omega) _).setCell (by have:=HBE.out;show w.heap.size≤B0+1;omega) _
         have hz2:W1.heap.size≤((w22.setCell ⟨B0+1,0,none⟩ (O U q)).setCell ⟨B0+1,1,none⟩ (O U (y+q))).heap.size:=by rw [World.size_setCell,World.size_setCell];have:=HBR.out.2.1;have:=HBC.out.size;have:=hbq.size;omega
         have HE:=Z (And.intro hx2 (And.intro hb2 (And.intro hz2 hy2)))
         have HS:=Z (show Rw ((w22.setCell ⟨B0+1,0,none⟩ (O U q)).setCell ⟨B0+1,1,none⟩ (O U (y+q))) B0 115 #[.slice A p.nodes.length c,.slice A2 p.rails.length c2,.slice Aw n cw,O U t.mass,O U t.len,O U t.speed,O U t.effort,O U t.brake,O U t.power,O U t.resist,O U t.rise,O U t.back,.slice At nt ct,O U st,O U stop]∧∃u0 u1,Rw ((w22.setCell ⟨B0+1,0,none⟩ (O U q)).setCell ⟨B0+1,1,none⟩ (O U (y+q))) (B0+1) 35 #[u0,u1] from⟨hy2,_,_,hx2⟩)
         clear hx h0 h1 z0 z1 hx2 hy2 hb2 hz2
         refine hK.out _ _ HS.out (fun _=> ?_)
         clear hK K
         try simp only [Act.put,sB,sZ,sS]
         refine hTk (i:=17) (d:=6) (v:= .bool ok) rfl rfl (Or.inl ⟨rfl,by rintro W' ⟨s0,_⟩;have y:=s0.cell;go_simp⟩) HS.out ?_
         simp only [Act.put,sB,sZ,sS]
         refine wpAnyH_done (by kernel_rfl) ?_ _
         clear HS
         obtain⟨wz,hwz⟩:∃z,((w22.setCell ⟨B0+1,0,none⟩ (O U q)).setCell ⟨B0+1,1,none⟩ (O U (y+q)))=z:=⟨_,rfl⟩
         rw [hwz] at HE ⊢
         clear hwz hbq
         cases ok with
         | false=>
          have HRF:=Z (show R=false from by
           rw [←HRR.out,show 36000 - k=(36000 - k - 1)+1 by have:=HK36.out;omega]
           exact safeR_fail H0.out (by rw [HQ.out];exact of_decide_eq_false HOK.out))
          go_wp2
          go_ret
          exact⟨by rw [HRF.out];rfl,HE.out.2.1⟩
         | true=>
          have hk9:=HKK.out
          go_wp2
          refine⟨⟨k+1,q,y+q,by have:=HK36.out;omega,by simp,HE.out.1,HQB.out.1,of_decide_eq_true HOK.out,by have:=HM.out.2.2.1;have:=HQB.out.1;omega, ?_, ?_, ?_,HE.out.2.1,HE.out.2.2.1,HE.out.2.2.2⟩, ?_⟩
          ·have:=HM.out.2.2.2.1;have:=HQB.out.2;push_cast;omega
          ·have h1:=HM.out.2.2.2.2
           refine Int.le_trans h1 (Int.ediv_le_ediv (by have:=HCX.out.tr.m1;omega) (by have:=HQB.out.1;omega))
          ·rw [←HRR.out,show 36000 - k=(36000 - (k+1))+1 by have:=HK36.out;omega,safeR_go HNO.out H0.out (by rw [HQ.out];exact of_decide_eq_true HOK.out),HQ.out]
          ·have:=HK36.out
           simp [intOf] <;> omega
end Go.Proofs.YtfhkbbjddjddmaaGreat
