/- Contract: the reference's drive. -/
import Derived.Test.YtfhkbbjddjddmaaGreatM57
set_option linter.unusedVariables false
set_option linter.unusedSimpArgs false
open Go.Value renaming int→O
open Go.IntKind renaming i64→U
open Go.Lib renaming hid→Z
namespace Go.Proofs.YtfhkbbjddjddmaaGreat
open Go.RowKit Go.Shelf Go.Lib Go.BigFrame
theorem held_key {P:Program} {ops:Array Oper} {Q:Exit→Act→World→Prop} {md:Region.Mode} {S:World→Prop} {f0:Nat} {l0:Array Bool} {a0:Act} {w0:World} (fuel:Nat) (listed:Array Bool) (Pre:Act→World→Prop)
  (h:(∀a W,Pre a W→wpAnyH P md ops Q S fuel listed a W)→wpAnyH P md ops Q S f0 l0 a0 w0) (hk:∀a W,Pre a W→wpAnyH P md ops Q S fuel listed a W):wpAnyH P md ops Q S f0 l0 a0 w0:=h hk
theorem held_fin {P:Program} {ops:Array Oper} {Q:Exit→Act→World→Prop} {md:Region.Mode} {S:World→Prop} {f0:Nat} {l0:Array Bool} {a0:Act} {w0:World} (af:Act) (Pre:World→Prop)
  (h:(∀W,Pre W→Q .normal af W)→wpAnyH P md ops Q S f0 l0 a0 w0) (hk:∀W,Pre W→Q .normal af W):wpAnyH P md ops Q S f0 l0 a0 w0:=h hk
def drvD:Option Nat→Int
 | some n=>(n:Int) - 4
 | none=>0
section
variable {t:Tr} {a:Int} {sl lim:Int→Int} {s m y:Int} {n:Nat}
theorem drvN_yes (h:drvQ t a sl m y n≤25000 * t.mass) (h2:safeR t a sl lim s 36000 (drvQ t a sl m y n) (y+drvQ t a sl m y n)=true):drvN t a sl lim s m y (n+1)=some n:=by rw [drvN,if_pos ⟨h,h2⟩]
theorem drvN_far (h:¬drvQ t a sl m y n≤25000 * t.mass):drvN t a sl lim s m y (n+1)=drvN t a sl lim s m y n:=by rw [drvN,if_neg (fun hh=>h hh.1)]
theorem drvN_no (h2:safeR t a sl lim s 36000 (drvQ t a sl m y n) (y+drvQ t a sl m y n)=false):drvN t a sl lim s m y (n+1)=drvN t a sl lim s m y n:=by rw [drvN,if_neg (fun hh=>by rw [h2] at hh;cases hh.2)]
end
set_option maxRecDepth 100000 in
set_option maxHeartbeats 4000000 in
theorem rdrive_any (A A2:Option Addr) (c c2:Nat) (p:Pl) (Aw:Option Addr) (cw n:Nat) (l:List E) (t:Tr) (At:Option Addr) (nt ct:Nat) (st stop m y:Int) (w:World) (hC:RfC w A A2 c c2 p Aw cw n l t At nt ct st) (hs:stop≤3000000000000) (m0:0≤m) (m1:m≤25000 * t.mass) (y0:0≤y) (y1:y≤10000000000000000) (hl:t.len≤y / (10 * t.mass)) :
  Calls Tryz.prog 64 #[.agg #[.slice A p.nodes.length c,.slice A2 p.rails.length c2,.slice Aw n cw,O U t.mass,O U t.len,O U t.speed,O U t.effort,O U t.brake,O U t.power,O U t.resist,O U t.rise,O U t.back,.slice At nt ct,O U st,O U stop],.agg #[O U m,O U y]] w fun e w'=>e= .returned (.tuple #[O U (drvD (drvN t (adhZ t (gripZ t st)) (slpR p l) (limR p l t) stop m y 9)),.bool (drvN t (adhZ t (gripZ t st)) (slpR p l) (limR p l t) stop m y 9).isSome])∧Below w.heap.size w w':=by
 have hb1:=((Below.refl w.heap.size w).alloc (Nat.le_refl _) (.cells #[.slice A p.nodes.length c,.slice A2 p.rails.length c2,.slice Aw n cw,O U t.mass,O U t.len,O U t.speed,O U t.effort,O U t.brake,O U t.power,O U t.resist,O U t.rise,O U t.back,.slice At nt ct,O U st,O U stop] 115)).alloc (by simp) (.cells #[O U m,O U y] 35)
 obtain⟨q1,q2⟩:=rows2 w #[.slice A p.nodes.length c,.slice A2 p.rails.length c2,.slice Aw n cw,O U t.mass,O U t.len,O U t.speed,O U t.effort,O U t.brake,O U t.power,O U t.resist,O U t.rise,O U t.back,.slice At nt ct,O U st,O U stop] #[O U m,O U y] 115 35
 obtain⟨W1,hW1⟩:∃z,(w.alloc (.cells #[.slice A p.nodes.length c,.slice A2 p.rails.length c2,.slice Aw n cw,O U t.mass,O U t.len,O U t.speed,O U t.effort,O U t.brake,O U t.power,O U t.resist,O U t.rise,O U t.back,.slice At nt ct,O U st,O U stop] 115)).alloc (.cells #[O U m,O U y] 35)=z:=⟨_,rfl⟩
 rw [hW1] at hb1 q1 q2
 obtain⟨B0,hB0⟩:∃B,w.heap.size=B:=⟨_,rfl⟩
 obtain⟨a,ha⟩:∃a,adhZ t (gripZ t st)=a:=⟨_,rfl⟩
 rw [ha]
 obtain⟨R,hR⟩:∃R,drvN t a (slpR p l) (limR p l t) stop m y 9=R:=⟨_,rfl⟩
 rw [hR]
 rw [hB0] at q1 q2
 have HB1:=Z hb1;have HAE:=Z ha;have HCX:=Z hC
 have HI:=Z hR
 have HKQ:=Z (And.intro q1 q2)
 have HCB:=Z (show ∀wx,Below w.heap.size w wx→RfC wx A A2 c c2 p Aw cw n l t At nt ct st from fun wx h=>hC.below h)
 have HSTP:=Z hs
 obtain⟨y_,hy_⟩:∃z,z=y:=⟨_,rfl⟩
 subst hy_
 have HIN:=Z (And.intro m0 (And.intro m1 (And.intro y0 (And.intro y1 hl))))
 clear hb1 q1 q2 hC ha hR hs m0 m1 y0 y1 hl
 go_enter Tryz.func64,Tryz.ntmps64
 go_wp2
 have HWZ:=Z hW1;have HBZ:=Z hB0
 clear hW1 hB0
 go_loopw [6] (fun s6 wr=>∃k:Nat,k≤9∧s6=O U ((k:Int) - 5)∧drvN t a (slpR p l) (limR p l t) stop m y_ k=R∧Below W1.heap.size W1 wr) (fun s6 _=>(intOf s6+5).toNat)
 case atStart=>exact⟨9,by omega,by rfl,HI.out,Below.refl _ _⟩
 case round=>
  obtain⟨k,hk,rfl,hR,hbr⟩:=hrel
  have HBR:=Z hbr
  have HRR0:=Z hR
  cases k with
  | zero=>
   have hkd:¬(-4:Int)≤((0:Nat):Int) - 5:=by omega
   have HRF:=Z (show R=none from by rw [←HRR0.out];rfl)
   clear hR hbr hk
   go_wp2
   go_ret2
   exact⟨by rw [HRF.out];rfl,HB1.out.trans (HBR.out.mono HB1.out.size)⟩
  | succ k=>
   have HK9:=Z hk
   obtain⟨d,hd⟩:∃d:Int,((k+1:Nat):Int) - 5=d:=⟨_,rfl⟩
   have HDE:=Z (show (k:Int) - 4=d from by omega)
   have HDN:=Z hd
   have hdl: -4≤d:=by omega
   have hdu:d≤4:=by omega
   rw [hd]
   have HRR:=Z hR
   have HSK:=Z (show ∀wx,Below wr.heap.size wr wx→Rw wx B0 115 #[.slice A p.nodes.length c,.slice A2 p.rails.length c2,.slice Aw n cw,O U t.mass,O U t.len,O U t.speed,O U t.effort,O U t.brake,O U t.power,O U t.resist,O U t.rise,O U t.back,.slice At nt ct,O U st,O U stop]∧Rw wx (B0+1) 35 #[O U m,O U y_] from fun wx h=>by
    have hh:=hbr.trans (h.mono hbr.size)
    exact⟨HKQ.out.1.below hh HKQ.out.1.lt,HKQ.out.2.below hh HKQ.out.2.lt⟩)
   have HCW:=Z (show ∀wx,Below wr.heap.size wr wx→RfC wx A A2 c c2 p Aw cw n l t At nt ct st from fun wx h=>HCB.out wx (HB1.out.trans ((hbr.trans (h.mono hbr.size)).mono HB1.out.size)))
   obtain⟨pl,hpl⟩:∃z,y_ / (10 * t.mass)=z:=⟨_,rfl⟩
   obtain⟨sl,hsl⟩:∃s,slpR p l pl=s:=⟨_,rfl⟩
   obtain⟨q,hq⟩:∃q,mkQ t m d sl st=q:=⟨_,rfl⟩
   obtain⟨lg,hlg⟩:∃g,mkL t m d sl st=g:=⟨_,rfl⟩
   obtain⟨ok,hok⟩:∃b,decide (q≤25000 * t.mass)=b:=⟨_,rfl⟩
   have hqb:=fine_q (HCX.out.fine (x:=pl) (m:=m) (y:=y_) (d:=d) HIN.out.1 HIN.out.2.1 HIN.out.2.2.1 (by have:=HIN.out.2.2.2.1;omega) hdl hdu)
   rw [hsl,hq] at hqb
   have HPL:=Z (show ∀wx,Below wr.heap.size wr wx→Calls Tryz.prog 53 #[.agg #[O U t.mass,O U t.len,O U t.speed,O U t.effort,O U t.brake,O U t.power,O U t.resist,O U t.rise,O U t.back,.slice At nt ct],.agg #[O U m,O U y_]] wx fun e w'=>e= .returned (O U pl)∧Below wx.heap.size wx w' from fun wx h=>by
    have:=(HCW.out wx h).place m y_ HIN.out.2.2.1 (by have:=HIN.out.2.2.2.1;omega)
    rwa [hpl] at this)
   have HSL:=Z (show ∀wx,Below wr.heap.size wr wx→Calls Tryz.prog 65 #[.agg #[.slice A p.nodes.length c,.slice A2 p.rails.length c2,.slice Aw n cw,O U t.mass,O U t.len,O U t.speed,O U t.effort,O U t.brake,O U t.power,O U t.resist,O U t.rise,O U t.back,.slice At nt ct,O U st,O U stop],O U pl] wx fun e w'=>e= .returned (O U sl)∧Below wx.heap.size wx w' from fun wx h=>by
    have:=(HCW.out wx h).slope stop pl
    rwa [hsl] at this)
   have HST:=Z (show ∀wx,Below wr.heap.size wr wx→Calls Tryz.prog 23 #[.agg #[O U t.mass,O U t.len,O U t.speed,O U t.effort,O U t.brake,O U t.power,O U t.resist,O U t.rise,O U t.back,.slice At nt ct],.agg #[O U m,O U y_],O U d,O U sl,O U st] wx fun e w'=>e= .returned (.tuple #[.agg #[O U q,O U (y_+q)],.agg #[O U lg.pull,O U lg.brake,O U lg.drag,O U lg.hill,O U lg.round,O U lg.hold],.bool ok])∧Below wx.heap.size wx w' from fun wx h=>by
    have:=(HCW.out wx h).step m y_ d pl HIN.out.1 HIN.out.2.1 HIN.out.2.2.1 (by have:=HIN.out.2.2.2.1;omega) hdl hdu
    rw [hsl,hq,hlg,hok] at this
    exact this)
   have HQE:=Z (show drvQ t a (slpR p l) m y_ k=q from by unfold drvQ;rw [hpl,hsl,←hq,←HAE.out,HDE.out];rfl)
   have HOK:=Z hok;have HQB:=Z hqb
   clear hR hbr hk hd hpl hsl hq hlg hok hqb
   go_upto_region 4 with (fail)
   have hbq:Below wr.heap.size wr wr.drew:=(Below.refl _ _).drew
   have HS:=Z (HSK.out _ hbq)
   refine wp_region_held_drew (S:=fun wx=>Rw wx B0 115 #[.slice A p.nodes.length c,.slice A2 p.rails.length c2,.slice Aw n cw,O U t.mass,O U t.len,O U t.speed,O U t.effort,O U t.brake,O U t.power,O U t.resist,O U t.rise,O U t.back,.slice At nt ct,O U st,O U stop]∧Rw wx (B0+1) 35 #[O U m,O U y_]) (by kernel_rfl) HS.out (fun _=> ?_)
   obtain⟨wd,hwd⟩:∃z,wr.drew=z:=⟨_,rfl⟩
   rw [hwd] at hbq HS ⊢
   clear hwd
   refine held_key 3 #[true,true,true,true,true,true,true,true,true,true,true,true,true,true,true,true,true,true,true,false,false,false] (fun a W=>∃sb lb,a={tmps:=#[.agg #[.slice A p.nodes.length c,.slice A2 p.rails.length c2,.slice Aw n cw,O U t.mass,O U t.len,O U t.speed,O U t.effort,O U t.brake,O U t.power,O U t.resist,O U t.rise,O U t.back,.slice At nt ct,O U st,O U stop],.agg #[O U m,O U y_],.pointer (some ⟨B0,0,none⟩),.pointer (some ⟨B0+1,0,none⟩),u4,u5,O U d,.pointer (some ⟨sb,0,none⟩),.pointer (some ⟨lb,0,none⟩),u9,O U d,.bool true,u12,u13,.tuple #[.agg #[O U q,O U (y_+q)],.agg #[O U lg.pull,O U lg.brake,O U lg.drag,O U lg.hill,O U lg.round,O U lg.hold],.bool ok],.pointer (some ⟨B0,3,none⟩),.agg #[O U t.mass,O U t.len,O U t.speed,O U t.effort,O U t.brake,O U t.power,O U t.resist,O U t.rise,O U t.back,.slice At nt ct],.agg #[O U m,O U y_],O U d,.agg #[.slice A p.nodes.length c,.slice A2 p.rails.length c2,.slice Aw n cw,O U t.mass,O U t.len,O U t.speed,O U t.effort,O U t.brake,O U t.power,O U t.resist,O U t.rise,O U t.back,.slice At nt ct,O U st,O U stop],.pointer (some ⟨B0,3,none⟩),.agg #[O U t.mass,O U t.len,O U t.speed,O U t.effort,O U t.brake,O U t.power,O U t.resist,O U t.rise,O U t.back,.slice At nt ct],.agg #[O U m,O U y_],O U pl,O U sl,.pointer (some ⟨B0,13,none⟩),O U st,.tuple #[.agg #[O U q,O U (y_+q)],.agg #[O U lg.pull,O U lg.brake,O U lg.drag,O U lg.hill,O U lg.round,O U lg.hold],.bool ok],.agg #[O U q,O U (y_+q)],.agg #[O U lg.pull,O U lg.brake,O U lg.drag,O U lg.hill,O U lg.round,O U lg.hold],.bool ok,u31,u32,u33,u34,u35,u36,u37],defers:= []}∧Below wr.heap.size wr W∧Rw W sb 35 #[O U 0,O U 0]∧Rw W lb 37 #[O U 0,O U 0,O U 0,O U 0,O U 0,O U 0]∧wr.heap.size≤sb∧wr.heap.size≤lb∧sb≠lb) (fun key=> ?_) ?_
   ·skip
    refine hTk (i:=0) (d:=15) (v:= .pointer (some ⟨B0,3,none⟩)) rfl rfl (Or.inl ⟨rfl,by rintro W' ⟨s0,s1⟩;have y:=s0.cell;have x:=s1.cell;go_simp⟩) HS.out ?_
    simp only [Act.put,sB,sZ,sS]
    refine hTk (i:=1) (d:=16) (v:= .agg #[O U t.mass,O U t.len,O U t.speed,O U t.effort,O U t.brake,O U t.power,O U t.resist,O U t.rise,O U t.back,.slice At nt ct]) rfl rfl (Or.inl ⟨rfl,by rintro W' ⟨s0,s1⟩;have y:=s0.cell;have x:=s1.cell;go_simp⟩) HS.out ?_
    simp only [Act.put,sB,sZ,sS]
    refine hTk (i:=2) (d:=17) (v:= .agg #[O U m,O U y_]) rfl rfl (Or.inl ⟨rfl,by rintro W' ⟨s0,s1⟩;have y:=s0.cell;have x:=s1.cell;go_simp⟩) HS.out ?_
    simp only [Act.put,sB,sZ,sS]
    refine hTk (i:=3) (d:=18) (v:=O U d) rfl rfl (Or.inl ⟨rfl,by rintro W' ⟨s0,s1⟩;have y:=s0.cell;have x:=s1.cell;go_simp⟩) HS.out ?_
    simp only [Act.put,sB,sZ,sS]
    refine hTk (i:=4) (d:=19) (v:= .agg #[.slice A p.nodes.length c,.slice A2 p.rails.length c2,.slice Aw n cw,O U t.mass,O U t.len,O U t.speed,O U t.effort,O U t.brake,O U t.power,O U t.resist,O U t.rise,O U t.back,.slice At nt ct,O U st,O U stop]) rfl rfl (Or.inl ⟨rfl,by rintro W' ⟨s0,s1⟩;have y:=s0.cell;have x:=s1.cell;go_simp⟩) HS.out ?_
    simp only [Act.put,sB,sZ,sS]
    refine hTk (i:=5) (d:=20) (v:= .pointer (some ⟨B0,3,none⟩)) rfl rfl (Or.inl ⟨rfl,by rintro W' ⟨s0,s1⟩;have y:=s0.cell;have x:=s1.cell;go_simp⟩) HS.out ?_
    simp only [Act.put,sB,sZ,sS]
    refine hTk (i:=6) (d:=21) (v:= .agg #[O U t.mass,O U t.len,O U t.speed,O U t.effort,O U t.brake,O U t.power,O U t.resist,O U t.rise,O U t.back,.slice At nt ct]) rfl rfl (Or.inl ⟨rfl,by rintro W' ⟨s0,s1⟩;have y:=s0.cell;have x:=s1.cell;go_simp⟩) HS.out ?_
    simp only [Act.put,sB,sZ,sS]
    refine hTk (i:=7) (d:=22) (v:= .agg #[O U m,O U y_]) rfl rfl (Or.inl ⟨rfl,by rintro W' ⟨s0,s1⟩;have y:=s0.cell;have x:=s1.cell;go_simp⟩) HS.out ?_
    simp only [Act.put,sB,sZ,sS]
    refine hTk (i:=10) (d:=25) (v:= .pointer (some ⟨B0,13,none⟩)) rfl rfl (Or.inl ⟨rfl,by rintro W' ⟨s0,s1⟩;have y:=s0.cell;have x:=s1.cell;go_simp⟩) HS.out ?_
    simp only [Act.put,sB,sZ,sS]
    refine hTk (i:=11) (d:=26) (v:=O U st) rfl rfl (Or.inl ⟨rfl,by rintro W' ⟨s0,s1⟩;have y:=s0.cell;have x:=s1.cell;go_simp⟩) HS.out ?_
    simp only [Act.put,sB,sZ,sS]
    refine wpAnyH_ready (rs:= [8,17,18]) (by kernel_rfl) (by simp) ?_
    refine AllReadyH.cons rfl (fun K hK=> ?_) (AllReadyH.cons rfl (fun K hK=> ?_) (AllReadyH.cons rfl (fun K hK=> ?_) AllReadyH.nil))
    ·rw [if_pos (by rfl)]
     go_simp
     go_at_call 53
     (with_reducible refine (HPL.out _ hbq).mono ?_)
     rintro e v1 ⟨rfl,hbn⟩
     replace hbq:=hbq.trans (hbn.mono hbq.size)
     clear hbn
     have HS:=Z (HSK.out _ hbq)
     refine hK.out _ _ HS.out (fun _=> ?_)
     clear hK K
     try simp only [Act.put,sB,sZ,sS]
     refine wpAnyH_ready (rs:= [9,17,18]) (by kernel_rfl) (by simp) ?_
     refine AllReadyH.cons rfl (fun K hK=> ?_) (AllReadyH.cons rfl (fun K hK=> ?_) (AllReadyH.cons rfl (fun K hK=> ?_) AllReadyH.nil))
     ·rw [if_pos (by rfl)]
      go_simp
      go_at_call 65
      (with_reducible refine (HSL.out _ hbq).mono ?_)
      rintro e v2 ⟨rfl,hbn⟩
      replace hbq:=hbq.trans (hbn.mono hbq.size)
      clear hbn
      have HS:=Z (HSK.out _ hbq)
      refine hK.out _ _ HS.out (fun _=> ?_)
      clear hK K
      try simp only [Act.put,sB,sZ,sS]
      refine wpAnyH_ready (rs:= [12,17,18]) (by kernel_rfl) (by simp) ?_
      refine AllReadyH.cons rfl (fun K hK=> ?_) (AllReadyH.cons rfl (fun K hK=> ?_) (AllReadyH.cons rfl (fun K hK=> ?_) AllReadyH.nil))
      ·rw [if_pos (by rfl)]
       go_simp
       go_at_call 23
       (with_reducible refine (HST.out _ hbq).mono ?_)
       rintro e v3 ⟨rfl,hbn⟩
       replace hbq:=hbq.trans (hbn.mono hbq.size)
       clear hbn
       have HS:=Z (HSK.out _ hbq)
       refine hK.out _ _ HS.out (fun _=> ?_)
       clear hK K
       try simp only [Act.put,sB,sZ,sS]
       refine hTk (i:=13) (d:=14) (v:= .tuple #[.agg #[O U q,O U (y_+q)],.agg #[O U lg.pull,O U lg.brake,O U lg.drag,O U lg.hill,O U lg.round,O U lg.hold],.bool ok]) rfl rfl (Or.inl ⟨rfl,by rintro W' ⟨s0,s1⟩;have y:=s0.cell;have x:=s1.cell;go_simp⟩) HS.out ?_
       simp only [Act.put,sB,sZ,sS]
       refine hTk (i:=14) (d:=28) (v:= .agg #[O U q,O U (y_+q)]) rfl rfl (Or.inl ⟨rfl,by rintro W' ⟨s0,s1⟩;have y:=s0.cell;have x:=s1.cell;go_simp⟩) HS.out ?_
       simp only [Act.put,sB,sZ,sS]
       refine hTk (i:=15) (d:=29) (v:= .agg #[O U lg.pull,O U lg.brake,O U lg.drag,O U lg.hill,O U lg.round,O U lg.hold]) rfl rfl (Or.inl ⟨rfl,by rintro W' ⟨s0,s1⟩;have y:=s0.cell;have x:=s1.cell;go_simp⟩) HS.out ?_
       simp only [Act.put,sB,sZ,sS]
       refine hTk (i:=16) (d:=30) (v:= .bool ok) rfl rfl (Or.inl ⟨rfl,by rintro W' ⟨s0,s1⟩;have y:=s0.cell;have x:=s1.cell;go_simp⟩) HS.out ?_
       simp only [Act.put,sB,sZ,sS]
       refine wpAnyH_ready (rs:= [17,18]) (by kernel_rfl) (by simp) ?_
       refine AllReadyH.cons rfl (fun K hK=> ?_) (AllReadyH.cons rfl (fun K hK=> ?_) AllReadyH.nil)
       ·rw [if_pos (by rfl)]
        go_simp
        have qs:=Rw.new v3 #[O U 0,O U 0] 35
        have hsb:=hbq.size
        replace hbq:=hbq.alloc hbq.size (.cells #[O U 0,O U 0] 35)
        obtain⟨sb,hn⟩:∃z,v3.heap.size=z:=⟨_,rfl⟩
        obtain⟨ws,hw⟩:∃z,v3.alloc (.cells #[O U 0,O U 0] 35)=z:=⟨_,rfl⟩
        rw [hw] at qs hbq ⊢
        rw [hn] at qs hsb ⊢
        clear hn hw
        have HS:=Z (HSK.out _ hbq)
        refine hK.out _ _ HS.out (fun _=> ?_)
        clear hK K
        try simp only [Act.put,sB,sZ,sS]
        refine wpAnyH_ready (rs:= [18]) (by kernel_rfl) (by simp) ?_
        refine AllReadyH.cons rfl (fun K hK=> ?_) AllReadyH.nil
        rw [if_pos (by rfl)]
        go_simp
        have ql:=Rw.new ws #[O U 0,O U 0,O U 0,O U 0,O U 0,O U 0] 37
        have hne:=qs.lt
        replace qs:=qs.alloc (.cells #[O U 0,O U 0,O U 0,O U 0,O U 0,O U 0] 37)
        have hlb:=hbq.size
        replace hbq:=hbq.alloc hbq.size (.cells #[O U 0,O U 0,O U 0,O U 0,O U 0,O U 0] 37)
        obtain⟨lb,hn⟩:∃z,ws.heap.size=z:=⟨_,rfl⟩
        obtain⟨wl,hw⟩:∃z,ws.alloc (.cells #[O U 0,O U 0,O U 0,O U 0,O U 0,O U 0] 37)=z:=⟨_,rfl⟩
        rw [hw] at ql hbq qs ⊢
        rw [hn] at ql hlb hne ⊢
        clear hn hw
        have HS:=Z (HSK.out _ hbq)
        refine hK.out _ _ HS.out (fun _=> ?_)
        clear hK K
        try simp only [Act.put,sB,sZ,sS]
        exact key _ _ ⟨sb,lb,rfl,hbq,qs,ql,by omega,by omega,by omega⟩
       ·rw [if_pos (by rfl)]
        go_simp
        have ql:=Rw.new v3 #[O U 0,O U 0,O U 0,O U 0,O U 0,O U 0] 37
        have hlb:=hbq.size
        replace hbq:=hbq.alloc hbq.size (.cells #[O U 0,O U 0,O U 0,O U 0,O U 0,O U 0] 37)
        obtain⟨lb,hn⟩:∃z,v3.heap.size=z:=⟨_,rfl⟩
        obtain⟨wl,hw⟩:∃z,v3.alloc (.cells #[O U 0,O U 0,O U 0,O U 0,O U 0,O U 0] 37)=z:=⟨_,rfl⟩
        rw [hw] at ql hbq ⊢
        rw [hn] at ql hlb ⊢
        clear hn hw
        have HS:=Z (HSK.out _ hbq)
        refine hK.out _ _ HS.out (fun _=> ?_)
        clear hK K
        try simp only [Act.put,sB,sZ,sS]
        refine wpAnyH_ready (rs:= [17]) (by kernel_rfl) (by simp) ?_
        refine AllReadyH.cons rfl (fun K hK=> ?_) AllReadyH.nil
        rw [if_pos (by rfl)]
        go_simp
        have qs:=Rw.new wl #[O U 0,O U 0] 35
        have hne:=ql.lt
        replace ql:=ql.alloc (.cells #[O U 0,O U 0] 35)
        have hsb:=hbq.size
        replace hbq:=hbq.alloc hbq.size (.cells #[O U 0,O U 0] 35)
        obtain⟨sb,hn⟩:∃z,wl.heap.size=z:=⟨_,rfl⟩
        obtain⟨ws,hw⟩:∃z,wl.alloc (.cells #[O U 0,O U 0] 35)=z:=⟨_,rfl⟩
        rw [hw] at qs hbq ql ⊢
        rw [hn] at qs hsb hne ⊢
        clear hn hw
        have HS:=Z (HSK.out _ hbq)
        refine hK.out _ _ HS.out (fun _=> ?_)
        clear hK K
        try simp only [Act.put,sB,sZ,sS]
        exact key _ _ ⟨sb,lb,rfl,hbq,qs,ql,by omega,by omega,by omega⟩
      ·rw [if_pos (by rfl)]
       go_simp
       have qs:=Rw.new v2 #[O U 0,O U 0] 35
       have hsb:=hbq.size
       replace hbq:=hbq.alloc hbq.size (.cells #[O U 0,O U 0] 35)
       obtain⟨sb,hn⟩:∃z,v2.heap.size=z:=⟨_,rfl⟩
       obtain⟨ws,hw⟩:∃z,v2.alloc (.cells #[O U 0,O U 0] 35)=z:=⟨_,rfl⟩
       rw [hw] at qs hbq ⊢
       rw [hn] at qs hsb ⊢
       clear hn hw
       have HS:=Z (HSK.out _ hbq)
       refine hK.out _ _ HS.out (fun _=> ?_)
       clear hK K
       try simp only [Act.put,sB,sZ,sS]
       refine wpAnyH_ready (rs:= [12,18]) (by kernel_rfl) (by simp) ?_
       refine AllReadyH.cons rfl (fun K hK=> ?_) (AllReadyH.cons rfl (fun K hK=> ?_) AllReadyH.nil)
       ·rw [if_pos (by rfl)]
        go_simp
        go_at_call 23
        (with_reducible refine (HST.out _ hbq).mono ?_)
        rintro e v3 ⟨rfl,hbn⟩
        replace hbq:=hbq.trans (hbn.mono hbq.size)
        replace qs:=qs.below hbn qs.lt
        clear hbn
        have HS:=Z (HSK.out _ hbq)
        refine hK.out _ _ HS.out (fun _=> ?_)
        clear hK K
        try simp only [Act.put,sB,sZ,sS]
        refine hTk (i:=13) (d:=14) (v:= .tuple #[.agg #[O U q,O U (y_+q)],.agg #[O U lg.pull,O U lg.brake,O U lg.drag,O U lg.hill,O U lg.round,O U lg.hold],.bool ok]) rfl rfl (Or.inl ⟨rfl,by rintro W' ⟨s0,s1⟩;have y:=s0.cell;have x:=s1.cell;go_simp⟩) HS.out ?_
        simp only [Act.put,sB,sZ,sS]
        refine hTk (i:=14) (d:=28) (v:= .agg #[O U q,O U (y_+q)]) rfl rfl (Or.inl ⟨rfl,by rintro W' ⟨s0,s1⟩;have y:=s0.cell;have x:=s1.cell;go_simp⟩) HS.out ?_
        simp only [Act.put,sB,sZ,sS]
        refine hTk (i:=15) (d:=29) (v:= .agg #[O U lg.pull,O U lg.brake,O U lg.drag,O U lg.hill,O U lg.round,O U lg.hold]) rfl rfl (Or.inl ⟨rfl,by rintro W' ⟨s0,s1⟩;have y:=s0.cell;have x:=s1.cell;go_simp⟩) HS.out ?_
        simp only [Act.put,sB,sZ,sS]
        refine hTk (i:=16) (d:=30) (v:= .bool ok) rfl rfl (Or.inl ⟨rfl,by rintro W' ⟨s0,s1⟩;have y:=s0.cell;have x:=s1.cell;go_simp⟩) HS.out ?_
        simp only [Act.put,sB,sZ,sS]
        refine wpAnyH_ready (rs:= [18]) (by kernel_rfl) (by simp) ?_
        refine AllReadyH.cons rfl (fun K hK=> ?_) AllReadyH.nil
        rw [if_pos (by rfl)]
        go_simp
        have ql:=Rw.new v3 #[O U 0,O U 0,O U 0,O U 0,O U 0,O U 0] 37
        have hne:=qs.lt
        replace qs:=qs.alloc (.cells #[O U 0,O U 0,O U 0,O U 0,O U 0,O U 0] 37)
        have hlb:=hbq.size
        replace hbq:=hbq.alloc hbq.size (.cells #[O U 0,O U 0,O U 0,O U 0,O U 0,O U 0] 37)
        obtain⟨lb,hn⟩:∃z,v3.heap.size=z:=⟨_,rfl⟩
        obtain⟨wl,hw⟩:∃z,v3.alloc (.cells #[O U 0,O U 0,O U 0,O U 0,O U 0,O U 0] 37)=z:=⟨_,rfl⟩
        rw [hw] at ql hbq qs ⊢
        rw [hn] at ql hlb hne ⊢
        clear hn hw
        have HS:=Z (HSK.out _ hbq)
        refine hK.out _ _ HS.out (fun _=> ?_)
        clear hK K
        try simp only [Act.put,sB,sZ,sS]
        exact key _ _ ⟨sb,lb,rfl,hbq,qs,ql,by omega,by omega,by omega⟩
       ·rw [if_pos (by rfl)]
        go_simp
        have ql:=Rw.new ws #[O U 0,O U 0,O U 0,O U 0,O U 0,O U 0] 37
        have hne:=qs.lt
        replace qs:=qs.alloc (.cells #[O U 0,O U 0,O U 0,O U 0,O U 0,O U 0] 37)
        have hlb:=hbq.size
        replace hbq:=hbq.alloc hbq.size (.cells #[O U 0,O U 0,O U 0,O U 0,O U 0,O U 0] 37)
        obtain⟨lb,hn⟩:∃z,ws.heap.size=z:=⟨_,rfl⟩
        obtain⟨wl,hw⟩:∃z,ws.alloc (.cells #[O U 0,O U 0,O U 0,O U 0,O U 0,O U 0] 37)=z:=⟨_,rfl⟩
        rw [hw] at ql hbq qs ⊢
        rw [hn] at ql hlb hne ⊢
        clear hn hw
        have HS:=Z (HSK.out _ hbq)
        refine hK.out _ _ HS.out (fun _=> ?_)
        clear hK K
        try simp only [Act.put,sB,sZ,sS]
        refine wpAnyH_ready (rs:= [12]) (by kernel_rfl) (by simp) ?_
        refine AllReadyH.cons rfl (fun K hK=> ?_) AllReadyH.nil
        rw [if_pos (by rfl)]
        go_simp
        go_at_call 23
        (with_reducible refine (HST.out _ hbq).mono ?_)
        rintro e v3 ⟨rfl,hbn⟩
        replace hbq:=hbq.trans (hbn.mono hbq.size)
        replace qs:=qs.below hbn qs.lt
        replace ql:=ql.below hbn ql.lt
        clear hbn
        have HS:=Z (HSK.out _ hbq)
        refine hK.out _ _ HS.out (fun _=> ?_)
        clear hK K
        try simp only [Act.put,sB,sZ,sS]
        refine hTk (i:=13) (d:=14) (v:= .tuple #[.agg #[O U q,O U (y_+q)],.agg #[O U lg.pull,O U lg.brake,O U lg.drag,O U lg.hill,O U lg.round,O U lg.hold],.bool ok]) rfl rfl (Or.inl ⟨rfl,by rintro W' ⟨s0,s1⟩;have y:=s0.cell;have x:=s1.cell;go_simp⟩) HS.out ?_
        simp only [Act.put,sB,sZ,sS]
        refine hTk (i:=14) (d:=28) (v:= .agg #[O U q,O U (y_+q)]) rfl rfl (Or.inl ⟨rfl,by rintro W' ⟨s0,s1⟩;have y:=s0.cell;have x:=s1.cell;go_simp⟩) HS.out ?_
        simp only [Act.put,sB,sZ,sS]
        refine hTk (i:=15) (d:=29) (v:= .agg #[O U lg.pull,O U lg.brake,O U lg.drag,O U lg.hill,O U lg.round,O U lg.hold]) rfl rfl (Or.inl ⟨rfl,by rintro W' ⟨s0,s1⟩;have y:=s0.cell;have x:=s1.cell;go_simp⟩) HS.out ?_
        simp only [Act.put,sB,sZ,sS]
        refine hTk (i:=16) (d:=30) (v:= .bool ok) rfl rfl (Or.inl ⟨rfl,by rintro W' ⟨s0,s1⟩;have y:=s0.cell;have x:=s1.cell;go_simp⟩) HS.out ?_
        simp only [Act.put,sB,sZ,sS]
        exact key _ _ ⟨sb,lb,rfl,hbq,qs,ql,by omega,by omega,by omega⟩
      ·rw [if_pos (by rfl)]
       go_simp
       have ql:=Rw.new v2 #[O U 0,O U 0,O U 0,O U 0,O U 0,O U 0] 37
       have hlb:=hbq.size
       replace hbq:=hbq.alloc hbq.size (.cells #[O U 0,O U 0,O U 0,O U 0,O U 0,O U 0] 37)
       obtain⟨lb,hn⟩:∃z,v2.heap.size=z:=⟨_,rfl⟩
       obtain⟨wl,hw⟩:∃z,v2.alloc (.cells #[O U 0,O U 0,O U 0,O U 0,O U 0,O U 0] 37)=z:=⟨_,rfl⟩
       rw [hw] at ql hbq ⊢
       rw [hn] at ql hlb ⊢
       clear hn hw
       have HS:=Z (HSK.out _ hbq)
       refine hK.out _ _ HS.out (fun _=> ?_)
       clear hK K
       try simp only [Act.put,sB,sZ,sS]
       refine wpAnyH_ready (rs:= [12,17]) (by kernel_rfl) (by simp) ?_
       refine AllReadyH.cons rfl (fun K hK=> ?_) (AllReadyH.cons rfl (fun K hK=> ?_) AllReadyH.nil)
       ·rw [if_pos (by rfl)]
        go_simp
        go_at_call 23
        (with_reducible refine (HST.out _ hbq).mono ?_)
        rintro e v3 ⟨rfl,hbn⟩
        replace hbq:=hbq.trans (hbn.mono hbq.size)
        replace ql:=ql.below hbn ql.lt
        clear hbn
        have HS:=Z (HSK.out _ hbq)
        refine hK.out _ _ HS.out (fun _=> ?_)
        clear hK K
        try simp only [Act.put,sB,sZ,sS]
        refine hTk (i:=13) (d:=14) (v:= .tuple #[.agg #[O U q,O U (y_+q)],.agg #[O U lg.pull,O U lg.brake,O U lg.drag,O U lg.hill,O U lg.round,O U lg.hold],.bool ok]) rfl rfl (Or.inl ⟨rfl,by rintro W' ⟨s0,s1⟩;have y:=s0.cell;have x:=s1.cell;go_simp⟩) HS.out ?_
        simp only [Act.put,sB,sZ,sS]
        refine hTk (i:=14) (d:=28) (v:= .agg #[O U q,O U (y_+q)]) rfl rfl (Or.inl ⟨rfl,by rintro W' ⟨s0,s1⟩;have y:=s0.cell;have x:=s1.cell;go_simp⟩) HS.out ?_
        simp only [Act.put,sB,sZ,sS]
        refine hTk (i:=15) (d:=29) (v:= .agg #[O U lg.pull,O U lg.brake,O U lg.drag,O U lg.hill,O U lg.round,O U lg.hold]) rfl rfl (Or.inl ⟨rfl,by rintro W' ⟨s0,s1⟩;have y:=s0.cell;have x:=s1.cell;go_simp⟩) HS.out ?_
        simp only [Act.put,sB,sZ,sS]
        refine hTk (i:=16) (d:=30) (v:= .bool ok) rfl rfl (Or.inl ⟨rfl,by rintro W' ⟨s0,s1⟩;have y:=s0.cell;have x:=s1.cell;go_simp⟩) HS.out ?_
        simp only [Act.put,sB,sZ,sS]
        refine wpAnyH_ready (rs:= [17]) (by kernel_rfl) (by simp) ?_
        refine AllReadyH.cons rfl (fun K hK=> ?_) AllReadyH.nil
        rw [if_pos (by rfl)]
        go_simp
        have qs:=Rw.new v3 #[O U 0,O U 0] 35
        have hne:=ql.lt
        replace ql:=ql.alloc (.cells #[O U 0,O U 0] 35)
        have hsb:=hbq.size
        replace hbq:=hbq.alloc hbq.size (.cells #[O U 0,O U 0] 35)
        obtain⟨sb,hn⟩:∃z,v3.heap.size=z:=⟨_,rfl⟩
        obtain⟨ws,hw⟩:∃z,v3.alloc (.cells #[O U 0,O U 0] 35)=z:=⟨_,rfl⟩
        rw [hw] at qs hbq ql ⊢
        rw [hn] at qs hsb hne ⊢
        clear hn hw
        have HS:=Z (HSK.out _ hbq)
        refine hK.out _ _ HS.out (fun _=> ?_)
        clear hK K
        try simp only [Act.put,sB,sZ,sS]
        exact key _ _ ⟨sb,lb,rfl,hbq,qs,ql,by omega,by omega,by omega⟩
       ·rw [if_pos (by rfl)]
        go_simp
        have qs:=Rw.new wl #[O U 0,O U 0] 35
        have hne:=ql.lt
        replace ql:=ql.alloc (.cells #[O U 0,O U 0] 35)
        have hsb:=hbq.size
        replace hbq:=hbq.alloc hbq.size (.cells #[O U 0,O U 0] 35)
        obtain⟨sb,hn⟩:∃z,wl.heap.size=z:=⟨_,rfl⟩
        obtain⟨ws,hw⟩:∃z,wl.alloc (.cells #[O U 0,O U 0] 35)=z:=⟨_,rfl⟩
        rw [hw] at qs hbq ql ⊢
        rw [hn] at qs hsb hne ⊢
        clear hn hw
        have HS:=Z (HSK.out _ hbq)
        refine hK.out _ _ HS.out (fun _=> ?_)
        clear hK K
        try simp only [Act.put,sB,sZ,sS]
        refine wpAnyH_ready (rs:= [12]) (by kernel_rfl) (by simp) ?_
        refine AllReadyH.cons rfl (fun K hK=> ?_) AllReadyH.nil
        rw [if_pos (by rfl)]
        go_simp
        go_at_call 23
        (with_reducible refine (HST.out _ hbq).mono ?_)
        rintro e v3 ⟨rfl,hbn⟩
        replace hbq:=hbq.trans (hbn.mono hbq.size)
        replace qs:=qs.below hbn qs.lt
        replace ql:=ql.below hbn ql.lt
        clear hbn
        have HS:=Z (HSK.out _ hbq)
        refine hK.out _ _ HS.out (fun _=> ?_)
        clear hK K
        try simp only [Act.put,sB,sZ,sS]
        refine hTk (i:=13) (d:=14) (v:= .tuple #[.agg #[O U q,O U (y_+q)],.agg #[O U lg.pull,O U lg.brake,O U lg.drag,O U lg.hill,O U lg.round,O U lg.hold],.bool ok]) rfl rfl (Or.inl ⟨rfl,by rintro W' ⟨s0,s1⟩;have y:=s0.cell;have x:=s1.cell;go_simp⟩) HS.out ?_
        simp only [Act.put,sB,sZ,sS]
        refine hTk (i:=14) (d:=28) (v:= .agg #[O U q,O U (y_+q)]) rfl rfl (Or.inl ⟨rfl,by rintro W' ⟨s0,s1⟩;have y:=s0.cell;have x:=s1.cell;go_simp⟩) HS.out ?_
        simp only [Act.put,sB,sZ,sS]
        refine hTk (i:=15) (d:=29) (v:= .agg #[O U lg.pull,O U lg.brake,O U lg.drag,O U lg.hill,O U lg.round,O U lg.hold]) rfl rfl (Or.inl ⟨rfl,by rintro W' ⟨s0,s1⟩;have y:=s0.cell;have x:=s1.cell;go_simp⟩) HS.out ?_
        simp only [Act.put,sB,sZ,sS]
        refine hTk (i:=16) (d:=30) (v:= .bool ok) rfl rfl (Or.inl ⟨rfl,by rintro W' ⟨s0,s1⟩;have y:=s0.cell;have x:=s1.cell;go_simp⟩) HS.out ?_
        simp only [Act.put,sB,sZ,sS]
        exact key _ _ ⟨sb,lb,rfl,hbq,qs,ql,by omega,by omega,by omega⟩
     ·rw [if_pos (by rfl)]
      go_simp
      have qs:=Rw.new v1 #[O U 0,O U 0] 35
      have hsb:=hbq.size
      replace hbq:=hbq.alloc hbq.size (.cells #[O U 0,O U 0] 35)
      obtain⟨sb,hn⟩:∃z,v1.heap.size=z:=⟨_,rfl⟩
      obtain⟨ws,hw⟩:∃z,v1.alloc (.cells #[O U 0,O U 0] 35)=z:=⟨_,rfl⟩
      rw [hw] at qs hbq ⊢
      rw [hn] at qs hsb ⊢
      clear hn hw
      have HS:=Z (HSK.out _ hbq)
      refine hK.out _ _ HS.out (fun _=> ?_)
      clear hK K
      try simp only [Act.put,sB,sZ,sS]
      refine wpAnyH_ready (rs:= [9,18]) (by kernel_rfl) (by simp) ?_
      refine AllReadyH.cons rfl (fun K hK=> ?_) (AllReadyH.cons rfl (fun K hK=> ?_) AllReadyH.nil)
      ·rw [if_pos (by rfl)]
       go_simp
       go_at_call 65
       (with_reducible refine (HSL.out _ hbq).mono ?_)
       rintro e v2 ⟨rfl,hbn⟩
       replace hbq:=hbq.trans (hbn.mono hbq.size)
       replace qs:=qs.below hbn qs.lt
       clear hbn
       have HS:=Z (HSK.out _ hbq)
       refine hK.out _ _ HS.out (fun _=> ?_)
       clear hK K
       try simp only [Act.put,sB,sZ,sS]
       refine wpAnyH_ready (rs:= [12,18]) (by kernel_rfl) (by simp) ?_
       refine AllReadyH.cons rfl (fun K hK=> ?_) (AllReadyH.cons rfl (fun K hK=> ?_) AllReadyH.nil)
       ·rw [if_pos (by rfl)]
        go_simp
        go_at_call 23
        (with_reducible refine (HST.out _ hbq).mono ?_)
        rintro e v3 ⟨rfl,hbn⟩
        replace hbq:=hbq.trans (hbn.mono hbq.size)
        replace qs:=qs.below hbn qs.lt
        clear hbn
        have HS:=Z (HSK.out _ hbq)
        refine hK.out _ _ HS.out (fun _=> ?_)
        clear hK K
        try simp only [Act.put,sB,sZ,sS]
        refine hTk (i:=13) (d:=14) (v:= .tuple #[.agg #[O U q,O U (y_+q)],.agg #[O U lg.pull,O U lg.brake,O U lg.drag,O U lg.hill,O U lg.round,O U lg.hold],.bool ok]) rfl rfl (Or.inl ⟨rfl,by rintro W' ⟨s0,s1⟩;have y:=s0.cell;have x:=s1.cell;go_simp⟩) HS.out ?_
        simp only [Act.put,sB,sZ,sS]
        refine hTk (i:=14) (d:=28) (v:= .agg #[O U q,O U (y_+q)]) rfl rfl (Or.inl ⟨rfl,by rintro W' ⟨s0,s1⟩;have y:=s0.cell;have x:=s1.cell;go_simp⟩) HS.out ?_
        simp only [Act.put,sB,sZ,sS]
        refine hTk (i:=15) (d:=29) (v:= .agg #[O U lg.pull,O U lg.brake,O U lg.drag,O U lg.hill,O U lg.round,O U lg.hold]) rfl rfl (Or.inl ⟨rfl,by rintro W' ⟨s0,s1⟩;have y:=s0.cell;have x:=s1.cell;go_simp⟩) HS.out ?_
        simp only [Act.put,sB,sZ,sS]
        refine hTk (i:=16) (d:=30) (v:= .bool ok) rfl rfl (Or.inl ⟨rfl,by rintro W' ⟨s0,s1⟩;have y:=s0.cell;have x:=s1.cell;go_simp⟩) HS.out ?_
        simp only [Act.put,sB,sZ,sS]
        refine wpAnyH_ready (rs:= [18]) (by kernel_rfl) (by simp) ?_
        refine AllReadyH.cons rfl (fun K hK=> ?_) AllReadyH.nil
        rw [if_pos (by rfl)]
        go_simp
        have ql:=Rw.new v3 #[O U 0,O U 0,O U 0,O U 0,O U 0,O U 0] 37
        have hne:=qs.lt
        replace qs:=qs.alloc (.cells #[O U 0,O U 0,O U 0,O U 0,O U 0,O U 0] 37)
        have hlb:=hbq.size
        replace hbq:=hbq.alloc hbq.size (.cells #[O U 0,O U 0,O U 0,O U 0,O U 0,O U 0] 37)
        obtain⟨lb,hn⟩:∃z,v3.heap.size=z:=⟨_,rfl⟩
        obtain⟨wl,hw⟩:∃z,v3.alloc (.cells #[O U 0,O U 0,O U 0,O U 0,O U 0,O U 0] 37)=z:=⟨_,rfl⟩
        rw [hw] at ql hbq qs ⊢
        rw [hn] at ql hlb hne ⊢
        clear hn hw
        have HS:=Z (HSK.out _ hbq)
        refine hK.out _ _ HS.out (fun _=> ?_)
        clear hK K
        try simp only [Act.put,sB,sZ,sS]
        exact key _ _ ⟨sb,lb,rfl,hbq,qs,ql,by omega,by omega,by omega⟩
       ·rw [if_pos (by rfl)]
        go_simp
        have ql:=Rw.new v2 #[O U 0,O U 0,O U 0,O U 0,O U 0,O U 0] 37
        have hne:=qs.lt
        replace qs:=qs.alloc (.cells #[O U 0,O U 0,O U 0,O U 0,O U 0,O U 0] 37)
        have hlb:=hbq.size
        replace hbq:=hbq.alloc hbq.size (.cells #[O U 0,O U 0,O U 0,O U 0,O U 0,O U 0] 37)
        obtain⟨lb,hn⟩:∃z,v2.heap.size=z:=⟨_,rfl⟩
        obtain⟨wl,hw⟩:∃z,v2.alloc (.cells #[O U 0,O U 0,O U 0,O U 0,O U 0,O U 0] 37)=z:=⟨_,rfl⟩
        rw [hw] at ql hbq qs ⊢
        rw [hn] at ql hlb hne ⊢
        clear hn hw
        have HS:=Z (HSK.out _ hbq)
        refine hK.out _ _ HS.out (fun _=> ?_)
        clear hK K
        try simp only [Act.put,sB,sZ,sS]
        refine wpAnyH_ready (rs:= [12]) (by kernel_rfl) (by simp) ?_
        refine AllReadyH.cons rfl (fun K hK=> ?_) AllReadyH.nil
        rw [if_pos (by rfl)]
        go_simp
        go_at_call 23
        (with_reducible refine (HST.out _ hbq).mono ?_)
        rintro e v3 ⟨rfl,hbn⟩
        replace hbq:=hbq.trans (hbn.mono hbq.size)
        replace qs:=qs.below hbn qs.lt
        replace ql:=ql.below hbn ql.lt
        clear hbn
        have HS:=Z (HSK.out _ hbq)
        refine hK.out _ _ HS.out (fun _=> ?_)
        clear hK K
        try simp only [Act.put,sB,sZ,sS]
        refine hTk (i:=13) (d:=14) (v:= .tuple #[.agg #[O U q,O U (y_+q)],.agg #[O U lg.pull,O U lg.brake,O U lg.drag,O U lg.hill,O U lg.round,O U lg.hold],.bool ok]) rfl rfl (Or.inl ⟨rfl,by rintro W' ⟨s0,s1⟩;have y:=s0.cell;have x:=s1.cell;go_simp⟩) HS.out ?_
        simp only [Act.put,sB,sZ,sS]
        refine hTk (i:=14) (d:=28) (v:= .agg #[O U q,O U (y_+q)]) rfl rfl (Or.inl ⟨rfl,by rintro W' ⟨s0,s1⟩;have y:=s0.cell;have x:=s1.cell;go_simp⟩) HS.out ?_
        simp only [Act.put,sB,sZ,sS]
        refine hTk (i:=15) (d:=29) (v:= .agg #[O U lg.pull,O U lg.brake,O U lg.drag,O U lg.hill,O U lg.round,O U lg.hold]) rfl rfl (Or.inl ⟨rfl,by rintro W' ⟨s0,s1⟩;have y:=s0.cell;have x:=s1.cell;go_simp⟩) HS.out ?_
        simp only [Act.put,sB,sZ,sS]
        refine hTk (i:=16) (d:=30) (v:= .bool ok) rfl rfl (Or.inl ⟨rfl,by rintro W' ⟨s0,s1⟩;have y:=s0.cell;have x:=s1.cell;go_simp⟩) HS.out ?_
        simp only [Act.put,sB,sZ,sS]
        exact key _ _ ⟨sb,lb,rfl,hbq,qs,ql,by omega,by omega,by omega⟩
      ·rw [if_pos (by rfl)]
       go_simp
       have ql:=Rw.new ws #[O U 0,O U 0,O U 0,O U 0,O U 0,O U 0] 37
       have hne:=qs.lt
       replace qs:=qs.alloc (.cells #[O U 0,O U 0,O U 0,O U 0,O U 0,O U 0] 37)
       have hlb:=hbq.size
       replace hbq:=hbq.alloc hbq.size (.cells #[O U 0,O U 0,O U 0,O U 0,O U 0,O U 0] 37)
       obtain⟨lb,hn⟩:∃z,ws.heap.size=z:=⟨_,rfl⟩
       obtain⟨wl,hw⟩:∃z,ws.alloc (.cells #[O U 0,O U 0,O U 0,O U 0,O U 0,O U 0] 37)=z:=⟨_,rfl⟩
       rw [hw] at ql hbq qs ⊢
       rw [hn] at ql hlb hne ⊢
       clear hn hw
       have HS:=Z (HSK.out _ hbq)
       refine hK.out _ _ HS.out (fun _=> ?_)
       clear hK K
       try simp only [Act.put,sB,sZ,sS]
       refine wpAnyH_ready (rs:= [9]) (by kernel_rfl) (by simp) ?_
       refine AllReadyH.cons rfl (fun K hK=> ?_) AllReadyH.nil
       rw [if_pos (by rfl)]
       go_simp
       go_at_call 65
       (with_reducible refine (HSL.out _ hbq).mono ?_)
       rintro e v2 ⟨rfl,hbn⟩
       replace hbq:=hbq.trans (hbn.mono hbq.size)
       replace qs:=qs.below hbn qs.lt
       replace ql:=ql.below hbn ql.lt
       clear hbn
       have HS:=Z (HSK.out _ hbq)
       refine hK.out _ _ HS.out (fun _=> ?_)
       clear hK K
       try simp only [Act.put,sB,sZ,sS]
       refine wpAnyH_ready (rs:= [12]) (by kernel_rfl) (by simp) ?_
       refine AllReadyH.cons rfl (fun K hK=> ?_) AllReadyH.nil
       rw [if_pos (by rfl)]
       go_simp
       go_at_call 23
       (with_reducible refine (HST.out _ hbq).mono ?_)
       rintro e v3 ⟨rfl,hbn⟩
       replace hbq:=hbq.trans (hbn.mono hbq.size)
       replace qs:=qs.below hbn qs.lt
       replace ql:=ql.below hbn ql.lt
       clear hbn
       have HS:=Z (HSK.out _ hbq)
       refine hK.out _ _ HS.out (fun _=> ?_)
       clear hK K
       try simp only [Act.put,sB,sZ,sS]
       refine hTk (i:=13) (d:=14) (v:= .tuple #[.agg #[O U q,O U (y_+q)],.agg #[O U lg.pull,O U lg.brake,O U lg.drag,O U lg.hill,O U lg.round,O U lg.hold],.bool ok]) rfl rfl (Or.inl ⟨rfl,by rintro W' ⟨s0,s1⟩;have y:=s0.cell;have x:=s1.cell;go_simp⟩) HS.out ?_
       simp only [Act.put,sB,sZ,sS]
       refine hTk (i:=14) (d:=28) (v:= .agg #[O U q,O U (y_+q)]) rfl rfl (Or.inl ⟨rfl,by rintro W' ⟨s0,s1⟩;have y:=s0.cell;have x:=s1.cell;go_simp⟩) HS.out ?_
       simp only [Act.put,sB,sZ,sS]
       refine hTk (i:=15) (d:=29) (v:= .agg #[O U lg.pull,O U lg.brake,O U lg.drag,O U lg.hill,O U lg.round,O U lg.hold]) rfl rfl (Or.inl ⟨rfl,by rintro W' ⟨s0,s1⟩;have y:=s0.cell;have x:=s1.cell;go_simp⟩) HS.out ?_
       simp only [Act.put,sB,sZ,sS]
       refine hTk (i:=16) (d:=30) (v:= .bool ok) rfl rfl (Or.inl ⟨rfl,by rintro W' ⟨s0,s1⟩;have y:=s0.cell;have x:=s1.cell;go_simp⟩) HS.out ?_
       simp only [Act.put,sB,sZ,sS]
       exact key _ _ ⟨sb,lb,rfl,hbq,qs,ql,by omega,by omega,by omega⟩
     ·rw [if_pos (by rfl)]
      go_simp
      have ql:=Rw.new v1 #[O U 0,O U 0,O U 0,O U 0,O U 0,O U 0] 37
      have hlb:=hbq.size
      replace hbq:=hbq.alloc hbq.size (.cells #[O U 0,O U 0,O U 0,O U 0,O U 0,O U 0] 37)
      obtain⟨lb,hn⟩:∃z,v1.heap.size=z:=⟨_,rfl⟩
      obtain⟨wl,hw⟩:∃z,v1.alloc (.cells #[O U 0,O U 0,O U 0,O U 0,O U 0,O U 0] 37)=z:=⟨_,rfl⟩
      rw [hw] at ql hbq ⊢
      rw [hn] at ql hlb ⊢
      clear hn hw
      have HS:=Z (HSK.out _ hbq)
      refine hK.out _ _ HS.out (fun _=> ?_)
      clear hK K
      try simp only [Act.put,sB,sZ,sS]
      refine wpAnyH_ready (rs:= [9,17]) (by kernel_rfl) (by simp) ?_
      refine AllReadyH.cons rfl (fun K hK=> ?_) (AllReadyH.cons rfl (fun K hK=> ?_) AllReadyH.nil)
      ·rw [if_pos (by rfl)]
       go_simp
       go_at_call 65
       (with_reducible refine (HSL.out _ hbq).mono ?_)
       rintro e v2 ⟨rfl,hbn⟩
       replace hbq:=hbq.trans (hbn.mono hbq.size)
       replace ql:=ql.below hbn ql.lt
       clear hbn
       have HS:=Z (HSK.out _ hbq)
       refine hK.out _ _ HS.out (fun _=> ?_)
       clear hK K
       try simp only [Act.put,sB,sZ,sS]
       refine wpAnyH_ready (rs:= [12,17]) (by kernel_rfl) (by simp) ?_
       refine AllReadyH.cons rfl (fun K hK=> ?_) (AllReadyH.cons rfl (fun K hK=> ?_) AllReadyH.nil)
       ·rw [if_pos (by rfl)]
        go_simp
        go_at_call 23
        (with_reducible refine (HST.out _ hbq).mono ?_)
        rintro e v3 ⟨rfl,hbn⟩
        replace hbq:=hbq.trans (hbn.mono hbq.size)
        replace ql:=ql.below hbn ql.lt
        clear hbn
        have HS:=Z (HSK.out _ hbq)
        refine hK.out _ _ HS.out (fun _=> ?_)
        clear hK K
        try simp only [Act.put,sB,sZ,sS]
        refine hTk (i:=13) (d:=14) (v:= .tuple #[.agg #[O U q,O U (y_+q)],.agg #[O U lg.pull,O U lg.brake,O U lg.drag,O U lg.hill,O U lg.round,O U lg.hold],.bool ok]) rfl rfl (Or.inl ⟨rfl,by rintro W' ⟨s0,s1⟩;have y:=s0.cell;have x:=s1.cell;go_simp⟩) HS.out ?_
        simp only [Act.put,sB,sZ,sS]
        refine hTk (i:=14) (d:=28) (v:= .agg #[O U q,O U (y_+q)]) rfl rfl (Or.inl ⟨rfl,by rintro W' ⟨s0,s1⟩;have y:=s0.cell;have x:=s1.cell;go_simp⟩) HS.out ?_
        simp only [Act.put,sB,sZ,sS]
        refine hTk (i:=15) (d:=29) (v:= .agg #[O U lg.pull,O U lg.brake,O U lg.drag,O U lg.hill,O U lg.round,O U lg.hold]) rfl rfl (Or.inl ⟨rfl,by rintro W' ⟨s0,s1⟩;have y:=s0.cell;have x:=s1.cell;go_simp⟩) HS.out ?_
        simp only [Act.put,sB,sZ,sS]
        refine hTk (i:=16) (d:=30) (v:= .bool ok) rfl rfl (Or.inl ⟨rfl,by rintro W' ⟨s0,s1⟩;have y:=s0.cell;have x:=s1.cell;go_simp⟩) HS.out ?_
        simp only [Act.put,sB,sZ,sS]
        refine wpAnyH_ready (rs:= [17]) (by kernel_rfl) (by simp) ?_
        refine AllReadyH.cons rfl (fun K hK=> ?_) AllReadyH.nil
        rw [if_pos (by rfl)]
        go_simp
        have qs:=Rw.new v3 #[O U 0,O U 0] 35
        have hne:=ql.lt
        replace ql:=ql.alloc (.cells #[O U 0,O U 0] 35)
        have hsb:=hbq.size
        replace hbq:=hbq.alloc hbq.size (.cells #[O U 0,O U 0] 35)
        obtain⟨sb,hn⟩:∃z,v3.heap.size=z:=⟨_,rfl⟩
        obtain⟨ws,hw⟩:∃z,v3.alloc (.cells #[O U 0,O U 0] 35)=z:=⟨_,rfl⟩
        rw [hw] at qs hbq ql ⊢
        rw [hn] at qs hsb hne ⊢
        clear hn hw
        have HS:=Z (HSK.out _ hbq)
        refine hK.out _ _ HS.out (fun _=> ?_)
        clear hK K
        try simp only [Act.put,sB,sZ,sS]
        exact key _ _ ⟨sb,lb,rfl,hbq,qs,ql,by omega,by omega,by omega⟩
       ·rw [if_pos (by rfl)]
        go_simp
        have qs:=Rw.new v2 #[O U 0,O U 0] 35
        have hne:=ql.lt
        replace ql:=ql.alloc (.cells #[O U 0,O U 0] 35)
        have hsb:=hbq.size
        replace hbq:=hbq.alloc hbq.size (.cells #[O U 0,O U 0] 35)
        obtain⟨sb,hn⟩:∃z,v2.heap.size=z:=⟨_,rfl⟩
        obtain⟨ws,hw⟩:∃z,v2.alloc (.cells #[O U 0,O U 0] 35)=z:=⟨_,rfl⟩
        rw [hw] at qs hbq ql ⊢
        rw [hn] at qs hsb hne ⊢
        clear hn hw
        have HS:=Z (HSK.out _ hbq)
        refine hK.out _ _ HS.out (fun _=> ?_)
        clear hK K
        try simp only [Act.put,sB,sZ,sS]
        refine wpAnyH_ready (rs:= [12]) (by kernel_rfl) (by simp) ?_
        refine AllReadyH.cons rfl (fun K hK=> ?_) AllReadyH.nil
        rw [if_pos (by rfl)]
        go_simp
        go_at_call 23
        (with_reducible refine (HST.out _ hbq).mono ?_)
        rintro e v3 ⟨rfl,hbn⟩
        replace hbq:=hbq.trans (hbn.mono hbq.size)
        replace qs:=qs.below hbn qs.lt
        replace ql:=ql.below hbn ql.lt
        clear hbn
        have HS:=Z (HSK.out _ hbq)
        refine hK.out _ _ HS.out (fun _=> ?_)
        clear hK K
        try simp only [Act.put,sB,sZ,sS]
        refine hTk (i:=13) (d:=14) (v:= .tuple #[.agg #[O U q,O U (y_+q)],.agg #[O U lg.pull,O U lg.brake,O U lg.drag,O U lg.hill,O U lg.round,O U lg.hold],.bool ok]) rfl rfl (Or.inl ⟨rfl,by rintro W' ⟨s0,s1⟩;have y:=s0.cell;have x:=s1.cell;go_simp⟩) HS.out ?_
        simp only [Act.put,sB,sZ,sS]
        refine hTk (i:=14) (d:=28) (v:= .agg #[O U q,O U (y_+q)]) rfl rfl (Or.inl ⟨rfl,by rintro W' ⟨s0,s1⟩;have y:=s0.cell;have x:=s1.cell;go_simp⟩) HS.out ?_
        simp only [Act.put,sB,sZ,sS]
        refine hTk (i:=15) (d:=29) (v:= .agg #[O U lg.pull,O U lg.brake,O U lg.drag,O U lg.hill,O U lg.round,O U lg.hold]) rfl rfl (Or.inl ⟨rfl,by rintro W' ⟨s0,s1⟩;have y:=s0.cell;have x:=s1.cell;go_simp⟩) HS.out ?_
        simp only [Act.put,sB,sZ,sS]
        refine hTk (i:=16) (d:=30) (v:= .bool ok) rfl rfl (Or.inl ⟨rfl,by rintro W' ⟨s0,s1⟩;have y:=s0.cell;have x:=s1.cell;go_simp⟩) HS.out ?_
        simp only [Act.put,sB,sZ,sS]
        exact key _ _ ⟨sb,lb,rfl,hbq,qs,ql,by omega,by omega,by omega⟩
      ·rw [if_pos (by rfl)]
       go_simp
       have qs:=Rw.new wl #[O U 0,O U 0] 35
       have hne:=ql.lt
       replace ql:=ql.alloc (.cells #[O U 0,O U 0] 35)
       have hsb:=hbq.size
       replace hbq:=hbq.alloc hbq.size (.cells #[O U 0,O U 0] 35)
       obtain⟨sb,hn⟩:∃z,wl.heap.size=z:=⟨_,rfl⟩
       obtain⟨ws,hw⟩:∃z,wl.alloc (.cells #[O U 0,O U 0] 35)=z:=⟨_,rfl⟩
       rw [hw] at qs hbq ql ⊢
       rw [hn] at qs hsb hne ⊢
       clear hn hw
       have HS:=Z (HSK.out _ hbq)
       refine hK.out _ _ HS.out (fun _=> ?_)
       clear hK K
       try simp only [Act.put,sB,sZ,sS]
       refine wpAnyH_ready (rs:= [9]) (by kernel_rfl) (by simp) ?_
       refine AllReadyH.cons rfl (fun K hK=> ?_) AllReadyH.nil
       rw [if_pos (by rfl)]
       go_simp
       go_at_call 65
       (with_reducible refine (HSL.out _ hbq).mono ?_)
       rintro e v2 ⟨rfl,hbn⟩
       replace hbq:=hbq.trans (hbn.mono hbq.size)
       replace qs:=qs.below hbn qs.lt
       replace ql:=ql.below hbn ql.lt
       clear hbn
       have HS:=Z (HSK.out _ hbq)
       refine hK.out _ _ HS.out (fun _=> ?_)
       clear hK K
       try simp only [Act.put,sB,sZ,sS]
       refine wpAnyH_ready (rs:= [12]) (by kernel_rfl) (by simp) ?_
       refine AllReadyH.cons rfl (fun K hK=> ?_) AllReadyH.nil
       rw [if_pos (by rfl)]
       go_simp
       go_at_call 23
       (with_reducible refine (HST.out _ hbq).mono ?_)
       rintro e v3 ⟨rfl,hbn⟩
       replace hbq:=hbq.trans (hbn.mono hbq.size)
       replace qs:=qs.below hbn qs.lt
       replace ql:=ql.below hbn ql.lt
       clear hbn
       have HS:=Z (HSK.out _ hbq)
       refine hK.out _ _ HS.out (fun _=> ?_)
       clear hK K
       try simp only [Act.put,sB,sZ,sS]
       refine hTk (i:=13) (d:=14) (v:= .tuple #[.agg #[O U q,O U (y_+q)],.agg #[O U lg.pull,O U lg.brake,O U lg.drag,O U lg.hill,O U lg.round,O U lg.hold],.bool ok]) rfl rfl (Or.inl ⟨rfl,by rintro W' ⟨s0,s1⟩;have y:=s0.cell;have x:=s1.cell;go_simp⟩) HS.out ?_
       simp only [Act.put,sB,sZ,sS]
       refine hTk (i:=14) (d:=28) (v:= .agg #[O U q,O U (y_+q)]) rfl rfl (Or.inl ⟨rfl,by rintro W' ⟨s0,s1⟩;have y:=s0.cell;have x:=s1.cell;go_simp⟩) HS.out ?_
       simp only [Act.put,sB,sZ,sS]
       refine hTk (i:=15) (d:=29) (v:= .agg #[O U lg.pull,O U lg.brake,O U lg.drag,O U lg.hill,O U lg.round,O U lg.hold]) rfl rfl (Or.inl ⟨rfl,by rintro W' ⟨s0,s1⟩;have y:=s0.cell;have x:=s1.cell;go_simp⟩) HS.out ?_
       simp only [Act.put,sB,sZ,sS]
       refine hTk (i:=16) (d:=30) (v:= .bool ok) rfl rfl (Or.inl ⟨rfl,by rintro W' ⟨s0,s1⟩;have y:=s0.cell;have x:=s1.cell;go_simp⟩) HS.out ?_
       simp only [Act.put,sB,sZ,sS]
       exact key _ _ ⟨sb,lb,rfl,hbq,qs,ql,by omega,by omega,by omega⟩
    ·rw [if_pos (by rfl)]
     go_simp
     have qs:=Rw.new wd #[O U 0,O U 0] 35
     have hsb:=hbq.size
     replace hbq:=hbq.alloc hbq.size (.cells #[O U 0,O U 0] 35)
     obtain⟨sb,hn⟩:∃z,wd.heap.size=z:=⟨_,rfl⟩
     obtain⟨ws,hw⟩:∃z,wd.alloc (.cells #[O U 0,O U 0] 35)=z:=⟨_,rfl⟩
     rw [hw] at qs hbq ⊢
     rw [hn] at qs hsb ⊢
     clear hn hw
     have HS:=Z (HSK.out _ hbq)
     refine hK.out _ _ HS.out (fun _=> ?_)
     clear hK K
     try simp only [Act.put,sB,sZ,sS]
     refine wpAnyH_ready (rs:= [8,18]) (by kernel_rfl) (by simp) ?_
     refine AllReadyH.cons rfl (fun K hK=> ?_) (AllReadyH.cons rfl (fun K hK=> ?_) AllReadyH.nil)
     ·rw [if_pos (by rfl)]
      go_simp
      go_at_call 53
      (with_reducible refine (HPL.out _ hbq).mono ?_)
      rintro e v1 ⟨rfl,hbn⟩
      replace hbq:=hbq.trans (hbn.mono hbq.size)
      replace qs:=qs.below hbn qs.lt
      clear hbn
      have HS:=Z (HSK.out _ hbq)
      refine hK.out _ _ HS.out (fun _=> ?_)
      clear hK K
      try simp only [Act.put,sB,sZ,sS]
      refine wpAnyH_ready (rs:= [9,18]) (by kernel_rfl) (by simp) ?_
      refine AllReadyH.cons rfl (fun K hK=> ?_) (AllReadyH.cons rfl (fun K hK=> ?_) AllReadyH.nil)
      ·rw [if_pos (by rfl)]
       go_simp
       go_at_call 65
       (with_reducible refine (HSL.out _ hbq).mono ?_)
       rintro e v2 ⟨rfl,hbn⟩
       replace hbq:=hbq.trans (hbn.mono hbq.size)
       replace qs:=qs.below hbn qs.lt
       clear hbn
       have HS:=Z (HSK.out _ hbq)
       refine hK.out _ _ HS.out (fun _=> ?_)
       clear hK K
       try simp only [Act.put,sB,sZ,sS]
       refine wpAnyH_ready (rs:= [12,18]) (by kernel_rfl) (by simp) ?_
       refine AllReadyH.cons rfl (fun K hK=> ?_) (AllReadyH.cons rfl (fun K hK=> ?_) AllReadyH.nil)
       ·rw [if_pos (by rfl)]
        go_simp
        go_at_call 23
        (with_reducible refine (HST.out _ hbq).mono ?_)
        rintro e v3 ⟨rfl,hbn⟩
        replace hbq:=hbq.trans (hbn.mono hbq.size)
        replace qs:=qs.below hbn qs.lt
        clear hbn
        have HS:=Z (HSK.out _ hbq)
        refine hK.out _ _ HS.out (fun _=> ?_)
        clear hK K
        try simp only [Act.put,sB,sZ,sS]
        refine hTk (i:=13) (d:=14) (v:= .tuple #[.agg #[O U q,O U (y_+q)],.agg #[O U lg.pull,O U lg.brake,O U lg.drag,O U lg.hill,O U lg.round,O U lg.hold],.bool ok]) rfl rfl (Or.inl ⟨rfl,by rintro W' ⟨s0,s1⟩;have y:=s0.cell;have x:=s1.cell;go_simp⟩) HS.out ?_
        simp only [Act.put,sB,sZ,sS]
        refine hTk (i:=14) (d:=28) (v:= .agg #[O U q,O U (y_+q)]) rfl rfl (Or.inl ⟨rfl,by rintro W' ⟨s0,s1⟩;have y:=s0.cell;have x:=s1.cell;go_simp⟩) HS.out ?_
        simp only [Act.put,sB,sZ,sS]
        refine hTk (i:=15) (d:=29) (v:= .agg #[O U lg.pull,O U lg.brake,O U lg.drag,O U lg.hill,O U lg.round,O U lg.hold]) rfl rfl (Or.inl ⟨rfl,by rintro W' ⟨s0,s1⟩;have y:=s0.cell;have x:=s1.cell;go_simp⟩) HS.out ?_
        simp only [Act.put,sB,sZ,sS]
        refine hTk (i:=16) (d:=30) (v:= .bool ok) rfl rfl (Or.inl ⟨rfl,by rintro W' ⟨s0,s1⟩;have y:=s0.cell;have x:=s1.cell;go_simp⟩) HS.out ?_
        simp only [Act.put,sB,sZ,sS]
        refine wpAnyH_ready (rs:= [18]) (by kernel_rfl) (by simp) ?_
        refine AllReadyH.cons rfl (fun K hK=> ?_) AllReadyH.nil
        rw [if_pos (by rfl)]
        go_simp
        have ql:=Rw.new v3 #[O U 0,O U 0,O U 0,O U 0,O U 0,O U 0] 37
        have hne:=qs.lt
        replace qs:=qs.alloc (.cells #[O U 0,O U 0,O U 0,O U 0,O U 0,O U 0] 37)
        have hlb:=hbq.size
        replace hbq:=hbq.alloc hbq.size (.cells #[O U 0,O U 0,O U 0,O U 0,O U 0,O U 0] 37)
        obtain⟨lb,hn⟩:∃z,v3.heap.size=z:=⟨_,rfl⟩
        obtain⟨wl,hw⟩:∃z,v3.alloc (.cells #[O U 0,O U 0,O U 0,O U 0,O U 0,O U 0] 37)=z:=⟨_,rfl⟩
        rw [hw] at ql hbq qs ⊢
        rw [hn] at ql hlb hne ⊢
        clear hn hw
        have HS:=Z (HSK.out _ hbq)
        refine hK.out _ _ HS.out (fun _=> ?_)
        clear hK K
        try simp only [Act.put,sB,sZ,sS]
        exact key _ _ ⟨sb,lb,rfl,hbq,qs,ql,by omega,by omega,by omega⟩
       ·rw [if_pos (by rfl)]
        go_simp
        have ql:=Rw.new v2 #[O U 0,O U 0,O U 0,O U 0,O U 0,O U 0] 37
        have hne:=qs.lt
        replace qs:=qs.alloc (.cells #[O U 0,O U 0,O U 0,O U 0,O U 0,O U 0] 37)
        have hlb:=hbq.size
        replace hbq:=hbq.alloc hbq.size (.cells #[O U 0,O U 0,O U 0,O U 0,O U 0,O U 0] 37)
        obtain⟨lb,hn⟩:∃z,v2.heap.size=z:=⟨_,rfl⟩
        obtain⟨wl,hw⟩:∃z,v2.alloc (.cells #[O U 0,O U 0,O U 0,O U 0,O U 0,O U 0] 37)=z:=⟨_,rfl⟩
        rw [hw] at ql hbq qs ⊢
        rw [hn] at ql hlb hne ⊢
        clear hn hw
        have HS:=Z (HSK.out _ hbq)
        refine hK.out _ _ HS.out (fun _=> ?_)
        clear hK K
        try simp only [Act.put,sB,sZ,sS]
        refine wpAnyH_ready (rs:= [12]) (by kernel_rfl) (by simp) ?_
        refine AllReadyH.cons rfl (fun K hK=> ?_) AllReadyH.nil
        rw [if_pos (by rfl)]
        go_simp
        go_at_call 23
        (with_reducible refine (HST.out _ hbq).mono ?_)
        rintro e v3 ⟨rfl,hbn⟩
        replace hbq:=hbq.trans (hbn.mono hbq.size)
        replace qs:=qs.below hbn qs.lt
        replace ql:=ql.below hbn ql.lt
        clear hbn
        have HS:=Z (HSK.out _ hbq)
        refine hK.out _ _ HS.out (fun _=> ?_)
        clear hK K
        try simp only [Act.put,sB,sZ,sS]
        refine hTk (i:=13) (d:=14) (v:= .tuple #[.agg #[O U q,O U (y_+q)],.agg #[O U lg.pull,O U lg.brake,O U lg.drag,O U lg.hill,O U lg.round,O U lg.hold],.bool ok]) rfl rfl (Or.inl ⟨rfl,by rintro W' ⟨s0,s1⟩;have y:=s0.cell;have x:=s1.cell;go_simp⟩) HS.out ?_
        simp only [Act.put,sB,sZ,sS]
        refine hTk (i:=14) (d:=28) (v:= .agg #[O U q,O U (y_+q)]) rfl rfl (Or.inl ⟨rfl,by rintro W' ⟨s0,s1⟩;have y:=s0.cell;have x:=s1.cell;go_simp⟩) HS.out ?_
        simp only [Act.put,sB,sZ,sS]
        refine hTk (i:=15) (d:=29) (v:= .agg #[O U lg.pull,O U lg.brake,O U lg.drag,O U lg.hill,O U lg.round,O U lg.hold]) rfl rfl (Or.inl ⟨rfl,by rintro W' ⟨s0,s1⟩;have y:=s0.cell;have x:=s1.cell;go_simp⟩) HS.out ?_
        simp only [Act.put,sB,sZ,sS]
        refine hTk (i:=16) (d:=30) (v:= .bool ok) rfl rfl (Or.inl ⟨rfl,by rintro W' ⟨s0,s1⟩;have y:=s0.cell;have x:=s1.cell;go_simp⟩) HS.out ?_
        simp only [Act.put,sB,sZ,sS]
        exact key _ _ ⟨sb,lb,rfl,hbq,qs,ql,by omega,by omega,by omega⟩
      ·rw [if_pos (by rfl)]
       go_simp
       have ql:=Rw.new v1 #[O U 0,O U 0,O U 0,O U 0,O U 0,O U 0] 37
       have hne:=qs.lt
       replace qs:=qs.alloc (.cells #[O U 0,O U 0,O U 0,O U 0,O U 0,O U 0] 37)
       have hlb:=hbq.size
       replace hbq:=hbq.alloc hbq.size (.cells #[O U 0,O U 0,O U 0,O U 0,O U 0,O U 0] 37)
       obtain⟨lb,hn⟩:∃z,v1.heap.size=z:=⟨_,rfl⟩
       obtain⟨wl,hw⟩:∃z,v1.alloc (.cells #[O U 0,O U 0,O U 0,O U 0,O U 0,O U 0] 37)=z:=⟨_,rfl⟩
       rw [hw] at ql hbq qs ⊢
       rw [hn] at ql hlb hne ⊢
       clear hn hw
       have HS:=Z (HSK.out _ hbq)
       refine hK.out _ _ HS.out (fun _=> ?_)
       clear hK K
       try simp only [Act.put,sB,sZ,sS]
       refine wpAnyH_ready (rs:= [9]) (by kernel_rfl) (by simp) ?_
       refine AllReadyH.cons rfl (fun K hK=> ?_) AllReadyH.nil
       rw [if_pos (by rfl)]
       go_simp
       go_at_call 65
       (with_reducible refine (HSL.out _ hbq).mono ?_)
       rintro e v2 ⟨rfl,hbn⟩
       replace hbq:=hbq.trans (hbn.mono hbq.size)
       replace qs:=qs.below hbn qs.lt
       replace ql:=ql.below hbn ql.lt
       clear hbn
       have HS:=Z (HSK.out _ hbq)
       refine hK.out _ _ HS.out (fun _=> ?_)
       clear hK K
       try simp only [Act.put,sB,sZ,sS]
       refine wpAnyH_ready (rs:= [12]) (by kernel_rfl) (by simp) ?_
       refine AllReadyH.cons rfl (fun K hK=> ?_) AllReadyH.nil
       rw [if_pos (by rfl)]
       go_simp
       go_at_call 23
       (with_reducible refine (HST.out _ hbq).mono ?_)
       rintro e v3 ⟨rfl,hbn⟩
       replace hbq:=hbq.trans (hbn.mono hbq.size)
       replace qs:=qs.below hbn qs.lt
       replace ql:=ql.below hbn ql.lt
       clear hbn
       have HS:=Z (HSK.out _ hbq)
       refine hK.out _ _ HS.out (fun _=> ?_)
       clear hK K
       try simp only [Act.put,sB,sZ,sS]
       refine hTk (i:=13) (d:=14) (v:= .tuple #[.agg #[O U q,O U (y_+q)],.agg #[O U lg.pull,O U lg.brake,O U lg.drag,O U lg.hill,O U lg.round,O U lg.hold],.bool ok]) rfl rfl (Or.inl ⟨rfl,by rintro W' ⟨s0,s1⟩;have y:=s0.cell;have x:=s1.cell;go_simp⟩) HS.out ?_
       simp only [Act.put,sB,sZ,sS]
       refine hTk (i:=14) (d:=28) (v:= .agg #[O U q,O U (y_+q)]) rfl rfl (Or.inl ⟨rfl,by rintro W' ⟨s0,s1⟩;have y:=s0.cell;have x:=s1.cell;go_simp⟩) HS.out ?_
       simp only [Act.put,sB,sZ,sS]
       refine hTk (i:=15) (d:=29) (v:= .agg #[O U lg.pull,O U lg.brake,O U lg.drag,O U lg.hill,O U lg.round,O U lg.hold]) rfl rfl (Or.inl ⟨rfl,by rintro W' ⟨s0,s1⟩;have y:=s0.cell;have x:=s1.cell;go_simp⟩) HS.out ?_
       simp only [Act.put,sB,sZ,sS]
       refine hTk (i:=16) (d:=30) (v:= .bool ok) rfl rfl (Or.inl ⟨rfl,by rintro W' ⟨s0,s1⟩;have y:=s0.cell;have x:=s1.cell;go_simp⟩) HS.out ?_
       simp only [Act.put,sB,sZ,sS]
       exact key _ _ ⟨sb,lb,rfl,hbq,qs,ql,by omega,by omega,by omega⟩
     ·rw [if_pos (by rfl)]
      go_simp
      have ql:=Rw.new ws #[O U 0,O U 0,O U 0,O U 0,O U 0,O U 0] 37
      have hne:=qs.lt
      replace qs:=qs.alloc (.cells #[O U 0,O U 0,O U 0,O U 0,O U 0,O U 0] 37)
      have hlb:=hbq.size
      replace hbq:=hbq.alloc hbq.size (.cells #[O U 0,O U 0,O U 0,O U 0,O U 0,O U 0] 37)
      obtain⟨lb,hn⟩:∃z,ws.heap.size=z:=⟨_,rfl⟩
      obtain⟨wl,hw⟩:∃z,ws.alloc (.cells #[O U 0,O U 0,O U 0,O U 0,O U 0,O U 0] 37)=z:=⟨_,rfl⟩
      rw [hw] at ql hbq qs ⊢
      rw [hn] at ql hlb hne ⊢
      clear hn hw
      have HS:=Z (HSK.out _ hbq)
      refine hK.out _ _ HS.out (fun _=> ?_)
      clear hK K
      try simp only [Act.put,sB,sZ,sS]
      refine wpAnyH_ready (rs:= [8]) (by kernel_rfl) (by simp) ?_
      refine AllReadyH.cons rfl (fun K hK=> ?_) AllReadyH.nil
      rw [if_pos (by rfl)]
      go_simp
      go_at_call 53
      (with_reducible refine (HPL.out _ hbq).mono ?_)
      rintro e v1 ⟨rfl,hbn⟩
      replace hbq:=hbq.trans (hbn.mono hbq.size)
      replace qs:=qs.below hbn qs.lt
      replace ql:=ql.below hbn ql.lt
      clear hbn
      have HS:=Z (HSK.out _ hbq)
      refine hK.out _ _ HS.out (fun _=> ?_)
      clear hK K
      try simp only [Act.put,sB,sZ,sS]
      refine wpAnyH_ready (rs:= [9]) (by kernel_rfl) (by simp) ?_
      refine AllReadyH.cons rfl (fun K hK=> ?_) AllReadyH.nil
      rw [if_pos (by rfl)]
      go_simp
      go_at_call 65
      (with_reducible refine (HSL.out _ hbq).mono ?_)
      rintro e v2 ⟨rfl,hbn⟩
      replace hbq:=hbq.trans (hbn.mono hbq.size)
      replace qs:=qs.below hbn qs.lt
      replace ql:=ql.below hbn ql.lt
      clear hbn
      have HS:=Z (HSK.out _ hbq)
      refine hK.out _ _ HS.out (fun _=> ?_)
      clear hK K
      try simp only [Act.put,sB,sZ,sS]
      refine wpAnyH_ready (rs:= [12]) (by kernel_rfl) (by simp) ?_
      refine AllReadyH.cons rfl (fun K hK=> ?_) AllReadyH.nil
      rw [if_pos (by rfl)]
      go_simp
      go_at_call 23
      (with_reducible refine (HST.out _ hbq).mono ?_)
      rintro e v3 ⟨rfl,hbn⟩
      replace hbq:=hbq.trans (hbn.mono hbq.size)
      replace qs:=qs.below hbn qs.lt
      replace ql:=ql.below hbn ql.lt
      clear hbn
      have HS:=Z (HSK.out _ hbq)
      refine hK.out _ _ HS.out (fun _=> ?_)
      clear hK K
      try simp only [Act.put,sB,sZ,sS]
      refine hTk (i:=13) (d:=14) (v:= .tuple #[.agg #[O U q,O U (y_+q)],.agg #[O U lg.pull,O U lg.brake,O U lg.drag,O U lg.hill,O U lg.round,O U lg.hold],.bool ok]) rfl rfl (Or.inl ⟨rfl,by rintro W' ⟨s0,s1⟩;have y:=s0.cell;have x:=s1.cell;go_simp⟩) HS.out ?_
      simp only [Act.put,sB,sZ,sS]
      refine hTk (i:=14) (d:=28) (v:= .agg #[O U q,O U (y_+q)]) rfl rfl (Or.inl ⟨rfl,by rintro W' ⟨s0,s1⟩;have y:=s0.cell;have x:=s1.cell;go_simp⟩) HS.out ?_
      simp only [Act.put,sB,sZ,sS]
      refine hTk (i:=15) (d:=29) (v:= .agg #[O U lg.pull,O U lg.brake,O U lg.drag,O U lg.hill,O U lg.round,O U lg.hold]) rfl rfl (Or.inl ⟨rfl,by rintro W' ⟨s0,s1⟩;have y:=s0.cell;have x:=s1.cell;go_simp⟩) HS.out ?_
      simp only [Act.put,sB,sZ,sS]
      refine hTk (i:=16) (d:=30) (v:= .bool ok) rfl rfl (Or.inl ⟨rfl,by rintro W' ⟨s0,s1⟩;have y:=s0.cell;have x:=s1.cell;go_simp⟩) HS.out ?_
      simp only [Act.put,sB,sZ,sS]
      exact key _ _ ⟨sb,lb,rfl,hbq,qs,ql,by omega,by omega,by omega⟩
    ·rw [if_pos (by rfl)]
     go_simp
     have ql:=Rw.new wd #[O U 0,O U 0,O U 0,O U 0,O U 0,O U 0] 37
     have hlb:=hbq.size
     replace hbq:=hbq.alloc hbq.size (.cells #[O U 0,O U 0,O U 0,O U 0,O U 0,O U 0] 37)
     obtain⟨lb,hn⟩:∃z,wd.heap.size=z:=⟨_,rfl⟩
     obtain⟨wl,hw⟩:∃z,wd.alloc (.cells #[O U 0,O U 0,O U 0,O U 0,O U 0,O U 0] 37)=z:=⟨_,rfl⟩
     rw [hw] at ql hbq ⊢
     rw [hn] at ql hlb ⊢
     clear hn hw
     have HS:=Z (HSK.out _ hbq)
     refine hK.out _ _ HS.out (fun _=> ?_)
     clear hK K
     try simp only [Act.put,sB,sZ,sS]
     refine wpAnyH_ready (rs:= [8,17]) (by kernel_rfl) (by simp) ?_
     refine AllReadyH.cons rfl (fun K hK=> ?_) (AllReadyH.cons rfl (fun K hK=> ?_) AllReadyH.nil)
     ·rw [if_pos (by rfl)]
      go_simp
      go_at_call 53
      (with_reducible refine (HPL.out _ hbq).mono ?_)
      rintro e v1 ⟨rfl,hbn⟩
      replace hbq:=hbq.trans (hbn.mono hbq.size)
      replace ql:=ql.below hbn ql.lt
      clear hbn
      have HS:=Z (HSK.out _ hbq)
      refine hK.out _ _ HS.out (fun _=> ?_)
      clear hK K
      try simp only [Act.put,sB,sZ,sS]
      refine wpAnyH_ready (rs:= [9,17]) (by kernel_rfl) (by simp) ?_
      refine AllReadyH.cons rfl (fun K hK=> ?_) (AllReadyH.cons rfl (fun K hK=> ?_) AllReadyH.nil)
      ·rw [if_pos (by rfl)]
       go_simp
       go_at_call 65
       (with_reducible refine (HSL.out _ hbq).mono ?_)
       rintro e v2 ⟨rfl,hbn⟩
       replace hbq:=hbq.trans (hbn.mono hbq.size)
       replace ql:=ql.below hbn ql.lt
       clear hbn
       have HS:=Z (HSK.out _ hbq)
       refine hK.out _ _ HS.out (fun _=> ?_)
       clear hK K
       try simp only [Act.put,sB,sZ,sS]
       refine wpAnyH_ready (rs:= [12,17]) (by kernel_rfl) (by simp) ?_
       refine AllReadyH.cons rfl (fun K hK=> ?_) (AllReadyH.cons rfl (fun K hK=> ?_) AllReadyH.nil)
       ·rw [if_pos (by rfl)]
        go_simp
        go_at_call 23
        (with_reducible refine (HST.out _ hbq).mono ?_)
        rintro e v3 ⟨rfl,hbn⟩
        replace hbq:=hbq.trans (hbn.mono hbq.size)
        replace ql:=ql.below hbn ql.lt
        clear hbn
        have HS:=Z (HSK.out _ hbq)
        refine hK.out _ _ HS.out (fun _=> ?_)
        clear hK K
        try simp only [Act.put,sB,sZ,sS]
        refine hTk (i:=13) (d:=14) (v:= .tuple #[.agg #[O U q,O U (y_+q)],.agg #[O U lg.pull,O U lg.brake,O U lg.drag,O U lg.hill,O U lg.round,O U lg.hold],.bool ok]) rfl rfl (Or.inl ⟨rfl,by rintro W' ⟨s0,s1⟩;have y:=s0.cell;have x:=s1.cell;go_simp⟩) HS.out ?_
        simp only [Act.put,sB,sZ,sS]
        refine hTk (i:=14) (d:=28) (v:= .agg #[O U q,O U (y_+q)]) rfl rfl (Or.inl ⟨rfl,by rintro W' ⟨s0,s1⟩;have y:=s0.cell;have x:=s1.cell;go_simp⟩) HS.out ?_
        simp only [Act.put,sB,sZ,sS]
        refine hTk (i:=15) (d:=29) (v:= .agg #[O U lg.pull,O U lg.brake,O U lg.drag,O U lg.hill,O U lg.round,O U lg.hold]) rfl rfl (Or.inl ⟨rfl,by rintro W' ⟨s0,s1⟩;have y:=s0.cell;have x:=s1.cell;go_simp⟩) HS.out ?_
        simp only [Act.put,sB,sZ,sS]
        refine hTk (i:=16) (d:=30) (v:= .bool ok) rfl rfl (Or.inl ⟨rfl,by rintro W' ⟨s0,s1⟩;have y:=s0.cell;have x:=s1.cell;go_simp⟩) HS.out ?_
        simp only [Act.put,sB,sZ,sS]
        refine wpAnyH_ready (rs:= [17]) (by kernel_rfl) (by simp) ?_
        refine AllReadyH.cons rfl (fun K hK=> ?_) AllReadyH.nil
        rw [if_pos (by rfl)]
        go_simp
        have qs:=Rw.new v3 #[O U 0,O U 0] 35
        have hne:=ql.lt
        replace ql:=ql.alloc (.cells #[O U 0,O U 0] 35)
        have hsb:=hbq.size
        replace hbq:=hbq.alloc hbq.size (.cells #[O U 0,O U 0] 35)
        obtain⟨sb,hn⟩:∃z,v3.heap.size=z:=⟨_,rfl⟩
        obtain⟨ws,hw⟩:∃z,v3.alloc (.cells #[O U 0,O U 0] 35)=z:=⟨_,rfl⟩
        rw [hw] at qs hbq ql ⊢
        rw [hn] at qs hsb hne ⊢
        clear hn hw
        have HS:=Z (HSK.out _ hbq)
        refine hK.out _ _ HS.out (fun _=> ?_)
        clear hK K
        try simp only [Act.put,sB,sZ,sS]
        exact key _ _ ⟨sb,lb,rfl,hbq,qs,ql,by omega,by omega,by omega⟩
       ·rw [if_pos (by rfl)]
        go_simp
        have qs:=Rw.new v2 #[O U 0,O U 0] 35
        have hne:=ql.lt
        replace ql:=ql.alloc (.cells #[O U 0,O U 0] 35)
        have hsb:=hbq.size
        replace hbq:=hbq.alloc hbq.size (.cells #[O U 0,O U 0] 35)
        obtain⟨sb,hn⟩:∃z,v2.heap.size=z:=⟨_,rfl⟩
        obtain⟨ws,hw⟩:∃z,v2.alloc (.cells #[O U 0,O U 0] 35)=z:=⟨_,rfl⟩
        rw [hw] at qs hbq ql ⊢
        rw [hn] at qs hsb hne ⊢
        clear hn hw
        have HS:=Z (HSK.out _ hbq)
        refine hK.out _ _ HS.out (fun _=> ?_)
        clear hK K
        try simp only [Act.put,sB,sZ,sS]
        refine wpAnyH_ready (rs:= [12]) (by kernel_rfl) (by simp) ?_
        refine AllReadyH.cons rfl (fun K hK=> ?_) AllReadyH.nil
        rw [if_pos (by rfl)]
        go_simp
        go_at_call 23
        (with_reducible refine (HST.out _ hbq).mono ?_)
        rintro e v3 ⟨rfl,hbn⟩
        replace hbq:=hbq.trans (hbn.mono hbq.size)
        replace qs:=qs.below hbn qs.lt
        replace ql:=ql.below hbn ql.lt
        clear hbn
        have HS:=Z (HSK.out _ hbq)
        refine hK.out _ _ HS.out (fun _=> ?_)
        clear hK K
        try simp only [Act.put,sB,sZ,sS]
        refine hTk (i:=13) (d:=14) (v:= .tuple #[.agg #[O U q,O U (y_+q)],.agg #[O U lg.pull,O U lg.brake,O U lg.drag,O U lg.hill,O U lg.round,O U lg.hold],.bool ok]) rfl rfl (Or.inl ⟨rfl,by rintro W' ⟨s0,s1⟩;have y:=s0.cell;have x:=s1.cell;go_simp⟩) HS.out ?_
        simp only [Act.put,sB,sZ,sS]
        refine hTk (i:=14) (d:=28) (v:= .agg #[O U q,O U (y_+q)]) rfl rfl (Or.inl ⟨rfl,by rintro W' ⟨s0,s1⟩;have y:=s0.cell;have x:=s1.cell;go_simp⟩) HS.out ?_
        simp only [Act.put,sB,sZ,sS]
        refine hTk (i:=15) (d:=29) (v:= .agg #[O U lg.pull,O U lg.brake,O U lg.drag,O U lg.hill,O U lg.round,O U lg.hold]) rfl rfl (Or.inl ⟨rfl,by rintro W' ⟨s0,s1⟩;have y:=s0.cell;have x:=s1.cell;go_simp⟩) HS.out ?_
        simp only [Act.put,sB,sZ,sS]
        refine hTk (i:=16) (d:=30) (v:= .bool ok) rfl rfl (Or.inl ⟨rfl,by rintro W' ⟨s0,s1⟩;have y:=s0.cell;have x:=s1.cell;go_simp⟩) HS.out ?_
        simp only [Act.put,sB,sZ,sS]
        exact key _ _ ⟨sb,lb,rfl,hbq,qs,ql,by omega,by omega,by omega⟩
      ·rw [if_pos (by rfl)]
       go_simp
       have qs:=Rw.new v1 #[O U 0,O U 0] 35
       have hne:=ql.lt
       replace ql:=ql.alloc (.cells #[O U 0,O U 0] 35)
       have hsb:=hbq.size
       replace hbq:=hbq.alloc hbq.size (.cells #[O U 0,O U 0] 35)
       obtain⟨sb,hn⟩:∃z,v1.heap.size=z:=⟨_,rfl⟩
       obtain⟨ws,hw⟩:∃z,v1.alloc (.cells #[O U 0,O U 0] 35)=z:=⟨_,rfl⟩
       rw [hw] at qs hbq ql ⊢
       rw [hn] at qs hsb hne ⊢
       clear hn hw
       have HS:=Z (HSK.out _ hbq)
       refine hK.out _ _ HS.out (fun _=> ?_)
       clear hK K
       try simp only [Act.put,sB,sZ,sS]
       refine wpAnyH_ready (rs:= [9]) (by kernel_rfl) (by simp) ?_
       refine AllReadyH.cons rfl (fun K hK=> ?_) AllReadyH.nil
       rw [if_pos (by rfl)]
       go_simp
       go_at_call 65
       (with_reducible refine (HSL.out _ hbq).mono ?_)
       rintro e v2 ⟨rfl,hbn⟩
       replace hbq:=hbq.trans (hbn.mono hbq.size)
       replace qs:=qs.below hbn qs.lt
       replace ql:=ql.below hbn ql.lt
       clear hbn
       have HS:=Z (HSK.out _ hbq)
       refine hK.out _ _ HS.out (fun _=> ?_)
       clear hK K
       try simp only [Act.put,sB,sZ,sS]
       refine wpAnyH_ready (rs:= [12]) (by kernel_rfl) (by simp) ?_
       refine AllReadyH.cons rfl (fun K hK=> ?_) AllReadyH.nil
       rw [if_pos (by rfl)]
       go_simp
       go_at_call 23
       (with_reducible refine (HST.out _ hbq).mono ?_)
       rintro e v3 ⟨rfl,hbn⟩
       replace hbq:=hbq.trans (hbn.mono hbq.size)
       replace qs:=qs.below hbn qs.lt
       replace ql:=ql.below hbn ql.lt
       clear hbn
       have HS:=Z (HSK.out _ hbq)
       refine hK.out _ _ HS.out (fun _=> ?_)
       clear hK K
       try simp only [Act.put,sB,sZ,sS]
       refine hTk (i:=13) (d:=14) (v:= .tuple #[.agg #[O U q,O U (y_+q)],.agg #[O U lg.pull,O U lg.brake,O U lg.drag,O U lg.hill,O U lg.round,O U lg.hold],.bool ok]) rfl rfl (Or.inl ⟨rfl,by rintro W' ⟨s0,s1⟩;have y:=s0.cell;have x:=s1.cell;go_simp⟩) HS.out ?_
       simp only [Act.put,sB,sZ,sS]
       refine hTk (i:=14) (d:=28) (v:= .agg #[O U q,O U (y_+q)]) rfl rfl (Or.inl ⟨rfl,by rintro W' ⟨s0,s1⟩;have y:=s0.cell;have x:=s1.cell;go_simp⟩) HS.out ?_
       simp only [Act.put,sB,sZ,sS]
       refine hTk (i:=15) (d:=29) (v:= .agg #[O U lg.pull,O U lg.brake,O U lg.drag,O U lg.hill,O U lg.round,O U lg.hold]) rfl rfl (Or.inl ⟨rfl,by rintro W' ⟨s0,s1⟩;have y:=s0.cell;have x:=s1.cell;go_simp⟩) HS.out ?_
       simp only [Act.put,sB,sZ,sS]
       refine hTk (i:=16) (d:=30) (v:= .bool ok) rfl rfl (Or.inl ⟨rfl,by rintro W' ⟨s0,s1⟩;have y:=s0.cell;have x:=s1.cell;go_simp⟩) HS.out ?_
       simp only [Act.put,sB,sZ,sS]
       exact key _ _ ⟨sb,lb,rfl,hbq,qs,ql,by omega,by omega,by omega⟩
     ·rw [if_pos (by rfl)]
      go_simp
      have qs:=Rw.new wl #[O U 0,O U 0] 35
      have hne:=ql.lt
      replace ql:=ql.alloc (.cells #[O U 0,O U 0] 35)
      have hsb:=hbq.size
      replace hbq:=hbq.alloc hbq.size (.cells #[O U 0,O U 0] 35)
      obtain⟨sb,hn⟩:∃z,wl.heap.size=z:=⟨_,rfl⟩
      obtain⟨ws,hw⟩:∃z,wl.alloc (.cells #[O U 0,O U 0] 35)=z:=⟨_,rfl⟩
      rw [hw] at qs hbq ql ⊢
      rw [hn] at qs hsb hne ⊢
      clear hn hw
      have HS:=Z (HSK.out _ hbq)
      refine hK.out _ _ HS.out (fun _=> ?_)
      clear hK K
      try simp only [Act.put,sB,sZ,sS]
      refine wpAnyH_ready (rs:= [8]) (by kernel_rfl) (by simp) ?_
      refine AllReadyH.cons rfl (fun K hK=> ?_) AllReadyH.nil
      rw [if_pos (by rfl)]
      go_simp
      go_at_call 53
      (with_reducible refine (HPL.out _ hbq).mono ?_)
      rintro e v1 ⟨rfl,hbn⟩
      replace hbq:=hbq.trans (hbn.mono hbq.size)
      replace qs:=qs.below hbn qs.lt
      replace ql:=ql.below hbn ql.lt
      clear hbn
      have HS:=Z (HSK.out _ hbq)
      refine hK.out _ _ HS.out (fun _=> ?_)
      clear hK K
      try simp only [Act.put,sB,sZ,sS]
      refine wpAnyH_ready (rs:= [9]) (by kernel_rfl) (by simp) ?_
      refine AllReadyH.cons rfl (fun K hK=> ?_) AllReadyH.nil
      rw [if_pos (by rfl)]
      go_simp
      go_at_call 65
      (with_reducible refine (HSL.out _ hbq).mono ?_)
      rintro e v2 ⟨rfl,hbn⟩
      replace hbq:=hbq.trans (hbn.mono hbq.size)
      replace qs:=qs.below hbn qs.lt
      replace ql:=ql.below hbn ql.lt
      clear hbn
      have HS:=Z (HSK.out _ hbq)
      refine hK.out _ _ HS.out (fun _=> ?_)
      clear hK K
      try simp only [Act.put,sB,sZ,sS]
      refine wpAnyH_ready (rs:= [12]) (by kernel_rfl) (by simp) ?_
      refine AllReadyH.cons rfl (fun K hK=> ?_) AllReadyH.nil
      rw [if_pos (by rfl)]
      go_simp
      go_at_call 23
      (with_reducible refine (HST.out _ hbq).mono ?_)
      rintro e v3 ⟨rfl,hbn⟩
      replace hbq:=hbq.trans (hbn.mono hbq.size)
      replace qs:=qs.below hbn qs.lt
      replace ql:=ql.below hbn ql.lt
      clear hbn
      have HS:=Z (HSK.out _ hbq)
      refine hK.out _ _ HS.out (fun _=> ?_)
      clear hK K
      try simp only [Act.put,sB,sZ,sS]
      refine hTk (i:=13) (d:=14) (v:= .tuple #[.agg #[O U q,O U (y_+q)],.agg #[O U lg.pull,O U lg.brake,O U lg.drag,O U lg.hill,O U lg.round,O U lg.hold],.bool ok]) rfl rfl (Or.inl ⟨rfl,by rintro W' ⟨s0,s1⟩;have y:=s0.cell;have x:=s1.cell;go_simp⟩) HS.out ?_
      simp only [Act.put,sB,sZ,sS]
      refine hTk (i:=14) (d:=28) (v:= .agg #[O U q,O U (y_+q)]) rfl rfl (Or.inl ⟨rfl,by rintro W' ⟨s0,s1⟩;have y:=s0.cell;have x:=s1.cell;go_simp⟩) HS.out ?_
      simp only [Act.put,sB,sZ,sS]
      refine hTk (i:=15) (d:=29) (v:= .agg #[O U lg.pull,O U lg.brake,O U lg.drag,O U lg.hill,O U lg.round,O U lg.hold]) rfl rfl (Or.inl ⟨rfl,by rintro W' ⟨s0,s1⟩;have y:=s0.cell;have x:=s1.cell;go_simp⟩) HS.out ?_
      simp only [Act.put,sB,sZ,sS]
      refine hTk (i:=16) (d:=30) (v:= .bool ok) rfl rfl (Or.inl ⟨rfl,by rintro W' ⟨s0,s1⟩;have y:=s0.cell;have x:=s1.cell;go_simp⟩) HS.out ?_
      simp only [Act.put,sB,sZ,sS]
      exact key _ _ ⟨sb,lb,rfl,hbq,qs,ql,by omega,by omega,by omega⟩
   ·rintro _ W ⟨sb,lb,rfl,hbq,qs,ql,hsb,hlb,hne⟩
    have HS:=Z (HSK.out _ hbq)
    refine held_fin {tmps:=#[.agg #[.slice A p.nodes.length c,.slice A2 p.rails.length c2,.slice Aw n cw,O U t.mass,O U t.len,O U t.speed,O U t.effort,O U t.brake,O U t.power,O U t.resist,O U t.rise,O U t.back,.slice At nt ct,O U st,O U stop],.agg #[O U m,O U y_],.pointer (some ⟨B0,0,none⟩),.pointer (some ⟨B0+1,0,none⟩),u4,u5,O U d,.pointer (some ⟨sb,0,none⟩),.pointer (some ⟨lb,0,none⟩),.bool ok,O U d,.bool true,u12,u13,.tuple #[.agg #[O U q,O U (y_+q)],.agg #[O U lg.pull,O U lg.brake,O U lg.drag,O U lg.hill,O U lg.round,O U lg.hold],.bool ok],.pointer (some ⟨B0,3,none⟩),.agg #[O U t.mass,O U t.len,O U t.speed,O U t.effort,O U t.brake,O U t.power,O U t.resist,O U t.rise,O U t.back,.slice At nt ct],.agg #[O U m,O U y_],O U d,.agg #[.slice A p.nodes.length c,.slice A2 p.rails.length c2,.slice Aw n cw,O U t.mass,O U t.len,O U t.speed,O U t.effort,O U t.brake,O U t.power,O U t.resist,O U t.rise,O U t.back,.slice At nt ct,O U st,O U stop],.pointer (some ⟨B0,3,none⟩),.agg #[O U t.mass,O U t.len,O U t.speed,O U t.effort,O U t.brake,O U t.power,O U t.resist,O U t.rise,O U t.back,.slice At nt ct],.agg #[O U m,O U y_],O U pl,O U sl,.pointer (some ⟨B0,13,none⟩),O U st,.tuple #[.agg #[O U q,O U (y_+q)],.agg #[O U lg.pull,O U lg.brake,O U lg.drag,O U lg.hill,O U lg.round,O U lg.hold],.bool ok],.agg #[O U q,O U (y_+q)],.agg #[O U lg.pull,O U lg.brake,O U lg.drag,O U lg.hill,O U lg.round,O U lg.hold],.bool ok,u31,u32,u33,u34,u35,u36,u37],defers:= []} (fun W=>Below wr.heap.size wr W∧Rw W sb 35 #[O U q,O U (y_+q)]∧Rw W lb 37 #[O U lg.pull,O U lg.brake,O U lg.drag,O U lg.hill,O U lg.round,O U lg.hold]) (fun fin=> ?_) ?_
    ·skip
     refine wpAnyH_ready (rs:= [19]) (by kernel_rfl) (by simp) ?_
     refine AllReadyH.cons rfl (fun K hK=> ?_) AllReadyH.nil
     rw [if_pos (by rfl)]
     have h0:=qs.cell 0;have z0:=qs.frozen 0
     have h1:=qs.cell 1;have z1:=qs.frozen 1
     go_simp
     clear h0 z0 h1 z1
     have qn:Rw ((W.setCell ⟨sb,0,none⟩ (O U q)).setCell ⟨sb,1,none⟩ (O U (y_+q))) sb 35 #[O U q,O U (y_+q)]:=((qs.set 0 (O U q)).set 1 (O U (y_+q)))
     have qo:=((ql.far (k:=sb) 0 (O U q) (by omega)).far (k:=sb) 1 (O U (y_+q)) (by omega))
     have hbn:=((hbq.setCell (p:=⟨sb,0,none⟩) (by show wr.heap.size≤sb;omega) (O U q)).setCell (p:=⟨sb,1,none⟩) (by show wr.heap.size≤sb;omega) (O U (y_+q)))
     obtain⟨Ws,hw⟩:∃z,((W.setCell ⟨sb,0,none⟩ (O U q)).setCell ⟨sb,1,none⟩ (O U (y_+q)))=z:=⟨_,rfl⟩
     rw [hw] at qn qo hbn ⊢
     clear qs ql hbq hw
     have qs:=qn;have ql:=qo;have hbq:=hbn
     clear qn qo hbn
     have HS:=Z (HSK.out _ hbq)
     refine hK.out _ _ HS.out (fun _=> ?_)
     clear hK K
     try simp only [Act.put,sB,sZ,sS]
     refine wpAnyH_ready (rs:= [20]) (by kernel_rfl) (by simp) ?_
     refine AllReadyH.cons rfl (fun K hK=> ?_) AllReadyH.nil
     rw [if_pos (by rfl)]
     have h0:=ql.cell 0;have z0:=ql.frozen 0
     have h1:=ql.cell 1;have z1:=ql.frozen 1
     have h2:=ql.cell 2;have z2:=ql.frozen 2
     have h3:=ql.cell 3;have z3:=ql.frozen 3
     have h4:=ql.cell 4;have z4:=ql.frozen 4
     have h5:=ql.cell 5;have z5:=ql.frozen 5
     go_simp
     clear h0 z0 h1 z1 h2 z2 h3 z3 h4 z4 h5 z5
     have qn:Rw ((((((Ws.setCell ⟨lb,0,none⟩ (O U lg.pull)).setCell ⟨lb,1,none⟩ (O U lg.brake)).setCell ⟨lb,2,none⟩ (O U lg.drag)).setCell ⟨lb,3,none⟩ (O U lg.hill)).setCell ⟨lb,4,none⟩ (O U lg.round)).setCell ⟨lb,5,none⟩ (O U lg.hold)) lb 37 #[O U lg.pull,O U lg.brake,O U lg.drag,O U lg.hill,O U lg.round,O U lg.hold]:=((((((ql.set 0 (O U lg.pull)).set 1 (O U lg.brake)).set 2 (O U lg.drag)).set 3 (O U lg.hill)).set 4 (O U lg.round)).set 5 (O U lg.hold))
     have qo:=((((((qs.far (k:=lb) 0 (O U lg.pull) (by omega)).far (k:=lb) 1 (O U lg.brake) (by omega)).far (k:=lb) 2 (O U lg.drag) (by omega)).far (k:=lb) 3 (O U lg.hill) (by omega)).far (k:=lb) 4 (O U lg.round) (by omega)).far (k:=lb) 5 (O U lg.hold) (by omega))
     have hbn:=((((((hbq.setCell (p:=⟨lb,0,none⟩) (by show wr.heap.size≤lb;omega) (O U lg.pull)).setCell (p:=⟨lb,1,none⟩) (by show wr.heap.size≤lb;omega) (O U lg.brake)).setCell (p:=⟨lb,2,none⟩) (by show wr.heap.size≤lb;omega) (O U lg.drag)).setCell (p:=⟨lb,3,none⟩) (by show wr.heap.size≤lb;omega) (O U lg.hill)).setCell (p:=⟨lb,4,none⟩) (by show wr.heap.size≤lb;omega) (O U lg.round)).setCell (p:=⟨lb,5,none⟩) (by show wr.heap.size≤lb;omega) (O U lg.hold))
     obtain⟨Wl,hw⟩:∃z,((((((Ws.setCell ⟨lb,0,none⟩ (O U lg.pull)).setCell ⟨lb,1,none⟩ (O U lg.brake)).setCell ⟨lb,2,none⟩ (O U lg.drag)).setCell ⟨lb,3,none⟩ (O U lg.hill)).setCell ⟨lb,4,none⟩ (O U lg.round)).setCell ⟨lb,5,none⟩ (O U lg.hold))=z:=⟨_,rfl⟩
     rw [hw] at qn qo hbn ⊢
     clear ql qs hbq hw
     have ql:=qn;have qs:=qo;have hbq:=hbn
     clear qn qo hbn
     have HS:=Z (HSK.out _ hbq)
     refine hK.out _ _ HS.out (fun _=> ?_)
     clear hK K
     try simp only [Act.put,sB,sZ,sS]
     refine hTk (i:=21) (d:=9) (v:= .bool ok) rfl rfl (Or.inl ⟨rfl,by rintro W' ⟨s0,s1⟩;have y:=s0.cell;have x:=s1.cell;go_simp⟩) HS.out ?_
     simp only [Act.put,sB,sZ,sS]
     refine wpAnyH_done (by kernel_rfl) ?_ _
     exact fin _ ⟨hbq,qs,ql⟩
    ·rintro W ⟨hbq,qs,ql⟩
     have HS:=HSK.out _ hbq
     have y:=HS.1.cell;have z:=qs.cell
     have HBQ:=Z hbq
     cases ok with
     | false=>
      have HNX:=Z (show drvN t a (slpR p l) (limR p l t) stop m y_ k=R from by rw [←HRR.out];exact (drvN_far (by rw [HQE.out];exact of_decide_eq_false HOK.out)).symm)
      clear hbq qs ql HS
      go_wp2
      refine⟨⟨k,by have:=HK9.out;omega,by have:=HDE.out;simp;omega,HNX.out,HBR.out.trans (HBQ.out.mono HBR.out.size)⟩, ?_⟩
      have:=HDE.out
      simp [intOf] <;> omega
     | true=>
      obtain⟨sf,hsf⟩:∃b,safeR t a (slpR p l) (limR p l t) stop 36000 q (y_+q)=b:=⟨_,rfl⟩
      have HSF:=Z hsf
      have HSAFE:=Z (show Calls Tryz.prog 97 #[.agg #[.slice A p.nodes.length c,.slice A2 p.rails.length c2,.slice Aw n cw,O U t.mass,O U t.len,O U t.speed,O U t.effort,O U t.brake,O U t.power,O U t.resist,O U t.rise,O U t.back,.slice At nt ct,O U st,O U stop],.agg #[O U q,O U (y_+q)]] W fun e w'=>e= .returned (.bool sf)∧Below W.heap.size W w' from by
       have:=rsafe_any A A2 c c2 p Aw cw n l t At nt ct st stop q (y_+q) W (HCW.out _ hbq) HSTP.out HQB.out.1 (of_decide_eq_true HOK.out) (by have:=HIN.out.2.2.1;have:=HQB.out.1;omega) (by have:=HIN.out.2.2.2.1;have:=HQB.out.2;omega) (by
        refine Int.le_trans HIN.out.2.2.2.2 (Int.ediv_le_ediv (by have:=HCX.out.tr.m1;omega) (by have:=HQB.out.1;omega))
        )
       rw [HAE.out,hsf] at this
       exact this)
      clear hbq qs ql HS hsf
      go_wp2_with fail
      (with_reducible refine HSAFE.out.mono ?_)
      rintro e w9 ⟨rfl,hb9⟩
      have HB9:=Z (HBR.out.trans ((HBQ.out.trans (hb9.mono HBQ.out.size)).mono HBR.out.size))
      clear hb9 y z
      cases sf with
      | true=>
       have HRF:=Z (show R=some k from by rw [←HRR.out];exact drvN_yes (by rw [HQE.out];exact of_decide_eq_true HOK.out) (by rw [HQE.out];exact HSF.out))
       go_wp2
       go_ret2
       exact⟨by rw [show drvD R=d from by rw [HRF.out];exact HDE.out,show R.isSome=true from by rw [HRF.out];rfl];rfl,HB1.out.trans (HB9.out.mono HB1.out.size)⟩
      | false=>
       have HNX:=Z (show drvN t a (slpR p l) (limR p l t) stop m y_ k=R from by rw [←HRR.out];exact (drvN_no (by rw [HQE.out];exact HSF.out)).symm)
       go_wp2
       refine⟨⟨k,by have:=HK9.out;omega,by have:=HDE.out;simp;omega,HNX.out,HB9.out⟩, ?_⟩
       have:=HDE.out
       simp [intOf] <;> omega
end Go.Proofs.YtfhkbbjddjddmaaGreat
