/- Contract: legs. -/
import Derived.Test.YtfhkbbjddjddmaaGreatM33
import Derived.Deep.DeepMust
set_option linter.unusedVariables false
set_option linter.unusedSimpArgs false
open Go.Value renaming int→O
open Go.IntKind renaming i64→U
open Go.Lib renaming hid→Z
namespace Go.Proofs.YtfhkbbjddjddmaaGreat
open Go.RowKit Go.Shelf Go.Lib Go.BigFrame
theorem info72:(Tryz.prog.info? 72).map (fun i=>(i.zero,i.size,i.bytes))=some (some (.agg #[O U 0,O U 0,O U 0,O U 0,O U 0,O U 0,O U 0,O U 0,O U 0,O U 0]),10,80):=by kernel_rfl
def fLl (l:LegP):List Value:= [O U l.millis,O U l.at_,O U l.lg.pull,O U l.lg.brake,O U l.lg.drag,O U l.lg.hill,O U l.lg.round,O U l.lg.hold,O U l.took,O U l.gave]
theorem fLl_len (l:LegP):(fLl l).length=10:=rfl
theorem fLl_one (l:LegP):∀u∈fLl l,u.oneCell'=true:=by simp [fLl,Value.oneCell']
def legsGo (t:Tr) (a:Int) (zs:List Zn):List Int→Pt→List LegP→Option (List LegP)
 | [],_,acc=>some acc
 | s :: ss,x,acc=>match legGo t a zs s 36000 Leg0 x with
  | none=>none
  | some p=>legsGo t a zs ss p.2 (acc ++ [p.1])
def legsZ (t:Tr) (a:Int) (zs:List Zn) (stops:List Int):Option (List LegP):=
 if 10000000000000000<10 * t.mass * stops.getD 0 0 then none else legsGo t a zs (stops.drop 1) (movP t zs ⟨0,10 * t.mass * stops.getD 0 0,0⟩ 0) []
theorem legGo_ok {t:Tr} {a:Int} {zs:List Zn} {s:Int} (ht:TrOk t) (ha:0≤a) (hz:ZsOk zs):∀(f:Nat) (l:LegP) (x:Pt) (p:LegP × Pt),PtOk t zs x→x.y≤10000000000000000→legGo t a zs s f l x=some p→PtOk t zs p.2∧p.2.y≤10000000000000000:=by
 intro f
 induction f with
 | zero=>
  intro l x p hx hy h
  cases harr:arrB t s x with
  | true=>rw [legGo_arr harr] at h;obtain rfl:=Option.some.inj h;exact⟨hx,hy⟩
  | false=>rw [legGo_late harr] at h;cases h
 | succ f ih=>
  intro l x p hx hy h
  cases harr:arrB t s x with
  | true=>rw [legGo_arr harr] at h;obtain rfl:=Option.some.inj h;exact⟨hx,hy⟩
  | false=>
   cases hch:chZ t a zs s x 9 (-1) with
   | none=>rw [legGo_none harr hch] at h;cases h
   | some n=>
    obtain⟨hn9,hqm,_⟩:=chZ_ok hch
    by_cases hb:(x.m=0∧chQ t a zs x n=0)∨10000000000000000<x.y+chQ t a zs x n
    ·rw [legGo_stop harr hch hb] at h;cases h
    ·rw [legGo_more harr hch hb] at h
     have hgz:∃g,zs[x.z]? = some g:=⟨_,List.getElem?_eq_getElem hx.z⟩
     obtain⟨g,hg?⟩:=hgz
     have hgs:=hz.sl g (List.mem_of_getElem? hg?)
     have hzl:zslp zs x.z=g.sl:=by unfold zslp;rw [hg?]
     have hfs:=fs_ok ht (d:=(n:Int) - 4) (sl:=zslp zs x.z) ha hx.m0 hx.m1 (by omega) (by omega) (by rw [hzl];exact hgs.1) (by rw [hzl];exact hgs.2)
     have hqb:=next_bd hfs (by have:=hx.m1;have:=ht.m2;omega)
     replace hqb:0≤chQ t a zs x n∧chQ t a zs x n≤2080000000:=hqb
     have hyy:x.y+chQ t a zs x n≤10000000000000000:=by omega
     exact ih _ _ _ (movP_ok hx hqb.1 hqm (by omega)) hyy h
set_option maxRecDepth 100000 in
set_option maxHeartbeats 4000000 in
theorem legs_any (r k:Nat) (t:Tr) (a:Int) (A:Option Addr) (n c:Nat) (Az:Option Addr) (nz cz:Nat) (zs:List Zn) (As:Option Addr) (ns cs:Nat) (l:List Int) (w:World) (hR:RunAt w r k t a A n c Az nz cz zs) (hAz:∀ad,Az=some ad→ad.block<w.heap.size) (ht:TrOk t) (ha:0≤a) (hz:ZsOk zs) (hz0:0<zs.length) (hl:l.length=ns) (hn1:2≤ns) (hn:ns≤1000) (hnc:ns≤cs) (hS:Sl w w.heap.size 1 CI As l) (hl0:∀s∈l,0≤s∧s≤3000000000000) :
  Calls Tryz.prog 59 #[.pointer (some ⟨r,0,none⟩),.slice As ns cs] w fun e w'=>∃v,e= .returned (.tuple #[v,.bool (legsZ t a zs l).isSome])∧Own w' w.heap.size 72 10 fLl v ((legsZ t a zs l).getD [])∧Below w.heap.size w w':=by
 obtain⟨i0,hi,hzr,hz1,hz2⟩:=info_parts info72
 obtain⟨b,o,rfl,hbl,c0⟩:=int_at hS (i:=0) (by omega)
 obtain⟨s0,hs0⟩:∃s,l.getD 0 0=s:=⟨_,rfl⟩
 have hg0:l[0]'(by omega)=s0:=by rw [←hs0,List.getD_eq_getElem?_getD,List.getElem?_eq_getElem (by omega)];rfl
 rw [hg0,Nat.add_zero] at c0
 have hs0b:=hl0 s0 (by rw [←hg0];exact List.getElem_mem _)
 have hm1:=ht.m1;have hm2:=ht.m2
 have hp1:10 * t.mass * s0≤2400000000000000000:=by
  have:=Int.mul_le_mul (show 10 * t.mass≤800000 by omega) hs0b.2 hs0b.1 (by omega)
  omega
 have hp0:0≤10 * t.mass * s0:=Int.mul_nonneg (by omega) hs0b.1
 have hwp:IntKind.i64.wrap (10 * t.mass * s0)=10 * t.mass * s0:=by rw [IntKind.wrap_i64];omega
 obtain⟨y0,hy0⟩:∃y,10 * t.mass * s0=y:=⟨_,rfl⟩
 have hLZ:legsZ t a zs l=if 10000000000000000<y0 then none else legsGo t a zs (l.drop 1) (movP t zs ⟨0,y0,0⟩ 0) []:=by unfold legsZ;rw [hs0,hy0]
 rw [hy0] at hp0 hp1
 replace hwp:=hwp.trans hy0
 have HY0:=Z hy0
 clear hy0
 have HLZ:=Z hLZ;have HW:=Z hwp;have HL:=Z hl;have HAZ:=Z hAz;have HR0:=Z hR;have HS0:=Z hS;have HLB:=Z hl0
 obtain⟨B,hB⟩:∃B,w.heap.size=B:=⟨_,rfl⟩
 have hlt:r<B∧k<B:=⟨by rw [←hB];exact hR.r.lt,by rw [←hB];exact hR.e.lt⟩
 have HBE:=Z hB
 have HLT:=Z hlt
 have HRB:=Z (show ∀wx,Below B w wx→RunAt wx r k t a A n c Az nz cz zs∧wx.cell? ⟨b,o,none⟩=some (O U s0) from fun wx h=>⟨HR0.out.below (by rw [HBE.out];exact h),(h.cell (p:=⟨b,o,none⟩) (by rw [←hB];exact hbl)).trans c0⟩)
 have e1:=hR.r.cell 1
 clear hLZ hAz hS hl0 hlt hg0 hs0
 have HNC:=Z hnc
 go_enter Tryz.func59,Tryz.ntmps59
 go_upto_region 1 with (fail)
 have hbq:Below B w w.drew:=(Below.refl _ _).drew
 have HSK:=Z (show ∀wx,Below B w wx→Rw wx r 147 #[.pointer (some ⟨k,0,none⟩),O U (10 * t.mass),.slice Az nz cz]∧wx.cell? ⟨b,o,none⟩=some (O U s0) from fun wx h=>⟨(HRB.out wx h).1.r,(HRB.out wx h).2⟩)
 have HS:=Z (HSK.out _ hbq)
 clear e1
 refine wp_region_held_drew (S:=fun wx=>Rw wx r 147 #[.pointer (some ⟨k,0,none⟩),O U (10 * t.mass),.slice Az nz cz]∧wx.cell? ⟨b,o,none⟩=some (O U s0)) (by kernel_rfl) HS.out (fun _=> ?_)
 refine hTk (i:=0) (d:=13) (v:= .pointer (some ⟨r,0,none⟩)) rfl rfl (Or.inl ⟨rfl,by rintro W' ⟨h0,h1⟩;have y1:=h0.cell 1;have y0':=h0.cell 0;have q0:¬ns=0:=(by omega);have hw:=HW.out;go_simp⟩) HS.out ?_
 simp only [Act.put,sB,sZ,sS]
 refine hTk (i:=1) (d:=14) (v:= .pointer (some ⟨r,0,none⟩)) rfl rfl (Or.inl ⟨rfl,by rintro W' ⟨h0,h1⟩;have y1:=h0.cell 1;have y0':=h0.cell 0;have q0:¬ns=0:=(by omega);have hw:=HW.out;go_simp⟩) HS.out ?_
 simp only [Act.put,sB,sZ,sS]
 refine hTk (i:=2) (d:=15) (v:= .pointer (some ⟨r,1,none⟩)) rfl rfl (Or.inl ⟨rfl,by rintro W' ⟨h0,h1⟩;have y1:=h0.cell 1;have y0':=h0.cell 0;have q0:¬ns=0:=(by omega);have hw:=HW.out;go_simp⟩) HS.out ?_
 simp only [Act.put,sB,sZ,sS]
 refine hTk (i:=3) (d:=16) (v:=O U (10 * t.mass)) rfl rfl (Or.inl ⟨rfl,by rintro W' ⟨h0,h1⟩;have y1:=h0.cell 1;have y0':=h0.cell 0;have q0:¬ns=0:=(by omega);have hw:=HW.out;go_simp⟩) HS.out ?_
 simp only [Act.put,sB,sZ,sS]
 refine hTk (i:=4) (d:=17) (v:= .slice (some ⟨b,o,none⟩) ns cs) rfl rfl (Or.inl ⟨rfl,by rintro W' ⟨h0,h1⟩;have y1:=h0.cell 1;have y0':=h0.cell 0;have q0:¬ns=0:=(by omega);have hw:=HW.out;go_simp⟩) HS.out ?_
 simp only [Act.put,sB,sZ,sS]
 refine hTk (i:=5) (d:=18) (v:= .pointer (some ⟨b,o,none⟩)) rfl rfl (Or.inl ⟨rfl,by rintro W' ⟨h0,h1⟩;have y1:=h0.cell 1;have y0':=h0.cell 0;have q0:¬ns=0:=(by omega);have hw:=HW.out;go_simp⟩) HS.out ?_
 simp only [Act.put,sB,sZ,sS]
 refine hTk (i:=6) (d:=19) (v:=O U s0) rfl rfl (Or.inl ⟨rfl,by rintro W' ⟨h0,h1⟩;have y1:=h0.cell 1;have y0':=h0.cell 0;have q0:¬ns=0:=(by omega);have hw:=HW.out;go_simp⟩) HS.out ?_
 simp only [Act.put,sB,sZ,sS]
 refine hTk (i:=7) (d:=20) (v:=O U y0) rfl rfl (Or.inl ⟨rfl,by rintro W' ⟨h0,h1⟩;have y1:=h0.cell 1;have y0':=h0.cell 0;have q0:¬ns=0:=(by omega);have hw:=HW.out;go_simp⟩) HS.out ?_
 simp only [Act.put,sB,sZ,sS]
 refine hTk (i:=8) (d:=21) (v:= .agg #[O U 0,O U y0]) rfl rfl (Or.inl ⟨rfl,by rintro W' ⟨h0,h1⟩;have y1:=h0.cell 1;have y0':=h0.cell 0;have q0:¬ns=0:=(by omega);have hw:=HW.out;go_simp⟩) HS.out ?_
 simp only [Act.put,sB,sZ,sS]
 refine hTk (i:=9) (d:=22) (v:= .agg #[O U 0,O U y0,O U 0]) rfl rfl (Or.inl ⟨rfl,by rintro W' ⟨h0,h1⟩;have y1:=h0.cell 1;have y0':=h0.cell 0;have q0:¬ns=0:=(by omega);have hw:=HW.out;go_simp⟩) HS.out ?_
 simp only [Act.put,sB,sZ,sS]
 refine wpAnyH_ready (rs:= [10]) (by kernel_rfl) (by simp) ?_
 refine AllReadyH.cons rfl (fun K hK=> ?_) AllReadyH.nil
 rw [if_pos (by rfl)]
 go_simp
 have hA:=Rw.new w #[O U 0,O U 0,O U 0] 102
 have hbq:=((Below.refl B w).alloc (by rw [←hB];exact Nat.le_refl _) (.cells #[O U 0,O U 0,O U 0] 102)).drew
 replace hA:Rw (w.alloc (.cells #[O U 0,O U 0,O U 0] 102)).drew B 102 #[O U 0,O U 0,O U 0]:=by rw [←hB];exact hA
 have hsz:(w.alloc (.cells #[O U 0,O U 0,O U 0] 102)).drew.heap.size=B+1:=by show (w.alloc (.cells #[O U 0,O U 0,O U 0] 102)).heap.size=B+1;simp;exact hB
 obtain⟨wa,hwa⟩:∃z,(w.alloc (.cells #[O U 0,O U 0,O U 0] 102)).drew=z:=⟨_,rfl⟩
 rw [hwa] at hbq hA hsz ⊢
 clear hwa
 have HS:=Z (HSK.out _ hbq)
 refine hK.out _ _ HS.out (fun _=> ?_)
 clear hK K
 try simp only [Act.put,sB,sZ,sS]
 refine wpAnyH_ready (rs:= [11]) (by kernel_rfl) (by simp) ?_
 refine AllReadyH.cons rfl (fun K hK=> ?_) AllReadyH.nil
 rw [if_pos (by rfl)]
 refine wp_store_row 102 _ _ rfl B rfl #[O U 0,O U y0,O U 0] rfl 102 _ hA (by kernel_rfl) rfl (by simp [Value.oneCell']) ?_
 have hrs:=hA.setRow #[O U 0,O U y0,O U 0]
 have hbs:=below_setRow hbq (Nat.le_refl B) #[O U 0,O U y0,O U 0]
 have HS:=Z (HSK.out _ hbs)
 refine hK.out _ _ HS.out (fun _=> ?_)
 clear hK K
 try simp only [Act.put,sB,sZ,sS]
 refine wpAnyH_done (by kernel_rfl) ?_ _
 have e0:=hrs.cell 0;have e1:=hrs.cell 1;have e2:=hrs.cell 2
 have hsz5:=hbs.size
 rw [hB] at hsz5
 have HBS:=Z hbs;have HRS:=Z hrs
 clear HS hA hbq hsz hbs
 by_cases hbig:10000000000000000<y0
 ·have HBG:=Z (show legsZ t a zs l=none from by rw [HLZ.out,if_pos hbig])
  clear hrs hsz5
  go_wp2
  go_ret2
  rw [HBG.out]
  exact⟨_,rfl,Own.nil _ _ _ _ _,by rw [hB];exact HBS.out⟩
 ·obtain⟨x0,hx0⟩:∃x,movP t zs ⟨0,y0,0⟩ 0=x:=⟨_,rfl⟩
  have HLR:=Z (show legsZ t a zs l=legsGo t a zs (l.drop 1) x0 [] from by rw [HLZ.out,if_neg hbig,hx0])
  have HX0:=Z (show PtOk t zs x0∧x0.y≤10000000000000000 from by
   rw [←hx0]
   exact⟨movP_ok (x:=⟨0,y0,0⟩) ⟨by show (0:Int)≤0;omega,by show (0:Int)≤25000 * t.mass;omega,hp0,by show y0≤20000000000000000;omega,hz0⟩ (by omega) (by omega) (by show y0+0≤20000000000000000;omega),by show y0+0≤10000000000000000;omega⟩)
  have HMV:=Z (show ∀wx,Below B w wx→Calls Tryz.prog 87 #[.pointer (some ⟨r,0,none⟩),.agg #[O U 0,O U y0,O U 0],O U 0] wx fun e w'=>e= .returned (.agg #[O U x0.m,O U x0.y,O U (x0.z:Int)])∧Below wx.heap.size wx w' from fun wx h=>by
   have h':=moved_any wx r k t a A n c Az nz cz zs 0 y0 0 0 (HRB.out wx h).1 ht hz0 (by have:=hz.ln;have:=HR0.out.zl;omega) hp0 (by omega) (by omega) (by omega) hz.fr
   rw [←hx0]
   exact h')
  have HBG:=Z hbig
  clear hx0 hbig
  go_wp2_with fail
  (with_reducible refine (HMV.out _ HBS.out).mono ?_)
  rintro e w6 ⟨rfl,hb6⟩
  have hrs6:=HRS.out.below hb6 HRS.out.lt
  have hbs6:=HBS.out.trans (hb6.mono hsz5)
  have m0:=hrs6.cell 0;have f0:=hrs6.frozen 0;have m1:=hrs6.cell 1;have f1:=hrs6.frozen 1;have m2:=hrs6.cell 2;have f2:=hrs6.frozen 2
  have HR6:=Z hrs6;have HB6:=Z hbs6
  clear e0 e1 e2 hrs hsz5 hb6 hrs6 hbs6
  go_upto_region 5 with (fail)
  have r7:Rw (((w6.setCell ⟨B,0,none⟩ (O U x0.m)).setCell ⟨B,1,none⟩ (O U x0.y)).setCell ⟨B,2,none⟩ (O U (x0.z:Int))) B 102 #[O U x0.m,O U x0.y,O U (x0.z:Int)]:=((HR6.out.set 0 (O U x0.m)).set 1 (O U x0.y)).set 2 (O U (x0.z:Int))
  have hb7:Below B w (((w6.setCell ⟨B,0,none⟩ (O U x0.m)).setCell ⟨B,1,none⟩ (O U x0.y)).setCell ⟨B,2,none⟩ (O U (x0.z:Int))):=((HB6.out.setCell (Nat.le_refl _) _).setCell (Nat.le_refl _) _).setCell (Nat.le_refl _) _
  obtain⟨w7,hw7⟩:∃z,(((w6.setCell ⟨B,0,none⟩ (O U x0.m)).setCell ⟨B,1,none⟩ (O U x0.y)).setCell ⟨B,2,none⟩ (O U (x0.z:Int)))=z:=⟨_,rfl⟩
  rw [hw7] at r7 hb7 ⊢
  have hs7:=r7.lt
  have HR7:=Z r7;have HB7:=Z hb7;have HS7:=Z hs7
  have q1ns:1<ns:=hn1
  have q2ns:1<cs:=by omega
  have q3ns:¬cs=1:=by omega
  have q4ns:¬cs - 1=0:=by omega
  have qnc:ns≤cs:=hnc
  clear hw7 r7 hb7 hs7 m0 m1 m2 f0 f1 f2
  obtain⟨R,hRr⟩:∃R,legsGo t a zs (l.drop 1) x0 []=R:=⟨_,rfl⟩
  rw [hRr] at HLR
  have HRR:=Z hRr
  clear hRr
  go_wp2
  go_loopw [7,33] (fun s7 s33 wr=>∃(j:Nat) (x:Pt) (acc:List LegP),j+1≤ns∧s33=O U (j:Int)∧PtOk t zs x∧x.y≤10000000000000000∧acc.length=j∧legsGo t a zs (l.drop (j+1)) x acc=R∧Rw wr B 102 #[O U x.m,O U x.y,O U (x.z:Int)]∧Own wr (B+1) 72 10 fLl s7 acc∧Below B w wr) (fun _ s33 _=>ns - (intOf s33).toNat)
  case atStart=>exact⟨0,x0, [],by omega,rfl,HX0.out.1,HX0.out.2,rfl,HRR.out,HR7.out,Own.nil _ _ _ _ _,HB7.out⟩
  case round=>
   obtain⟨j,x,acc,hj,rfl,hxo,hxy,hac,hgo,hrw,hown,hbw⟩:=hrel
   have HF:=Z (And.intro hj (And.intro hxo (And.intro hxy (And.intro hac hgo))))
   have HRW:=Z hrw;have HOW:=Z hown;have HBW:=Z hbw
   have hj1000:j≤1000:=by omega
   by_cases hjn:j+1<ns
   ·obtain⟨b',o',he,hb',c1⟩:=int_at HS0.out (i:=j+1) (by have:=HL.out;omega)
    cases he
    obtain⟨s1,hs1⟩:∃s,l[j+1]'(by have:=HL.out;omega)=s:=⟨_,rfl⟩
    rw [hs1] at c1
    have hs1b:=HLB.out s1 (by rw [←hs1];exact List.getElem_mem _)
    have hdr:l.drop (j+1)=s1 :: l.drop (j+2):=by rw [←hs1];exact List.drop_eq_getElem_cons _
    have HDR:=Z hdr
    have hc1:wr.cell? ⟨b,o+1+j,none⟩=some (O U s1):=by
     rw [show o+1+j=o+(j+1) by omega]
     exact (hbw.cell (p:=⟨b,o+(j+1),none⟩) (by rw [←hB];exact hb')).trans c1
    have e0:=hrw.cell 0;have e1:=hrw.cell 1;have e2:=hrw.cell 2
    have hji:j<ns - 1:=by omega
    have HLE:=Z (leg_any r k t a A n c Az nz cz zs x s1 wr (HRB.out wr hbw).1 (fun ad e=>by have:=HAZ.out ad e;have:=hbw.size;omega) ht ha hz hxo hxy hs1b.1 hs1b.2)
    clear hgo hxo hxy hdr c1 hs1 hrw hown hbw hac
    go_wp2_with fail
    (with_reducible refine HLE.out.mono ?_)
    rintro e w8 ⟨rfl,hb8⟩
    have hb78:=HBW.out.trans (hb8.mono (by have:=HRW.out.lt;omega))
    have HB8:=Z hb8;have HB78:=Z hb78
    have hs8:B+1≤w8.heap.size:=by have:=HRW.out.lt;have:=hb8.size;omega
    have HS8:=Z hs8
    clear hb8 hb78 e0 e1 e2 hc1 hs1b hs8
    cases hlg:legGo t a zs s1 36000 Leg0 x with
    | none=>
     have HRN:=Z (show R=none from by rw [←HF.out.2.2.2.2,HDR.out,legsGo,hlg])
     clear hlg
     simp only [legO1,legO2,Option.isSome_none]
     go_wp2
     (try simp only [Exit.inBlock,Exit.then])
     (try simp only [Exit.inBlock,Exit.then])
     go_ret2
     rw [HLR.out,HRN.out]
     exact⟨_,rfl,Own.nil _ _ _ _ _,by rw [hB];exact (HB78.out.alloc (by have:=HS8.out;omega) _).alloc (by have:=HS8.out;simp;omega) _⟩
    | some p=>
     obtain⟨l1,x1⟩:=p
     have hok:=legGo_ok ht ha hz _ _ _ _ HF.out.2.1 HF.out.2.2.1 hlg
     have HGO:=Z (show legsGo t a zs (l.drop (j+1+1)) x1 (acc ++ [l1])=R from by rw [←HF.out.2.2.2.2,HDR.out,legsGo,hlg])
     have HOK:=Z hok
     clear hlg hok
     simp only [legO1,legO2,Option.isSome_some]
     have k2:=rows2 w8 (fLeg l1) (fPt x1).toArray 72 102
     have hba:=(((Below.refl w8.heap.size w8).alloc (Nat.le_refl _) (.cells (fLeg l1) 72)).alloc (by simp) (.cells (fPt x1).toArray 102))
     have HK2:=Z k2;have HBA:=Z hba
     clear k2 hba
     simp only [fLeg,fPt]
     go_upto_region 12 with (fail)
     have k2:=HK2.out;have hba:=HBA.out
     simp only [fLeg,fPt] at k2 hba
     obtain⟨w9,hw9⟩:∃z,(w8.alloc (.cells #[O U l1.millis,O U l1.at_,O U l1.lg.pull,O U l1.lg.brake,O U l1.lg.drag,O U l1.lg.hill,O U l1.lg.round,O U l1.lg.hold,O U l1.took,O U l1.gave] 72)).alloc (.cells #[O U x1.m,O U x1.y,O U (x1.z:Int)] 102)=z:=⟨_,rfl⟩
     have hs9:((w8.alloc (.cells #[O U l1.millis,O U l1.at_,O U l1.lg.pull,O U l1.lg.brake,O U l1.lg.drag,O U l1.lg.hill,O U l1.lg.round,O U l1.lg.hold,O U l1.took,O U l1.gave] 72)).alloc (.cells #[O U x1.m,O U x1.y,O U (x1.z:Int)] 102)).heap.size=w8.heap.size+2:=by simp
     rw [hw9] at k2 hba hs9 ⊢
     obtain⟨sb,hsb⟩:∃z,w8.heap.size=z:=⟨_,rfl⟩
     rw [hsb] at k2 hs9 ⊢
     have hsb1:B+1≤sb:=by rw [←hsb];exact HS8.out
     have hown9:Own w9 (B+1) 72 10 fLl u7 acc:=(HOW.out.below HB8.out (Nat.le_refl _)).below hba (Nat.le_refl _)
     have hlt9:∀q,u7.ownBlock=some q→q<sb:=fun q hq=>by have:=(HOW.out.lt q hq).2;have:=HB8.out.size;omega
     have hb9:=HB78.out.trans (hba.mono (by omega))
     have HO9:=Z hown9;have HL9:=Z hlt9;have HB9:=Z hb9;have HRW9:=Z (show Rw w9 B 102 #[O U x.m,O U x.y,O U (x.z:Int)] from (HRW.out.below HB8.out HRW.out.lt).below hba (by have:=HRW.out.lt;have:=HB8.out.size;omega));have HK9:=Z k2;have HS9:=Z hs9;have HSB:=Z hsb1
     have e0:=k2.1.cell 0;have e1:=k2.1.cell 1;have e2:=k2.1.cell 2;have e3:=k2.1.cell 3;have e4:=k2.1.cell 4;have e5:=k2.1.cell 5;have e6:=k2.1.cell 6;have e7:=k2.1.cell 7;have e8:=k2.1.cell 8;have e9:=k2.1.cell 9
     clear k2 hba hw9 hs9 hsb hsb1 hown9 hlt9 hb9
     have hal:acc.length=j:=HF.out.2.2.2.1
     go_wp2_with (at_builtin;go_must (refine wpList_app _ rfl (.tmp 47) (.tmp 49) _ rfl (B+1) 72 i0 _ 10 80 Tryz.underlying63 hi hzr hz1 hz2 rfl (by omega) fLl_len fLl_one u7 _ rfl (HO9.out.alloc _) _ _ [l1] 1 rfl (Sl.new _ _ _ _ rfl) (by simp only [maxLen,List.length_cons,List.length_nil];omega) (by simp only [List.length_cons,List.length_nil];omega) (by have:=HS9.out;have:=HSB.out;simp;omega) (fun _=> .inr ⟨_,rfl⟩) ?_);intro v2 w10 o2 gr2 at2 ne2;have hx:Rw w10 (sb+1) 102 #[O U x1.m,O U x1.y,O U (x1.z:Int)]:=(gr2.block (sb+1) (by have:=HS9.out;simp;omega) (fun e=>by have:=HL9.out _ e.symm;omega)).trans ((Below.heap_alloc w9 (.cells #[O U l1.millis,O U l1.at_,O U l1.lg.pull,O U l1.lg.brake,O U l1.lg.drag,O U l1.lg.hill,O U l1.lg.round,O U l1.lg.hold,O U l1.took,O U l1.gave] 72) _ HK9.out.2.lt).trans HK9.out.2);have n0:=hx.cell 0;have n1:=hx.cell 1;have n2:=hx.cell 2;have hb10:=(HB9.out.alloc (by have:=HS9.out;have:=HSB.out;omega) (.cells #[O U l1.millis,O U l1.at_,O U l1.lg.pull,O U l1.lg.brake,O U l1.lg.drag,O U l1.lg.hill,O U l1.lg.round,O U l1.lg.hold,O U l1.took,O U l1.gave] 72)).grown gr2 (by have:=HS9.out;have:=HSB.out;simp;omega) (fun q hq=>by have:=(HO9.out.lt q hq).1;omega);have hr10:Rw w10 B 102 #[O U x.m,O U x.y,O U (x.z:Int)]:=(gr2.block B (by have:=HS9.out;have:=HSB.out;simp;omega) (fun e=>by have:=(HO9.out.lt _ e.symm).1;omega)).trans ((Below.heap_alloc w9 (.cells #[O U l1.millis,O U l1.at_,O U l1.lg.pull,O U l1.lg.brake,O U l1.lg.drag,O U l1.lg.hill,O U l1.lg.round,O U l1.lg.hold,O U l1.took,O U l1.gave] 72) _ (by have:=HS9.out;have:=HSB.out;omega)).trans HRW9.out);have m0:=hr10.cell 0;have f0:=hr10.frozen 0;have m1:=hr10.cell 1;have f1:=hr10.frozen 1;have m2:=hr10.cell 2;have f2:=hr10.frozen 2)
     have ho3:Own (((w10.setCell ⟨B,0,none⟩ (O U x1.m)).setCell ⟨B,1,none⟩ (O U x1.y)).setCell ⟨B,2,none⟩ (O U (x1.z:Int))) (B+1) 72 10 fLl v2 (acc ++ [l1]):=o2.of_blocks fun q hq=>by
      have hq1:=(o2.lt q hq).1
      exact (Below.heap_setCell _ _ _ _ (show q≠B by omega)).trans ((Below.heap_setCell _ _ _ _ (show q≠B by omega)).trans (Below.heap_setCell _ _ _ _ (show q≠B by omega)))
     refine⟨⟨j+1,x1,acc ++ [l1],by omega,by simp,HOK.out.1,HOK.out.2,by simp [hal],HGO.out,((hr10.set 0 (O U x1.m)).set 1 (O U x1.y)).set 2 (O U (x1.z:Int)),ho3,((hb10.setCell (Nat.le_refl _) _).setCell (Nat.le_refl _) _).setCell (Nat.le_refl _) _⟩, ?_⟩
     simp [intOf] <;> omega
   ·have hji:¬j<ns - 1:=by omega
    have HRA:=Z (show R=some acc from by
     rw [←hgo,List.drop_eq_nil_of_le (by have:=HL.out;omega)];rfl)
    clear hgo hxo hxy hrw hown hbw hac
    go_wp2
    go_ret2
    rw [HLR.out,HRA.out]
    exact⟨_,rfl,by rw [hB];exact HOW.out.lower (by omega),by rw [hB];exact HBW.out⟩
end Go.Proofs.YtfhkbbjddjddmaaGreat
