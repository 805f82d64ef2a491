/- Contract: the reference's slope. -/
import Derived.Test.YtfhkbbjddjddmaaGreatM53
import Derived.Test.YtfhkbbjddjddmaaGreatM52
set_option linter.unusedVariables false
set_option linter.unusedSimpArgs false
open Go.Value renaming int→O
open Go.IntKind renaming i64→U
open Go.Lib renaming hid→Z
namespace Go.Proofs.YtfhkbbjddjddmaaGreat
open Go.RowKit Go.Shelf Go.Lib Go.BigFrame
set_option maxRecDepth 100000 in
set_option maxHeartbeats 4000000 in
theorem rslope_any (A A2:Option Addr) (c c2:Nat) (p:Pl) (Aw:Option Addr) (cw n:Nat) (l:List E) (t:Tr) (At:Option Addr) (nt ct:Nat) (st stop x:Int) (w:World) (hP:PlAt w w.heap.size A c A2 c2 p) (hV:Vld p) (hA:Sl w w.heap.size 2 CE Aw l) (hn:l.length=n) (hl1:1≤n) (hl:n≤2000) (hr:∀e∈l,0≤e.rail∧e.rail<(p.rails.length:Int)) :
  Calls Tryz.prog 65 #[.agg #[.slice A p.nodes.length c,.slice A2 p.rails.length c2,.slice Aw n cw,O U t.mass,O U t.len,O U t.speed,O U t.effort,O U t.brake,O U t.power,O U t.resist,O U t.rise,O U t.back,.slice At nt ct,O U st,O U stop],O U x] w fun e' w'=>e'= .returned (O U (slpR p l x))∧Below w.heap.size w w':=by
 have hb1:=(Below.refl w.heap.size w).alloc (Nat.le_refl _) (.cells #[.slice A p.nodes.length c,.slice A2 p.rails.length c2,.slice Aw n cw,O U t.mass,O U t.len,O U t.speed,O U t.effort,O U t.brake,O U t.power,O U t.resist,O U t.rise,O U t.back,.slice At nt ct,O U st,O U stop] 115)
 have q1:=Rw.new w #[.slice A p.nodes.length c,.slice A2 p.rails.length c2,.slice Aw n cw,O U t.mass,O U t.len,O U t.speed,O U t.effort,O U t.brake,O U t.power,O U t.resist,O U t.rise,O U t.back,.slice At nt ct,O U st,O U stop] 115
 have hrc:=hP.rc;have hrm:=hP.rm
 obtain⟨W1,hW1⟩:∃z,w.alloc (.cells #[.slice A p.nodes.length c,.slice A2 p.rails.length c2,.slice Aw n cw,O U t.mass,O U t.len,O U t.speed,O U t.effort,O U t.brake,O U t.power,O U t.resist,O U t.rise,O U t.back,.slice At nt ct,O U st,O U stop] 115)=z:=⟨_,rfl⟩
 rw [hW1] at hb1 q1
 obtain⟨B0,hB0⟩:∃B,w.heap.size=B:=⟨_,rfl⟩
 rw [hB0] at q1
 have HB1:=Z hb1
 have HK:=Z (show ∀wx,Below W1.heap.size W1 wx→PlAt wx wx.heap.size A c A2 c2 p∧Sl wx wx.heap.size 2 CE Aw l∧Rw wx B0 115 #[.slice A p.nodes.length c,.slice A2 p.rails.length c2,.slice Aw n cw,O U t.mass,O U t.len,O U t.speed,O U t.effort,O U t.brake,O U t.power,O U t.resist,O U t.rise,O U t.back,.slice At nt ct,O U st,O U stop] from fun wx h=>by
  have hb:=hb1.trans (h.mono hb1.size)
  have hz:=Nat.le_trans hb1.size h.size
  exact⟨(hP.below hb).more hz,(hA.below hb).more (fun _ _ h=>h) hz,q1.below h q1.lt⟩)
 have HR:=Z hr;have HV:=Z hV;have HN:=Z hn
 have HRC:=Z (And.intro hrc hrm)
 obtain⟨R,hR⟩:∃R,slpR p l x=R:=⟨_,rfl⟩
 rw [hR]
 have HRR:=Z hR
 clear hb1 q1 hP hA hr hV hn hR hrc hrm
 go_enter Tryz.func65,Tryz.ntmps65
 go_wp2
 have HX1:=Z hW1
 clear hW1
 go_loopw [5,6] (fun s5 s6 wr=>∃k:Nat,k<n∧s6=O U (k:Int)∧s5=O U (begAt p l k)∧(∀j,0<j→j≤k→begAt p l j≤x)∧Below W1.heap.size W1 wr) (fun _ s6 _=>n - (intOf s6).toNat)
 case atStart=>exact⟨0,by omega,rfl,by rw [begAt_zero],fun j a b=>by omega,Below.refl _ _⟩
 case round=>
  obtain⟨k,hk,rfl,rfl,hle,hbr⟩:=hrel
  have HLE:=Z hle
  have HBR:=Z hbr
  obtain⟨hPr,hAr,p0⟩:=HK.out _ hbr
  have hk1:(k:Int)<(n:Int):=by omega
  have hk0:(0:Int)≤(k:Int):=by omega
  obtain⟨b1,o1,e1,g1,q0,q1⟩:=end_at hAr (i:=k) (by have:=HN.out;omega)
  obtain⟨el,hel⟩:∃el,l[k]'(by have:=HN.out;omega)=el:=⟨_,rfl⟩
  rw [hel] at q0 q1
  have hrr:=HR.out el (by rw [←hel];exact List.getElem_mem _)
  obtain⟨rl,hrl⟩:=Int.eq_ofNat_of_zero_le hrr.1
  have hrn:rl<p.rails.length:=by have:=hrr.2;omega
  rw [hrl] at q0
  obtain⟨ld,hld⟩:∃d,el.last=d:=⟨_,rfl⟩
  rw [hld] at q1
  have hee:el=⟨(rl:Int),ld⟩:=by cases el;simp_all
  have hbs:=begAt_succ (p:=p) (l:=l) (k:=k) (by have:=HN.out;omega)
  rw [hel,hrl] at hbs
  have hbd:=begAt_bd HV.out (l:=l) (by have:=HN.out;omega) k
  have hlb:=lenAt_bd HV.out (rl:Int)
  obtain⟨X,hX⟩:∃x,begAt p l k=x:=⟨_,rfl⟩
  obtain⟨Y,hY⟩:∃x,lenAt p (rl:Int)=x:=⟨_,rfl⟩
  rw [hX] at hbs hbd ⊢
  rw [hY] at hbs hlb
  have HBS:=Z hbs
  have hwr:IntKind.i64.wrap (X+Y)=X+Y:=by rw [IntKind.wrap_i64];omega
  have HRN:=Z hrn
  have HRES:=Z (show (x<X+Y∨k+1=n)→R=slpE p ⟨(rl:Int),ld⟩ from fun h=>by
   rw [←HRR.out,slpR_of (f:=k) (by have:=HN.out;omega) ⟨by have:=HN.out;omega,fun j a b=> ?_,fun a=> ?_⟩,List.getElem?_eq_getElem (by have:=HN.out;omega),hel,hee];rfl
   ·rw [begTo_getD (by have:=HN.out;omega)];exact HLE.out j a b
   ·have:=HN.out
    rw [begTo_getD (by omega),HBS.out];omega)
  have HLN:=Z (show ∀wx,Below wr.heap.size wr wx→Calls Tryz.prog 69 #[.agg #[.slice A p.nodes.length c,.slice A2 p.rails.length c2],O U (rl:Int)] wx fun e w'=>e= .returned (O U Y)∧Below wx.heap.size wx w' from fun wx h=>by
   have:=rLength_in A A2 c c2 p (rl:Int) wx (HK.out _ (HBR.out.trans (h.mono HBR.out.size))).1 HV.out (by unfold railIn;exact decide_eq_true ⟨by omega,by have:=HRN.out;omega⟩)
   rwa [hY] at this)
  have HC:=Z (show ∀wx,Below wr.heap.size wr wx→Rw wx B0 115 #[.slice A p.nodes.length c,.slice A2 p.rails.length c2,.slice Aw n cw,O U t.mass,O U t.len,O U t.speed,O U t.effort,O U t.brake,O U t.power,O U t.resist,O U t.rise,O U t.back,.slice At nt ct,O U st,O U stop]∧wx.cell? ⟨b1,o1+k * 2,none⟩=some (O U (rl:Int))∧wx.cell? ⟨b1,o1+k * 2+1,none⟩=some (.bool ld) from fun wx h=>by
   obtain⟨k1,k2,k3⟩:=HK.out wx (HBR.out.trans (h.mono HBR.out.size))
   exact⟨k3,(h.cell (p:=⟨b1,o1+k * 2,none⟩) g1).trans q0,(h.cell (p:=⟨b1,o1+k * 2+1,none⟩) g1).trans q1⟩)
  subst e1
  have c0:=p0.cell 0;have c1:=p0.cell 1;have c2_:=p0.cell 2
  clear p0
  clear hle hbr hPr hAr hel hrr hrl hld hee hbs hbd hlb hX hY hrn q1
  go_upto_region 5 with (fail)
  go_cut [5] from 14 to 24 (fun s5 wx=>s5=O U (X+Y)∧Below wr.heap.size wr wx)
  case first=>
   have hbq:Below wr.heap.size wr wr.drew:=(Below.refl _ _).drew
   first
    | (go_region_held3 (fun w'=>w'.cell? ⟨B0,0,none⟩=some (.slice A p.nodes.length c)∧w'.cell? ⟨B0,1,none⟩=some (.slice A2 p.rails.length c2)∧w'.cell? ⟨B0,2,none⟩=some (.slice (some ⟨b1,o1,none⟩) n cw)∧w'.cell? ⟨b1,o1+k * 2,none⟩=some (O U (rl:Int)))
      (exact⟨(HC.out _ hbq).1.cell 0,(HC.out _ hbq).1.cell 1,(HC.out _ hbq).1.cell 2,(HC.out _ hbq).2.1⟩)
      ((first
       | (go_at_call 69;(with_reducible refine (HLN.out _ hbq).mono ?_);rintro e w5 ⟨rfl,hb5⟩;replace hbq:=hbq.trans (hb5.mono hbq.size)))))
    | fail "held3"
   all_goals
    go_wp2_with fail
    go_meet
    exact⟨rfl,hbq⟩
  case rest=>
  obtain⟨rfl,hbq⟩:=hcut
  obtain⟨k3,d0,d1⟩:=HC.out _ hbq
  have e2:=k3.cell 2;have e1:=k3.cell 1
  obtain⟨b,off,A',c',ea,hb,hE,hc1,hc2,r0,r1,r2,r3,r4⟩:=(HK.out _ (HBR.out.trans (hbq.mono HBR.out.size))).1.rail HRN.out
  subst ea
  obtain⟨sl,hsl⟩:∃s,(p.rails[rl]'HRN.out).slope=s:=⟨_,rfl⟩
  obtain⟨_,_,_,_,_,_,_,f1,f2⟩:=rail_facts HV.out HRN.out
  rw [hsl] at r4 f1 f2
  have hsE:slpE p ⟨(rl:Int),ld⟩=if ld=true then -sl else sl:=by
   have hg:((p.rails[((rl:Int)).toNat]?).map (·.slope)).getD 0=sl:=by rw [show ((rl:Int)).toNat=rl by simp,List.getElem?_eq_getElem HRN.out,←hsl];rfl
   unfold slpE;simp only [hg]
  rw [hsE] at HRES
  have hwn:IntKind.i64.wrap (-sl)= -sl:=by rw [IntKind.wrap_i64];omega
  have hwm:IntKind.i64.wrap ((n:Int) - 1)=(n:Int) - 1:=by rw [IntKind.wrap_i64];omega
  have hrm2:=HRN.out
  have hri:(rl:Int)<(p.rails.length:Int):=by omega
  have hri0:(0:Int)≤(rl:Int):=by omega
  have HB2:=Z (HBR.out.trans (hbq.mono HBR.out.size))
  have HBZ:=Z (HB1.out.trans (HB2.out.mono (by have:=HB1.out.size;omega)))
  clear hbq k3 hE hsl hsE r0 r1 r2 r3 hwr
  by_cases hpl:x<X+Y
  ·have HRS:=Z (HRES.out (.inl hpl))
   cases ld with
   | true=>
    go_upto_region 8 with (fail)
    go_quiet (fail)
    go_wp2
    go_ret
    exact⟨by rw [HRS.out];rfl,by (try rw [←hB0]);exact bDrewN HBZ.out _⟩
   | false=>
    go_upto_region 9 with (fail)
    go_quiet (fail)
    go_wp2
    go_ret
    exact⟨by rw [HRS.out];rfl,by (try rw [←hB0]);exact bDrewN HBZ.out _⟩
  ·by_cases hkn:k+1=n
   ·have HRS:=Z (HRES.out (.inr hkn))
    have hbe:((k:Int) == (n:Int) - 1)=true:=by rw [beq_iff_eq];omega
    clear hkn
    cases ld with
    | true=>
     go_upto_region 8 with (fail)
     go_quiet (fail)
     go_wp2
     go_ret
     exact⟨by rw [HRS.out];rfl,by (try rw [←hB0]);exact bDrewN HBZ.out _⟩
    | false=>
     go_upto_region 9 with (fail)
     go_quiet (fail)
     go_wp2
     go_ret
     exact⟨by rw [HRS.out];rfl,by (try rw [←hB0]);exact bDrewN HBZ.out _⟩
   ·have hbe:((k:Int) == (n:Int) - 1)=false:=by rw [beq_eq_false_iff_ne];omega
    have HKN:=Z hkn
    have HPL:=Z hpl
    have HK2:=Z hk
    clear hkn
    go_wp2
    go_roundw
    case rel=>exact⟨k+1,by have:=HKN.out;have:=HK2.out;omega,by go_num,by rw [HBS.out],fun j a b=>by
     by_cases e:j=k+1
     ·rw [e,HBS.out];have:=HPL.out;omega
     ·exact HLE.out j a (by omega),HB2.out⟩
    case measure=>have:=HK2.out;simp [intOf];omega
end Go.Proofs.YtfhkbbjddjddmaaGreat
