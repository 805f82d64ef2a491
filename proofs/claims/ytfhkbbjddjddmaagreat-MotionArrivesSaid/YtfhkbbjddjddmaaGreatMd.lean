/- Texts M13 M14 M15 M16 M17 M18 M19 M20 M21 M22 M23. -/
import Derived.Test.YtfhkbbjddjddmaaGreatM12
set_option linter.unusedVariables false
set_option linter.unusedSimpArgs false
open Go.Value renaming int→O
open Go.IntKind renaming i64→U
open Go.Lib renaming hid→Z
namespace Go.Proofs.YtfhkbbjddjddmaaGreat
open Go.RowKit
open Go.RowKit
def brakeW (t:Tr) (sl st:Int):Nat→Int→Int→Option Int
 | 0,m,y=>if m≤0 then some y else none
 | k+1,m,y=>if m≤0 then some y else if mkQ t m (-4) sl st≤25000 * t.mass then brakeW t sl st k (mkQ t m (-4) sl st) (y+mkQ t m (-4) sl st) else none
theorem brakeW_stop {t:Tr} {sl st m y:Int} (k:Nat) (h:m≤0):brakeW t sl st k m y=some y:=by cases k <;> (unfold brakeW;rw [if_pos h])
theorem brakeW_zero {t:Tr} {sl st m y:Int} (h:¬m≤0):brakeW t sl st 0 m y=none:=by unfold brakeW;rw [if_neg h]
theorem brakeW_step {t:Tr} {sl st m y:Int} {k j:Nat} (hk:k=j+1) (h:¬m≤0) (hq:mkQ t m (-4) sl st≤25000 * t.mass):brakeW t sl st k m y=brakeW t sl st j (mkQ t m (-4) sl st) (y+mkQ t m (-4) sl st):=by subst hk;rw [brakeW,if_neg h,if_pos hq]
theorem brakeW_fail {t:Tr} {sl st m y:Int} {k j:Nat} (hk:k=j+1) (h:¬m≤0) (hq:¬mkQ t m (-4) sl st≤25000 * t.mass):brakeW t sl st k m y=none:=by subst hk;rw [brakeW,if_neg h,if_neg hq]
theorem FineOk.move {t:Tr} {m y d sl st:Int} (h:FineOk t m y d sl st) {mm yy:Int} (m0:0≤mm) (m1:mm≤25000 * t.mass) (y0:0≤yy) (y1:yy≤20000000000000000):FineOk t mm yy d sl st:=⟨h.ok,m0,m1,y0,y1,h.d0,h.d1,h.s0,h.s1,h.i0,h.ig,h.g0,h.g1⟩
def brkV (t:Tr) (y:Int) (o:Option Int):Int:=match o with|some z=>z / (10 * t.mass) - y / (10 * t.mass)|none=>0
open Go.RowKit
def sightOk (t:Tr) (sl st dist:Int) (v:Nat):Bool:=(brakeW t sl st 36000 ((v:Int) * t.mass) 0).isSome && decide (brkV t 0 (brakeW t sl st 36000 ((v:Int) * t.mass) 0)≤dist)
def sightDn (t:Tr) (sl st dist:Int):Nat→Int
 | 0=>0
 | v+1=>if sightOk t sl st dist (v+1) then ((v+1:Nat):Int) else sightDn t sl st dist v
def sightZ (t:Tr) (sl st dist:Int):Int:=sightDn t sl st dist t.speed.toNat
open Go.RowKit
structure Zn where
 fr:Int
 sl:Int
 lim:Int
def fZn (z:Zn):List Value:= [O U z.fr,O U z.sl,O U z.lim]
def CZn:Zn→List Value→Prop:=fun z cs=>cs=fZn z
theorem zn_at {w:World} {B:Nat} {l:List Zn} {A:Option Addr} (h:Sl w B 3 CZn A l) {i:Nat} (hi:i<l.length) :
  ∃b off,A=some ⟨b,off,none⟩∧b<B∧w.cell? ⟨b,off+i * 3,none⟩=some (O U l[i].fr)∧w.cell? ⟨b,off+i * 3+1,none⟩=some (O U l[i].sl)∧w.cell? ⟨b,off+i * 3+2,none⟩=some (O U l[i].lim):=by
 obtain⟨b,off,cs,e,hb,rfl,hc⟩:=h.at_ hi
 exact⟨b,off,e,hb,by have:=hc 0 _ rfl;simpa using this,hc 1 _ rfl,hc 2 _ rfl⟩
structure RunAt (w:World) (r k:Nat) (t:Tr) (a:Int) (A:Option Addr) (n c:Nat) (Az:Option Addr) (nz cz:Nat) (zs:List Zn):Prop where
 e:Rw w k 139 #[O U t.mass,O U t.len,O U t.speed,O U t.effort,O U t.brake,O U t.power,O U t.resist,O U t.rise,O U t.back,.slice A n c,O U a,.func (.func 74) #[.pointer (some ⟨k,0,none⟩)] #[],.func (.func 75) #[.pointer (some ⟨k,0,none⟩)] #[],.func (.func 76) #[.pointer (some ⟨k,0,none⟩)] #[],.func (.func 77) #[.pointer (some ⟨k,0,none⟩)] #[]]
 r:Rw w r 147 #[.pointer (some ⟨k,0,none⟩),O U (10 * t.mass),.slice Az nz cz]
 zl:zs.length=nz
 z:Sl w w.heap.size 3 CZn Az zs
theorem RunAt.below {w w':World} {r k:Nat} {t:Tr} {a:Int} {A:Option Addr} {n c:Nat} {Az:Option Addr} {nz cz:Nat} {zs:List Zn} (h:RunAt w r k t a A n c Az nz cz zs) (hb:Below w.heap.size w w'):RunAt w' r k t a A n c Az nz cz zs:=
 ⟨h.e.below hb h.e.lt,h.r.below hb h.r.lt,h.zl,(h.z.below hb).more (fun _ _ h=>h) hb.size⟩
set_option maxRecDepth 100000 in
set_option maxHeartbeats 4000000 in
theorem place_any (w:World) (r k:Nat) (t:Tr) (a:Int) (A:Option Addr) (n c:Nat) (Az:Option Addr) (nz cz:Nat) (zs:List Zn) (m y z:Int) (hR:RunAt w r k t a A n c Az nz cz zs) (ht:TrOk t) (y0:0≤y) (y1:y≤30000000000000000) :
  Calls Tryz.prog 79 #[.pointer (some ⟨r,0,none⟩),.agg #[O U m,O U y,O U z]] w fun e w'=>e= .returned (O U (y / (10 * t.mass)))∧Below w.heap.size w w':=by
 have hb1:=(Below.refl w.heap.size w).alloc (Nat.le_refl _) (.cells #[O U m,O U y,O U z] 102)
 have q1:=Rw.new w #[O U m,O U y,O U z] 102
 have hR1:=hR.below hb1
 obtain⟨W1,hW1⟩:∃x,w.alloc (.cells #[O U m,O U y,O U z] 102)=x:=⟨_,rfl⟩
 rw [hW1] at hb1 q1 hR1
 have HB1:=Z hb1
 have e0:=q1.cell 0;have e1:=q1.cell 1;have e2:=q1.cell 2
 have p0:=hR1.r.cell 0;have p1:=hR1.r.cell 1;have p2:=hR1.r.cell 2;have u0:=hR1.e.cell 0
 have hm1:=ht.m1;have hm2:=ht.m2
 have HD:=Z (wrapDiv (y:=y) (u:=10 * t.mass) y0 (by omega) (by omega))
 obtain⟨u,hu⟩:∃u,10 * t.mass=u:=⟨_,rfl⟩
 rw [hu] at p1 HD ⊢
 have hu1:10000≤u:=by omega
 clear hu
 clear hb1 q1 hR1 hR ht
 go_enter Tryz.func79,Tryz.ntmps79
 go_wp2
 go_quiet (fail)
 go_wp2
 go_ret
 exact⟨by first|rfl|(simp only [HD.out];done)|(simp [HD.out];done),bDrewN HB1.out _⟩
set_option maxRecDepth 100000 in
set_option maxHeartbeats 4000000 in
theorem slope_any (w:World) (r k:Nat) (t:Tr) (a:Int) (A:Option Addr) (n c:Nat) (Az:Option Addr) (nz cz:Nat) (zs:List Zn) (m y z:Int) (hR:RunAt w r k t a A n c Az nz cz zs) (ht:TrOk t) (i:Nat) (g:Zn) (hz:z=(i:Int)) (hi:i<zs.length) (hg:zs[i]=g) (hnz8:nz≤1000000) :
  Calls Tryz.prog 103 #[.pointer (some ⟨r,0,none⟩),.agg #[O U m,O U y,O U z]] w fun e w'=>e= .returned (O U g.sl)∧Below w.heap.size w w':=by
 have hb1:=(Below.refl w.heap.size w).alloc (Nat.le_refl _) (.cells #[O U m,O U y,O U z] 102)
 have q1:=Rw.new w #[O U m,O U y,O U z] 102
 have hR1:=hR.below hb1
 obtain⟨W1,hW1⟩:∃x,w.alloc (.cells #[O U m,O U y,O U z] 102)=x:=⟨_,rfl⟩
 rw [hW1] at hb1 q1 hR1
 have HB1:=Z hb1
 have e0:=q1.cell 0;have e1:=q1.cell 1;have e2:=q1.cell 2
 have p0:=hR1.r.cell 0;have p1:=hR1.r.cell 1;have p2:=hR1.r.cell 2;have u0:=hR1.e.cell 0
 have hm1:=ht.m1;have hm2:=ht.m2
 subst hz
 obtain⟨b,o,rfl,hbz,c0,c1,c2⟩:=zn_at hR1.z hi
 have hnz:=hR1.zl
 have hii:(i:Int)<(nz:Int):=by omega
 have hi0:(0:Int)≤(i:Int):=by omega
 rw [hg] at c0 c1 c2
 clear hb1 q1 hR1 hR ht
 go_enter Tryz.func103,Tryz.ntmps103
 go_wp2
 go_quiet (fail)
 go_wp2
 go_ret
 exact⟨by first|rfl|simp,bDrewN HB1.out _⟩
set_option maxRecDepth 100000 in
set_option maxHeartbeats 4000000 in
theorem beyond_any (w:World) (r k:Nat) (t:Tr) (a:Int) (A:Option Addr) (n c:Nat) (Az:Option Addr) (nz cz:Nat) (zs:List Zn) (m y z:Int) (s:Int) (hR:RunAt w r k t a A n c Az nz cz zs) (ht:TrOk t) (s0: -1000000000≤s) (s1:s≤3000000000000) :
  Calls Tryz.prog 80 #[.pointer (some ⟨r,0,none⟩),.agg #[O U m,O U y,O U z],O U s] w fun e w'=>e= .returned (.bool (decide ((s+1) * (10 * t.mass)≤y)))∧Below w.heap.size w w':=by
 have hb1:=(Below.refl w.heap.size w).alloc (Nat.le_refl _) (.cells #[O U m,O U y,O U z] 102)
 have q1:=Rw.new w #[O U m,O U y,O U z] 102
 have hR1:=hR.below hb1
 obtain⟨W1,hW1⟩:∃x,w.alloc (.cells #[O U m,O U y,O U z] 102)=x:=⟨_,rfl⟩
 rw [hW1] at hb1 q1 hR1
 have HB1:=Z hb1
 have e0:=q1.cell 0;have e1:=q1.cell 1;have e2:=q1.cell 2
 have p0:=hR1.r.cell 0;have p1:=hR1.r.cell 1;have p2:=hR1.r.cell 2;have u0:=hR1.e.cell 0
 have hm1:=ht.m1;have hm2:=ht.m2
 have hp: -800000000000000≤(s+1) * (10 * t.mass)∧(s+1) * (10 * t.mass)≤2400001000000000000:=by
  have a1:=Int.mul_le_mul_of_nonneg_right (show s+1≤3000000000001 by omega) (show 0≤10 * t.mass by omega)
  have a2:=Int.mul_le_mul_of_nonneg_right (show -1000000000≤s+1 by omega) (show 0≤10 * t.mass by omega)
  omega
 have hw0:IntKind.i64.wrap (s+1)=s+1:=by rw [IntKind.wrap_i64];omega
 obtain⟨x,hx⟩:∃x,(s+1) * (10 * t.mass)=x:=⟨_,rfl⟩
 rw [hx] at hp ⊢
 obtain⟨u,hu⟩:∃u,10 * t.mass=u:=⟨_,rfl⟩
 rw [hu] at p1 hx
 have hw1:IntKind.i64.wrap ((s+1) * u)=x:=by rw [hx,IntKind.wrap_i64];omega
 clear hu hx
 clear hb1 q1 hR1 hR ht
 go_enter Tryz.func80,Tryz.ntmps80
 go_wp2
 go_quiet (fail)
 go_wp2
 go_ret
 exact⟨by first|rfl|simp,bDrewN HB1.out _⟩
set_option maxRecDepth 100000 in
set_option maxHeartbeats 4000000 in
theorem fast_any (w:World) (r k:Nat) (t:Tr) (a:Int) (A:Option Addr) (n c:Nat) (Az:Option Addr) (nz cz:Nat) (zs:List Zn) (m y z:Int) (hR:RunAt w r k t a A n c Az nz cz zs) (ht:TrOk t) (i:Nat) (g:Zn) (hz:z=(i:Int)) (hi:i<zs.length) (hg:zs[i]=g) (hnz8:nz≤1000000) (l0:0≤g.lim) (l1:g.lim≤1000000000) :
  Calls Tryz.prog 136 #[.pointer (some ⟨r,0,none⟩),.agg #[O U m,O U y,O U z]] w fun e w'=>e= .returned (.bool (decide ((g.lim+1) * t.mass≤m)))∧Below w.heap.size w w':=by
 have hb1:=(Below.refl w.heap.size w).alloc (Nat.le_refl _) (.cells #[O U m,O U y,O U z] 102)
 have q1:=Rw.new w #[O U m,O U y,O U z] 102
 have hR1:=hR.below hb1
 obtain⟨W1,hW1⟩:∃x,w.alloc (.cells #[O U m,O U y,O U z] 102)=x:=⟨_,rfl⟩
 rw [hW1] at hb1 q1 hR1
 have HB1:=Z hb1
 have e0:=q1.cell 0;have e1:=q1.cell 1;have e2:=q1.cell 2
 have p0:=hR1.r.cell 0;have p1:=hR1.r.cell 1;have p2:=hR1.r.cell 2;have u0:=hR1.e.cell 0
 have hm1:=ht.m1;have hm2:=ht.m2
 subst hz
 obtain⟨b,o,rfl,hbz,c0,c1,c2⟩:=zn_at hR1.z hi
 have hnz:=hR1.zl
 have hii:(i:Int)<(nz:Int):=by omega
 have hi0:(0:Int)≤(i:Int):=by omega
 rw [hg] at c0 c1 c2
 have hp:0≤(g.lim+1) * t.mass∧(g.lim+1) * t.mass≤80000080000000:=by
  have a1:=Int.mul_le_mul_of_nonneg_right (show g.lim+1≤1000000001 by omega) (show 0≤t.mass by omega)
  have a2:=Int.mul_nonneg (show 0≤g.lim+1 by omega) (show 0≤t.mass by omega)
  omega
 have hw0:IntKind.i64.wrap (g.lim+1)=g.lim+1:=by rw [IntKind.wrap_i64];omega
 obtain⟨x,hx⟩:∃x,(g.lim+1) * t.mass=x:=⟨_,rfl⟩
 rw [hx] at hp ⊢
 have hw1:IntKind.i64.wrap ((g.lim+1) * t.mass)=x:=by rw [hx,IntKind.wrap_i64];omega
 clear hx
 clear hb1 q1 hR1 hR ht
 go_enter Tryz.func136,Tryz.ntmps136
 go_wp2
 go_quiet (fail)
 go_wp2
 go_ret
 exact⟨by first|rfl|simp,bDrewN HB1.out _⟩
open Go.RowKit
def cellNat (w:World) (b i:Nat):Nat:=match w.cell? ⟨b,i,none⟩ with|some v=>(intOf v).toNat|none=>0
def zadv (zs:List Zn) (u y:Int):Nat→Nat→Nat
 | 0,z=>z
 | f+1,z=>match zs[z+1]? with
  | none=>z
  | some g=>if g.fr * u≤y then zadv zs u y f (z+1) else z
theorem zadv_end {zs:List Zn} {u y:Int} {f z:Nat} (h:zs[z+1]? = none):zadv zs u y f z=z:=by
 cases f with
 | zero=>rfl
 | succ f=>rw [zadv,h]
theorem zadv_stay {zs:List Zn} {u y:Int} {f z:Nat} {g:Zn} (h:zs[z+1]? = some g) (hg:¬g.fr * u≤y):zadv zs u y f z=z:=by
 cases f with
 | zero=>rfl
 | succ f=>rw [zadv,h];simp [hg]
theorem zadv_go {zs:List Zn} {u y:Int} {f z:Nat} {g:Zn} (h:zs[z+1]? = some g) (hg:g.fr * u≤y):zadv zs u y (f+1) z=zadv zs u y f (z+1):=by
 rw [zadv,h];simp [hg]
set_option maxRecDepth 100000 in
set_option maxHeartbeats 4000000 in
theorem moved_any (w:World) (r k:Nat) (t:Tr) (a:Int) (A:Option Addr) (n c:Nat) (Az:Option Addr) (nz cz:Nat) (zs:List Zn) (m y q:Int) (z:Nat) (hR:RunAt w r k t a A n c Az nz cz zs) (ht:TrOk t) (hz:z<zs.length) (hn:nz≤1000000) (y0:0≤y) (y1:y≤20000000000000000) (q0:0≤q) (q1:q≤2100000000) (hzs:∀g∈zs, -1000000000≤g.fr∧g.fr≤3000000000000) :
  Calls Tryz.prog 87 #[.pointer (some ⟨r,0,none⟩),.agg #[O U m,O U y,O U (z:Int)],O U q] w fun e w'=>e= .returned (.agg #[O U q,O U (y+q),O U ((zadv zs (10 * t.mass) (y+q) zs.length z:Nat):Int)])∧Below w.heap.size w w':=by
 have hb1:=((Below.refl w.heap.size w).alloc (Nat.le_refl _) (.cells #[O U m,O U y,O U (z:Int)] 102)).alloc (by simp) (.cells #[O U 0,O U 0,O U 0] 102)
 obtain⟨q1',q2'⟩:=rows2 w #[O U m,O U y,O U (z:Int)] #[O U 0,O U 0,O U 0] 102 102
 have hR1:=(hR.below ((Below.refl w.heap.size w).alloc (Nat.le_refl _) (.cells #[O U m,O U y,O U (z:Int)] 102))).below ((Below.refl _ _).alloc (Nat.le_refl _) (.cells #[O U 0,O U 0,O U 0] 102))
 obtain⟨W1,hW1⟩:∃x,((w.alloc (.cells #[O U m,O U y,O U (z:Int)] 102)).alloc (.cells #[O U 0,O U 0,O U 0] 102))=x:=⟨_,rfl⟩
 rw [hW1] at hb1 q1' q2' hR1
 have HB1:=Z hb1;have HQ1:=Z q1';have HQ2:=Z q2'
 have HRr:=Z hR;have HR1:=Z hR1
 have HK:=Z (show r<w.heap.size∧k<w.heap.size from⟨hR.r.lt,hR.e.lt⟩)
 have e0:=q1'.cell 0;have e1:=q1'.cell 1;have e2:=q1'.cell 2;have d0:=q1'.frozen 0;have d1:=q1'.frozen 1;have d2:=q1'.frozen 2
 have hw1:IntKind.i64.wrap (y+q)=y+q:=by rw [IntKind.wrap_i64];omega
 have hm1:=ht.m1;have hm2:=ht.m2
 have HZS:=Z hzs;have HZ:=Z hz;have HN:=Z hn
 have HYQ:=Z (show 0≤y+q∧y+q≤30000000000000000 from by omega)
 obtain⟨F,hF⟩:∃F,zadv zs (10 * t.mass) (y+q) zs.length z=F:=⟨_,rfl⟩
 rw [hF]
 have HF:=Z hF
 clear hb1 q1' q2' hR1 hR ht hzs hz hF hn y0 y1 q0 q1
 go_enter Tryz.func87,Tryz.ntmps87
 go_upto_region 3 with (fail)
 go_loopw [17] (fun s17 wr=>∃j f:Nat,j<zs.length∧zs.length≤j+f∧zadv zs (10 * t.mass) (y+q) f j=F∧Rw wr w.heap.size 102 #[O U q,O U (y+q),O U (j:Int)]∧Rw wr (w.heap.size+1) 102 #[O U 0,O U 0,O U 0]∧Below w.heap.size w wr) (fun s17 wr=>zs.length - cellNat wr w.heap.size 2)
 case atStart=>exact⟨z,zs.length,HZ.out,by omega,HF.out,(HQ1.out.set 0 _).set 1 _,(HQ2.out.far (k:=w.heap.size) 0 _ (by omega)).far (k:=w.heap.size) 1 _ (by omega),(HB1.out.setCell (by simp) _).setCell (by simp) _⟩
 case round=>
  obtain⟨j,f,hj,hf,hz,hr1,hr2,hbr⟩:=hrel
  have hRr:=HRr.out.below hbr
  have HBR:=Z hbr;have HW1:=Z hr1;have HW2:=Z hr2
  have hnz:=hRr.zl
  have hc2:=hr1.cell 2
  have e0:=hr1.cell 0;have e1:=hr1.cell 1;have e2:=hr1.cell 2;have d0:=hr1.frozen 0;have d1:=hr1.frozen 1;have d2:=hr1.frozen 2;have g0:=hr2.cell 0;have g1:=hr2.cell 1;have g2:=hr2.cell 2;have k0:=hr2.frozen 0;have k1:=hr2.frozen 1;have k2:=hr2.frozen 2
  have p1:=hRr.r.cell 1;have p2:=hRr.r.cell 2
  have hyq:=HYQ.out;have hn8:=HN.out
  have HCN:=Z (show cellNat wr w.heap.size 2=j from by unfold cellNat;rw [hr1.cell 2];simp [intOf])
  by_cases hj1:j+1<zs.length
  ·obtain⟨b,o,rfl,hb,c0,c1,c2⟩:=zn_at hRr.z hj1
   obtain⟨g,hg⟩:∃g,zs[j+1]=g:=⟨_,rfl⟩
   rw [hg] at c0 c1 c2
   have hg? : zs[j+1]? = some g:=by rw [List.getElem?_eq_getElem hj1,hg]
   have hgb:=HZS.out g (List.mem_of_getElem? hg?)
   have hjj:(j:Int)+1<(nz:Int):=by omega
   have hj0:(0:Int)≤(j:Int)+1:=by omega
   have hp: -800000000000000≤g.fr * (10 * t.mass)∧g.fr * (10 * t.mass)≤2400001000000000000:=by
    have a1:=Int.mul_le_mul_of_nonneg_right hgb.2 (show 0≤10 * t.mass by omega)
    have a2:=Int.mul_le_mul_of_nonneg_right hgb.1 (show 0≤10 * t.mass by omega)
    omega
   obtain⟨x,hx⟩:∃x,g.fr * (10 * t.mass)=x:=⟨_,rfl⟩
   rw [hx] at hp
   obtain⟨u,hu⟩:∃u,10 * t.mass=u:=⟨_,rfl⟩
   have hw3:IntKind.i64.wrap (g.fr * u)=x:=by rw [←hu,hx,IntKind.wrap_i64];omega
   rw [hu] at p1
   have hw4:IntKind.i64.wrap ((j:Int)+1)=(j:Int)+1:=by rw [IntKind.wrap_i64];omega
   have HHX:=Z (And.intro hx hg?)
   have HZF:=Z hz;have HFF:=Z hf;have HJ1:=Z hj1
   clear hx hu hg hgb hg? hz hf hb hRr hr1 hr2 hbr hc2 hp
   by_cases hle:x≤y+q
   ·go_upto_region 3 with (fail)
    go_quiet (fail)
    go_wp2
    have hzf:=HZF.out
    obtain⟨f',rfl⟩:∃f',f=f'+1:=⟨f - 1,by have:=HFF.out;have:=HJ1.out;omega⟩
    rw [zadv_go HHX.out.2 (by rw [HHX.out.1];omega)] at hzf
    have hD:=fun k=>bDrewN (Below.refl wr.heap.size wr) k
    have h1:=fun k=>(HW1.out.below (hD k) HW1.out.lt).set 2 (O U ((j:Int)+1))
    have h2:=fun k=>(HW2.out.below (hD k) HW2.out.lt).far (k:=w.heap.size) 2 (O U ((j:Int)+1)) (by omega)
    refine⟨⟨j+1,f',HJ1.out,by have:=HFF.out;omega,hzf, ?_, ?_, ?_⟩, ?_⟩
    ·exact h1 _
    ·exact h2 _
    ·exact (HBR.out.trans ((hD _).mono HBR.out.size)).setCell (by simp) _
    ·have h9:=(h1 nq).cell 2
     have hcn:=HCN.out
     have h8:cellNat (((wr.drewN nq).setCell ⟨w.heap.size,2,none⟩ (O U ((j:Int)+1)))) w.heap.size 2=j+1:=by
      unfold cellNat;rw [h9];simp [intOf];try omega
     rw [h8,hcn]
     have:=HJ1.out
     omega
   ·go_upto_region 3 with (fail)
    go_quiet (fail)
    go_wp2
    have HFE:j=F:=by have h:=HZF.out;rwa [zadv_stay HHX.out.2 (by rw [HHX.out.1];omega)] at h
    have hD:=fun k=>bDrewN (Below.refl wr.heap.size wr) k
    have hr:=fun k=>(((HW2.out.below (hD k) HW2.out.lt).set 0 (O U q)).set 1 (O U (y+q))).set 2 (O U (j:Int))
    (try simp only [Exit.inBlock,Exit.then])
    refine bodyPost_ret (res_c rfl _ _ _ _ _ _ rfl (hr _) Tryz.underlying102 rfl (by kernel_rfl)) rfl ⟨by rw [←HFE];rfl, ?_⟩
    exact (((HBR.out.trans ((hD _).mono HBR.out.size)).setCell (by simp) _).setCell (by simp) _).setCell (by simp) _
  ·have hjj:¬(j:Int)+1<(nz:Int):=by omega
   go_upto_region 3 with (fail)
   go_quiet (fail)
   go_wp2
   have HFE:j=F:=by have h:=hz;rwa [zadv_end (List.getElem?_eq_none (by omega))] at h
   have hD:=fun k=>bDrewN (Below.refl wr.heap.size wr) k
   have hr:=fun k=>(((HW2.out.below (hD k) HW2.out.lt).set 0 (O U q)).set 1 (O U (y+q))).set 2 (O U (j:Int))
   (try simp only [Exit.inBlock,Exit.then])
   refine bodyPost_ret (res_c rfl _ _ _ _ _ _ rfl (hr _) Tryz.underlying102 rfl (by kernel_rfl)) rfl ⟨by rw [←HFE];rfl, ?_⟩
   exact (((HBR.out.trans ((hD _).mono HBR.out.size)).setCell (by simp) _).setCell (by simp) _).setCell (by simp) _
open Go.RowKit
set_option maxRecDepth 100000 in
set_option maxHeartbeats 4000000 in
theorem newRun_any (A:Option Addr) (c n:Nat) (t:Tr) (st g:Int) (i:Nat) (Az:Option Addr) (nz cz:Nat) (zs:List Zn) (w:World) (ht:TrOk t) (hn:t.grip.length=n) (hs:st=(i:Int)) (hg:t.grip[i]? = some g) (hS:Sl w w.heap.size 1 CI A t.grip) (hz:zs.length=nz) (hZ:Sl w w.heap.size 3 CZn Az zs) :
  Calls Tryz.prog 57 #[.agg #[O U t.mass,O U t.len,O U t.speed,O U t.effort,O U t.brake,O U t.power,O U t.resist,O U t.rise,O U t.back,.slice A n c],O U st,.slice Az nz cz] w fun e w'=>∃r k,e= .returned (.pointer (some ⟨r,0,none⟩))∧w.heap.size≤r∧w.heap.size≤k∧RunAt w' r k t (adhZ t g) A n c Az nz cz zs∧Below w.heap.size w w':=by
 have hb1:=(Below.refl w.heap.size w).alloc (Nat.le_refl _) (.cells #[O U t.mass,O U t.len,O U t.speed,O U t.effort,O U t.brake,O U t.power,O U t.resist,O U t.rise,O U t.back,.slice A n c] 24)
 have q1:=Rw.new w #[O U t.mass,O U t.len,O U t.speed,O U t.effort,O U t.brake,O U t.power,O U t.resist,O U t.rise,O U t.back,.slice A n c] 24
 obtain⟨W1,hW1⟩:∃z,w.alloc (.cells #[O U t.mass,O U t.len,O U t.speed,O U t.effort,O U t.brake,O U t.power,O U t.resist,O U t.rise,O U t.back,.slice A n c] 24)=z:=⟨_,rfl⟩
 rw [hW1] at hb1 q1
 have HB1:=Z hb1
 have HSK:=Z (show ∀wx,Below W1.heap.size W1 wx→Rw wx w.heap.size 24 #[O U t.mass,O U t.len,O U t.speed,O U t.effort,O U t.brake,O U t.power,O U t.resist,O U t.rise,O U t.back,.slice A n c] from fun wx h=>q1.below h q1.lt)
 have HNE:=Z (show ∀wx,Below W1.heap.size W1 wx→Calls Tryz.prog 45 #[.agg #[O U t.mass,O U t.len,O U t.speed,O U t.effort,O U t.brake,O U t.power,O U t.resist,O U t.rise,O U t.back,.slice A n c],O U st] wx fun e w'=>∃k,e= .returned (.pointer (some ⟨k,0,none⟩))∧wx.heap.size≤k∧Rw w' k 139 #[O U t.mass,O U t.len,O U t.speed,O U t.effort,O U t.brake,O U t.power,O U t.resist,O U t.rise,O U t.back,.slice A n c,O U (adhZ t g),.func (.func 74) #[.pointer (some ⟨k,0,none⟩)] #[],.func (.func 75) #[.pointer (some ⟨k,0,none⟩)] #[],.func (.func 76) #[.pointer (some ⟨k,0,none⟩)] #[],.func (.func 77) #[.pointer (some ⟨k,0,none⟩)] #[]]∧Below wx.heap.size wx w' from fun wx h=>newEngine_any A c n t st g i wx ht hn hs hg ((hS.below (hb1.trans (h.mono hb1.size))).more (fun _ _ h=>h) (Nat.le_trans hb1.size h.size)))
 have HZL:=Z (show ∀wx,Below W1.heap.size W1 wx→Sl wx wx.heap.size 3 CZn Az zs from fun wx h=>(hZ.below (hb1.trans (h.mono hb1.size))).more (fun _ _ h=>h) (Nat.le_trans hb1.size h.size))
 have HZN:=Z hz
 have hm1:=ht.m1;have hm2:=ht.m2
 have hw:IntKind.i64.wrap (10 * t.mass)=10 * t.mass:=by rw [IntKind.wrap_i64];omega
 clear hb1 q1 hS hZ hz hn hs hg ht
 go_enter Tryz.func57,Tryz.ntmps57
 go_upto_region 1 with (fail)
 have hbq:Below W1.heap.size W1 W1.drew:=(Below.refl _ _).drew
 have HS:=Z (HSK.out _ hbq)
 refine wp_region_held_drew (S:=fun wx=>Rw wx w.heap.size 24 #[O U t.mass,O U t.len,O U t.speed,O U t.effort,O U t.brake,O U t.power,O U t.resist,O U t.rise,O U t.back,.slice A n c]) (by kernel_rfl) HS.out (fun _=> ?_)
 refine hTk (i:=0) (d:=7) (v:= .agg #[O U t.mass,O U t.len,O U t.speed,O U t.effort,O U t.brake,O U t.power,O U t.resist,O U t.rise,O U t.back,.slice A n c]) rfl rfl (Or.inl ⟨rfl,by rintro W' s0;have y0:=s0.cell 0;have y1:=s0.cell 1;have y2:=s0.cell 2;have y3:=s0.cell 3;have y4:=s0.cell 4;have y5:=s0.cell 5;have y6:=s0.cell 6;have y7:=s0.cell 7;have y8:=s0.cell 8;have y9:=s0.cell 9;go_simp⟩) HS.out ?_
 simp only [Act.put,sB,sZ,sS]
 refine hTk (i:=1) (d:=8) (v:=O U st) rfl rfl (Or.inl ⟨rfl,by rintro W' s0;have y0:=s0.cell 0;have y1:=s0.cell 1;have y2:=s0.cell 2;have y3:=s0.cell 3;have y4:=s0.cell 4;have y5:=s0.cell 5;have y6:=s0.cell 6;have y7:=s0.cell 7;have y8:=s0.cell 8;have y9:=s0.cell 9;go_simp⟩) HS.out ?_
 simp only [Act.put,sB,sZ,sS]
 refine hTk (i:=3) (d:=10) (v:= .pointer (some ⟨w.heap.size,0,none⟩)) rfl rfl (Or.inl ⟨rfl,by rintro W' s0;have y0:=s0.cell 0;have y1:=s0.cell 1;have y2:=s0.cell 2;have y3:=s0.cell 3;have y4:=s0.cell 4;have y5:=s0.cell 5;have y6:=s0.cell 6;have y7:=s0.cell 7;have y8:=s0.cell 8;have y9:=s0.cell 9;go_simp⟩) HS.out ?_
 simp only [Act.put,sB,sZ,sS]
 refine hTk (i:=4) (d:=11) (v:=O U t.mass) rfl rfl (Or.inl ⟨rfl,by rintro W' s0;have y0:=s0.cell 0;have y1:=s0.cell 1;have y2:=s0.cell 2;have y3:=s0.cell 3;have y4:=s0.cell 4;have y5:=s0.cell 5;have y6:=s0.cell 6;have y7:=s0.cell 7;have y8:=s0.cell 8;have y9:=s0.cell 9;go_simp⟩) HS.out ?_
 simp only [Act.put,sB,sZ,sS]
 refine hTk (i:=5) (d:=12) (v:=O U (10 * t.mass)) rfl rfl (Or.inl ⟨rfl,by rintro W' s0;have y0:=s0.cell 0;have y1:=s0.cell 1;have y2:=s0.cell 2;have y3:=s0.cell 3;have y4:=s0.cell 4;have y5:=s0.cell 5;have y6:=s0.cell 6;have y7:=s0.cell 7;have y8:=s0.cell 8;have y9:=s0.cell 9;go_simp⟩) HS.out ?_
 simp only [Act.put,sB,sZ,sS]
 refine hTk (i:=6) (d:=13) (v:= .slice Az nz cz) rfl rfl (Or.inl ⟨rfl,by rintro W' s0;have y0:=s0.cell 0;have y1:=s0.cell 1;have y2:=s0.cell 2;have y3:=s0.cell 3;have y4:=s0.cell 4;have y5:=s0.cell 5;have y6:=s0.cell 6;have y7:=s0.cell 7;have y8:=s0.cell 8;have y9:=s0.cell 9;go_simp⟩) HS.out ?_
 simp only [Act.put,sB,sZ,sS]
 refine wpAnyH_ready (rs:= [2]) (by kernel_rfl) (by simp) ?_
 refine AllReadyH.cons rfl (fun K hK=> ?_) AllReadyH.nil
 rw [if_pos (by rfl)]
 go_simp
 go_at_call 45
 have hbq0:=hbq
 (with_reducible refine (HNE.out _ hbq).mono ?_)
 rintro e w2 ⟨k,rfl,hk,hR,hbn⟩
 replace hbq:=hbq.trans (hbn.mono hbq.size)
 have HRE:=Z hR
 have HKL:=Z (Nat.le_trans (show W1.heap.size≤_ from hbq0.size) hk)
 clear hbn hR hk
 have HS:=Z (HSK.out _ hbq)
 refine hK.out _ _ HS.out (fun _=> ?_)
 clear hK K
 try simp only [Act.put,sB,sZ,sS]
 refine hTk (i:=7) (d:=14) (v:= .agg #[.pointer (some ⟨k,0,none⟩),O U (10 * t.mass),.slice Az nz cz]) rfl rfl (Or.inl ⟨rfl,by rintro W' s0;have y0:=s0.cell 0;have y1:=s0.cell 1;have y2:=s0.cell 2;have y3:=s0.cell 3;have y4:=s0.cell 4;have y5:=s0.cell 5;have y6:=s0.cell 6;have y7:=s0.cell 7;have y8:=s0.cell 8;have y9:=s0.cell 9;go_simp⟩) HS.out ?_
 simp only [Act.put,sB,sZ,sS]
 refine wpAnyH_ready (rs:= [8]) (by kernel_rfl) (by simp) ?_
 refine AllReadyH.cons rfl (fun K hK=> ?_) AllReadyH.nil
 rw [if_pos (by rfl)]
 go_simp
 have hrr:=Rw.new w2 #[.pointer (some ⟨k,0,none⟩),O U (10 * t.mass),.slice Az nz cz] 147
 have hre:=HRE.out.alloc (.cells #[.pointer (some ⟨k,0,none⟩),O U (10 * t.mass),.slice Az nz cz] 147)
 have hks:=HKL.out
 have hbs:=hbq.size
 replace hbq:=hbq.alloc hbq.size (.cells #[.pointer (some ⟨k,0,none⟩),O U (10 * t.mass),.slice Az nz cz] 147)
 have HS:=Z (HSK.out _ hbq)
 refine hK.out _ _ HS.out (fun _=> ?_)
 clear hK K
 try simp only [Act.put,sB,sZ,sS]
 refine hTk (i:=9) (d:=6) (v:= .pointer (some ⟨w2.heap.size,0,none⟩)) rfl rfl (Or.inl ⟨rfl,by rintro W' s0;have y0:=s0.cell 0;have y1:=s0.cell 1;have y2:=s0.cell 2;have y3:=s0.cell 3;have y4:=s0.cell 4;have y5:=s0.cell 5;have y6:=s0.cell 6;have y7:=s0.cell 7;have y8:=s0.cell 8;have y9:=s0.cell 9;go_simp⟩) HS.out ?_
 simp only [Act.put,sB,sZ,sS]
 refine wpAnyH_done (by kernel_rfl) ?_ _
 go_wp2
 go_ret
 have hb0:=HB1.out.size
 exact⟨w2.heap.size,k,rfl,by omega,by omega,⟨hre,hrr,HZN.out,HZL.out _ hbq⟩,HB1.out.trans (hbq.mono HB1.out.size)⟩
open Go.RowKit
set_option maxRecDepth 100000 in
set_option maxHeartbeats 4000000 in
theorem level_any (A:Option Addr) (c n:Nat) (t:Tr) (st sl g:Int) (i:Nat) (w:World) (ht:TrOk t) (hn:t.grip.length=n) (hs:st=(i:Int)) (hg:t.grip[i]? = some g) (hS:Sl w w.heap.size 1 CI A t.grip) :
  Calls Tryz.prog 51 #[.agg #[O U t.mass,O U t.len,O U t.speed,O U t.effort,O U t.brake,O U t.power,O U t.resist,O U t.rise,O U t.back,.slice A n c],O U st,O U sl] w fun e w'=>∃r k Az nz cz,e= .returned (.pointer (some ⟨r,0,none⟩))∧w.heap.size≤r∧w.heap.size≤k∧RunAt w' r k t (adhZ t g) A n c Az nz cz [⟨0,sl,0⟩]∧Below w.heap.size w w':=by
 have hb1:=(Below.refl w.heap.size w).alloc (Nat.le_refl _) (.cells #[O U t.mass,O U t.len,O U t.speed,O U t.effort,O U t.brake,O U t.power,O U t.resist,O U t.rise,O U t.back,.slice A n c] 24)
 have q1:=Rw.new w #[O U t.mass,O U t.len,O U t.speed,O U t.effort,O U t.brake,O U t.power,O U t.resist,O U t.rise,O U t.back,.slice A n c] 24
 obtain⟨W1,hW1⟩:∃z,w.alloc (.cells #[O U t.mass,O U t.len,O U t.speed,O U t.effort,O U t.brake,O U t.power,O U t.resist,O U t.rise,O U t.back,.slice A n c] 24)=z:=⟨_,rfl⟩
 rw [hW1] at hb1 q1
 have HB1:=Z hb1
 have e0:=q1.cell 0;have e1:=q1.cell 1;have e2:=q1.cell 2;have e3:=q1.cell 3;have e4:=q1.cell 4;have e5:=q1.cell 5;have e6:=q1.cell 6;have e7:=q1.cell 7;have e8:=q1.cell 8;have e9:=q1.cell 9
 have HNR:=Z (show ∀wx (Az:Option Addr) (cz:Nat),Below w.heap.size w wx→Sl wx wx.heap.size 3 CZn Az [⟨0,sl,0⟩]→Calls Tryz.prog 57 #[.agg #[O U t.mass,O U t.len,O U t.speed,O U t.effort,O U t.brake,O U t.power,O U t.resist,O U t.rise,O U t.back,.slice A n c],O U st,.slice Az 1 cz] wx fun e w'=>∃r k,e= .returned (.pointer (some ⟨r,0,none⟩))∧wx.heap.size≤r∧wx.heap.size≤k∧RunAt w' r k t (adhZ t g) A n c Az 1 cz [⟨0,sl,0⟩]∧Below wx.heap.size wx w' from fun wx Az cz h hz=>newRun_any A c n t st g i Az 1 cz [⟨0,sl,0⟩] wx ht hn hs hg ((hS.below h).more (fun _ _ h=>h) h.size) rfl hz)
 clear hb1 q1 hS ht hn hs hg
 go_enter Tryz.func51,Tryz.ntmps51
 go_wp2_with fail
 have hx:=HB1.out.alloc HB1.out.size (.cells #[O U 0,O U sl,O U 0] 141)
 have hr:=Rw.new W1 #[O U 0,O U sl,O U 0] 141
 have hz:Sl (W1.alloc (.cells #[O U 0,O U sl,O U 0] 141)) (W1.alloc (.cells #[O U 0,O U sl,O U 0] 141)).heap.size 3 CZn (some ⟨W1.heap.size,0,none⟩) [⟨0,sl,0⟩]:=by
  intro _
  refine⟨W1.heap.size,0,rfl,hr.lt,fun j x hj=> ?_⟩
  match j,hj with
  | 0,hj=>
   cases hj
   refine⟨_,rfl,fun e u hu=> ?_⟩
   have hc:=hr.cell e
   match e,hu with
   | 0,hu=>cases hu;exact hc
   | 1,hu=>cases hu;exact hc
   | 2,hu=>cases hu;exact hc
 (with_reducible refine (HNR.out _ _ _ hx hz).mono ?_)
 rintro e w2 ⟨r,k,rfl,hr1,hk1,hRA,hb2⟩
 have H2:=Z hRA
 have H3:=Z (show w.heap.size≤r∧w.heap.size≤k from⟨Nat.le_trans hx.size hr1,Nat.le_trans hx.size hk1⟩)
 have H4:=Z (hx.trans (hb2.mono hx.size))
 clear hx hr hz hr1 hk1 hRA hb2
 go_wp2
 go_ret
 exact⟨r,k,_,1,1,rfl,H3.out.1,H3.out.2,H2.out,H4.out⟩
open Go.RowKit
def addL (a b:Lg):Lg:=⟨wrap64 (a.pull+b.pull),wrap64 (a.brake+b.brake),wrap64 (a.drag+b.drag),wrap64 (a.hill+b.hill),wrap64 (a.round+b.round),wrap64 (a.hold+b.hold)⟩
open Go.RowKit
set_option maxRecDepth 100000 in
set_option maxHeartbeats 4000000 in
theorem arrived_any (w:World) (r k:Nat) (t:Tr) (a:Int) (A:Option Addr) (n c:Nat) (Az:Option Addr) (nz cz:Nat) (zs:List Zn) (m y z s:Int) (hR:RunAt w r k t a A n c Az nz cz zs) (ht:TrOk t) (y0:0≤y) (y1:y≤30000000000000000) (s0: -1000000000≤s) (s1:s≤3000000000000) :
  Calls Tryz.prog 107 #[.pointer (some ⟨r,0,none⟩),.agg #[O U m,O U y,O U z],O U s] w fun e w'=>e= .returned (.bool (decide (m=0) && decide (s - 1000≤y / (10 * t.mass))))∧Below w.heap.size w w':=by
 have hb1:=(Below.refl w.heap.size w).alloc (Nat.le_refl _) (.cells #[O U m,O U y,O U z] 102)
 have q1:=Rw.new w #[O U m,O U y,O U z] 102
 have hR1:=hR.below hb1
 obtain⟨W1,hW1⟩:∃x,w.alloc (.cells #[O U m,O U y,O U z] 102)=x:=⟨_,rfl⟩
 rw [hW1] at hb1 q1 hR1
 have HB1:=Z hb1
 have HSK:=Z (show ∀wx,Below W1.heap.size W1 wx→Rw wx w.heap.size 102 #[O U m,O U y,O U z] from fun wx h=>q1.below h q1.lt)
 have hpl:∀wx,Below W1.heap.size W1 wx→Calls Tryz.prog 79 #[.pointer (some ⟨r,0,none⟩),.agg #[O U m,O U y,O U z]] wx fun e w'=>e= .returned (O U (y / (10 * t.mass)))∧Below wx.heap.size wx w':=fun wx h=>place_any wx r k t a A n c Az nz cz zs m y z (hR1.below h) ht y0 y1
 obtain⟨P,hP⟩:∃P,y / (10 * t.mass)=P:=⟨_,rfl⟩
 rw [hP] at hpl
 have HPL:=Z hpl
 rw [hP]
 obtain⟨b,hb⟩:∃b,decide (s - 1000≤P)=b:=⟨_,rfl⟩
 have f0:=q1.cell 0;have f1:=q1.cell 1;have f2:=q1.cell 2
 have hw:IntKind.i64.wrap (s - 1000)=s - 1000:=by rw [IntKind.wrap_i64];omega
 clear hb1 q1 hR1 hR hpl hP
 by_cases hm:m=0
 ·have HE:=Z (show (decide (m=0) && decide (s - 1000≤P))=b from by rw [hb,decide_eq_true hm,Bool.true_and])
  have hmb:(m == 0)=true:=by rw [beq_iff_eq];exact hm
  clear hm
  go_enter Tryz.func107,Tryz.ntmps107
  go_wp2_with fail
  (with_reducible refine (HPL.out _ (Below.refl _ _)).mono ?_)
  rintro e w2 ⟨rfl,hbn⟩
  have HB2:=Z (HB1.out.trans (hbn.mono HB1.out.size))
  clear hbn
  cases b with
  | true=>
   have hb':s - 1000≤P:=by simpa using hb
   go_wp2
   go_ret
   exact⟨by rw [HE.out];first|done|rfl|simp|(simp;omega),HB2.out⟩
  | false=>
   have hb':¬s - 1000≤P:=by simpa using hb
   go_wp2
   go_ret
   exact⟨by rw [HE.out];first|done|rfl|simp|(simp;omega),HB2.out⟩
 ·have HE:=Z (show (decide (m=0) && decide (s - 1000≤P))=false from by rw [decide_eq_false hm,Bool.false_and])
  have hmb:(m == 0)=false:=by rw [beq_eq_false_iff_ne];exact hm
  clear hm hb
  go_enter Tryz.func107,Tryz.ntmps107
  go_wp2
  go_ret
  exact⟨by rw [HE.out];first|done|rfl|simp,HB1.out⟩
open Go.RowKit
def ascN (l:List Int):Nat→Bool
 | 0=>true
 | i+1=>ascN l i && (i == 0 || decide (l.getD (i - 1) 0<l.getD i 0))
def stopsB (l:List Int) (len most:Int):Bool:=inB (l.length:Int) 2 100 && (ascN l l.length && (decide (len≤l.getD 0 0) && decide (l.getD (l.length - 1) 0≤most)))
theorem ascN_bad {l:List Int} {i:Nat} (hi:0<i) (h:¬l.getD (i - 1) 0<l.getD i 0):∀j,i<j→ascN l j=false:=by
 intro j
 induction j with
 | zero=>intro h;omega
 | succ j ih=>
  intro hj
  rw [ascN]
  by_cases e:i=j
  ·subst e
   rw [decide_eq_false h]
   have:(i == 0)=false:=by rw [beq_eq_false_iff_ne];omega
   rw [this];simp
  ·rw [ih (by omega),Bool.false_and]
set_option maxRecDepth 100000 in
set_option maxHeartbeats 4000000 in
theorem stopsRight_any (A:Option Addr) (c n:Nat) (t:Tr) (As:Option Addr) (ns cs:Nat) (l:List Int) (most:Int) (w:World) (hl:l.length=ns) (hn:ns≤1000000000) (hS:Sl w w.heap.size 1 CI As l) :
  Calls Tryz.prog 56 #[.slice As ns cs,.agg #[O U t.mass,O U t.len,O U t.speed,O U t.effort,O U t.brake,O U t.power,O U t.resist,O U t.rise,O U t.back,.slice A n c],O U most] w fun e w'=>e= .returned (.bool (stopsB l t.len most))∧Below w.heap.size w w':=by
 have hb1:=(Below.refl w.heap.size w).alloc (Nat.le_refl _) (.cells #[O U t.mass,O U t.len,O U t.speed,O U t.effort,O U t.brake,O U t.power,O U t.resist,O U t.rise,O U t.back,.slice A n c] 24)
 have q1:=Rw.new w #[O U t.mass,O U t.len,O U t.speed,O U t.effort,O U t.brake,O U t.power,O U t.resist,O U t.rise,O U t.back,.slice A n c] 24
 have hS1:=hS.below hb1
 obtain⟨W1,hW1⟩:∃z,w.alloc (.cells #[O U t.mass,O U t.len,O U t.speed,O U t.effort,O U t.brake,O U t.power,O U t.resist,O U t.rise,O U t.back,.slice A n c] 24)=z:=⟨_,rfl⟩
 rw [hW1] at hb1 q1 hS1
 have HB1:=Z hb1;have HSl:=Z (hS1.more (fun _ _ h=>h) hb1.size);have HL:=Z hl
 have e1:=q1.cell 1
 have HQ:=Z q1
 have HD:stopsB l t.len most=(inB (ns:Int) 2 100 && (ascN l ns && (decide (t.len≤l.getD 0 0) && decide (l.getD (ns - 1) 0≤most)))):=by unfold stopsB;rw [hl]
 obtain⟨b0,h0⟩:∃b,inB (ns:Int) 2 100=b:=⟨_,rfl⟩
 have HW:=Z (show Calls Tryz.prog 54 #[O U (ns:Int),O U 2,O U 100] W1 fun e w'=>e= .returned (.bool b0)∧W1=w' from by have:=within_any (ns:Int) 2 100 W1;rwa [h0] at this)
 have HN0:=Z (show b0=true→2≤ns∧ns≤100 from fun hb=>by have:=inB_iff.1 (h0.trans hb);omega)
 rw [h0] at HD
 have HE:=Z HD
 clear HD h0 hb1 q1 hS hS1 hl hn
 go_enter Tryz.func56,Tryz.ntmps56
 go_wp2_with fail
 (with_reducible refine (HW.out).mono ?_)
 rintro e w2 ⟨rfl,rfl⟩
 cases b0 with
 | false=>
  go_wp2
  go_ret
  exact⟨by rw [HE.out];first|done|rfl|simp,HB1.out⟩
 | true=>
  have hnn:2≤ns∧ns≤100:=by have h:=HN0.out;simpa using h
  have HNN:=Z hnn
  clear hnn
  go_wp2
  go_loopw [7] (fun s7 wr=>∃i:Nat,1≤i∧i≤ns∧s7=O U (i:Int)∧ascN l i=true∧Below W1.heap.size W1 wr) (fun s7 _=>ns - (intOf s7).toNat)
  case atStart=>exact⟨1,by omega,by have:=HNN.out;omega,rfl,rfl,Below.refl _ _⟩
  case round=>
   obtain⟨i,hi1,hi,rfl,hasc,hbr⟩:=hrel
   have HA:=Z hasc;have HBR:=Z hbr
   have hSr:=HSl.out.below hbr
   have q2:=HQ.out.below hbr HQ.out.lt
   have e1:=q2.cell 1
   have hll:=HL.out;have hnn:=HNN.out
   clear hasc hbr q2
   by_cases hin:i<ns
   ·have hii:(i:Int)<(ns:Int):=by omega
    have hi0:(0:Int)≤(i:Int):=by omega
    obtain⟨b,o,rfl,hb,c0⟩:=int_at hSr (i:=i) (by omega)
    obtain⟨b',o',he,hb',c1⟩:=int_at hSr (i:=i - 1) (by omega)
    cases he
    have hcast:(i:Int) - 1=((i - 1:Nat):Int):=by omega
    have g0:l[i]=l.getD i 0:=by rw [List.getD_eq_getElem?_getD,List.getElem?_eq_getElem (by omega)];rfl
    have g1:l[i - 1]=l.getD (i - 1) 0:=by rw [List.getD_eq_getElem?_getD,List.getElem?_eq_getElem (by omega)];rfl
    rw [g0] at c0
    rw [g1] at c1
    have HAN:=Z (show ∀(h:l.getD (i - 1) 0<l.getD i 0),ascN l (i+1)=true from fun h=>by rw [ascN,HA.out,decide_eq_true h,Bool.true_and,Bool.or_true])
    have HAF:=Z (show (¬l.getD (i - 1) 0<l.getD i 0)→ascN l ns=false from fun h=>ascN_bad (by omega) h ns hin)
    generalize l.getD i 0=x at *
    generalize l.getD (i - 1) 0=y at *
    have hw:IntKind.i64.wrap ((i:Int) - 1)=((i - 1:Nat):Int):=by rw [IntKind.wrap_i64];omega
    have hjj:((i - 1:Nat):Int)<(ns:Int):=by omega
    have hj0:(0:Int)≤((i - 1:Nat):Int):=by omega
    have HI:=Z (And.intro hin hi1)
    have hi100:(i:Int)≤100:=by omega
    obtain⟨j,hj⟩:∃j,i - 1=j:=⟨_,rfl⟩
    rw [hj] at c1 hw hjj hj0
    clear g0 g1 hcast hi hi1 hin hll hnn hj
    by_cases hxy:x≤y
    ·have hz:=HAF.out (by omega)
     have HG:=Z hz
     clear hz
     go_upto_region 6 with (fail)
     go_quiet (fail)
     go_wp2
     go_ret
     exact⟨by rw [HE.out,HG.out];first|done|rfl|simp,bDrewN (HB1.out.trans (HBR.out.mono HB1.out.size)) _⟩
    ·go_upto_region 6 with (fail)
     go_quiet (fail)
     go_wp2
     go_roundw
     case rel=>exact⟨i+1,by omega,by have:=HI.out.1;omega,by simp,HAN.out (by omega),bDrewN HBR.out _⟩
     case measure=>have:=HI.out.1;simp [intOf] <;> omega
   ·have hii:¬(i:Int)<(ns:Int):=by omega
    have hie:i=ns:=by omega
    subst hie
    obtain⟨b,o,rfl,hb,c0⟩:=int_at hSr (i:=0) (by omega)
    obtain⟨b',o',he,hb',c1⟩:=int_at hSr (i:=i - 1) (by omega)
    cases he
    rw [Nat.add_zero] at c0
    have g0:l[0]=l.getD 0 0:=by rw [List.getD_eq_getElem?_getD,List.getElem?_eq_getElem (by omega)];rfl
    have g1:l[i - 1]=l.getD (i - 1) 0:=by rw [List.getD_eq_getElem?_getD,List.getElem?_eq_getElem (by omega)];rfl
    rw [g0] at c0
    rw [g1] at c1
    have HG:=Z (show stopsB l t.len most=(decide (t.len≤l.getD 0 0) && decide (l.getD (i - 1) 0≤most)) from by rw [HE.out,HA.out,Bool.true_and,Bool.true_and])
    generalize l.getD 0 0=x at *
    generalize l.getD (i - 1) 0=y at *
    have hw:IntKind.i64.wrap ((i:Int) - 1)=((i - 1:Nat):Int):=by rw [IntKind.wrap_i64];omega
    have hjj:((i - 1:Nat):Int)<(i:Int):=by omega
    have hj0:(0:Int)≤((i - 1:Nat):Int):=by omega
    have h00:(0:Int)<(i:Int):=by omega
    obtain⟨j,hj⟩:∃j,i - 1=j:=⟨_,rfl⟩
    rw [hj] at c1 hw hjj hj0
    clear g0 g1 hi hi1 hin hll hnn hj
    by_cases hxy:t.len≤x
    ·go_upto_region 8 with (fail)
     go_quiet (fail)
     go_wp2
     go_ret
     exact⟨by rw [HG.out];first|done|rfl|(simp [hxy];done)|(simp;omega),bDrewN (HB1.out.trans (HBR.out.mono HB1.out.size)) _⟩
    ·go_upto_region 8 with (fail)
     go_quiet (fail)
     go_wp2
     go_ret
     exact⟨by rw [HG.out];first|done|rfl|(simp [hxy];done)|(simp;omega),bDrewN (HB1.out.trans (HBR.out.mono HB1.out.size)) _⟩
open Go.RowKit
end Go.Proofs.YtfhkbbjddjddmaaGreat
