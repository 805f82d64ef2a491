/- Contract: leg. -/
import Derived.Test.YtfhkbbjddjddmaaGreatMg
set_option linter.unusedVariables false
set_option linter.unusedSimpArgs false
open Go.Value renaming int→O
open Go.IntKind renaming i64→U
open Go.Lib renaming hid→Z
namespace Go.Proofs.YtfhkbbjddjddmaaGreat
open Go.RowKit Go.Shelf Go.Lib Go.BigFrame
theorem maxIf (a b:Int):(if a<b then b else a)=max a b:=by split <;> omega
structure LegP where
 millis:Int
 at_:Int
 lg:Lg
 took:Int
 gave:Int
def Leg0:LegP:=⟨0,0,Lg0,0,0⟩
def fLeg (l:LegP):Array Value:=#[O U l.millis,O U l.at_,O U l.lg.pull,O U l.lg.brake,O U l.lg.drag,O U l.lg.hill,O U l.lg.round,O U l.lg.hold,O U l.took,O U l.gave]
def arrB (t:Tr) (s:Int) (x:Pt):Bool:=decide (x.m=0) && decide (s - 1000≤x.y / (10 * t.mass))
def legNext (t:Tr) (a:Int) (zs:List Zn) (x:Pt) (n:Nat) (l:LegP):LegP:=
 ⟨l.millis+100,l.at_,addsL [l.lg,ledgerZ (chF t a zs x n) x.m (chQ t a zs x n)] Lg0,max l.took (tookZ t (chF t a zs x n) (chQ t a zs x n)),max l.gave (gaveZ t (chF t a zs x n) (chQ t a zs x n))⟩
def legGo (t:Tr) (a:Int) (zs:List Zn) (s:Int):Nat→LegP→Pt→Option (LegP × Pt)
 | 0,l,x=>if arrB t s x=true then some ({l with at_:=x.y / (10 * t.mass)},x) else none
 | f+1,l,x=>if arrB t s x=true then some ({l with at_:=x.y / (10 * t.mass)},x) else
  match chZ t a zs s x 9 (-1) with
  | none=>none
  | some n=>if (x.m=0∧chQ t a zs x n=0)∨10000000000000000<x.y+chQ t a zs x n then none else legGo t a zs s f (legNext t a zs x n l) (movP t zs x (chQ t a zs x n))
theorem legGo_arr {t:Tr} {a:Int} {zs:List Zn} {s:Int} {f:Nat} {l:LegP} {x:Pt} (h:arrB t s x=true):legGo t a zs s f l x=some ({l with at_:=x.y / (10 * t.mass)},x):=by
 cases f <;> (rw [legGo,if_pos h])
theorem legGo_none {t:Tr} {a:Int} {zs:List Zn} {s:Int} {f:Nat} {l:LegP} {x:Pt} (h:arrB t s x=false) (hc:chZ t a zs s x 9 (-1)=none):legGo t a zs s f l x=none:=by
 cases f with
 | zero=>rw [legGo,if_neg (by rw [h];simp)]
 | succ f=>rw [legGo,if_neg (by rw [h];simp),hc]
theorem legGo_late {t:Tr} {a:Int} {zs:List Zn} {s:Int} {l:LegP} {x:Pt} (h:arrB t s x=false):legGo t a zs s 0 l x=none:=by rw [legGo,if_neg (by rw [h];simp)]
theorem legGo_stop {t:Tr} {a:Int} {zs:List Zn} {s:Int} {f n:Nat} {l:LegP} {x:Pt} (h:arrB t s x=false) (hc:chZ t a zs s x 9 (-1)=some n) (hb:(x.m=0∧chQ t a zs x n=0)∨10000000000000000<x.y+chQ t a zs x n):legGo t a zs s f l x=none:=by
 cases f with
 | zero=>exact legGo_late h
 | succ f=>rw [legGo,if_neg (by rw [h];simp),hc];simp only;rw [if_pos hb]
theorem legGo_more {t:Tr} {a:Int} {zs:List Zn} {s:Int} {f n:Nat} {l:LegP} {x:Pt} (h:arrB t s x=false) (hc:chZ t a zs s x 9 (-1)=some n) (hb:¬((x.m=0∧chQ t a zs x n=0)∨10000000000000000<x.y+chQ t a zs x n)) :
  legGo t a zs s (f+1) l x=legGo t a zs s f (legNext t a zs x n l) (movP t zs x (chQ t a zs x n)):=by
 rw [legGo,if_neg (by rw [h];simp),hc];simp only;rw [if_neg hb]
theorem chZ_ok {t:Tr} {a:Int} {zs:List Zn} {s:Int} {x:Pt}:∀{n:Nat} {tr:Int} {k:Nat},chZ t a zs s x n tr=some k→k<n∧chQ t a zs x k≤25000 * t.mass∧chS t a zs s x k=true:=by
 intro n
 induction n with
 | zero=>intro tr k h;simp [chZ] at h
 | succ n ih=>
  intro tr k h
  by_cases h1:chQ t a zs x n=tr∨¬chQ t a zs x n≤25000 * t.mass
  ·rw [chZ_skip h1] at h
   have:=ih h
   exact⟨by omega,this.2⟩
  ·by_cases h2:chS t a zs s x n=true
   ·rw [chZ_yes h1 h2] at h
    obtain rfl:=Option.some.inj h
    exact⟨by omega,by omega,h2⟩
   ·rw [chZ_no h1 (by simpa using h2)] at h
    have:=ih h
    exact⟨by omega,this.2⟩
def legO1:Option (LegP × Pt)→Array Value
 | some p=>fLeg p.1
 | none=>#[O U 0,O U 0,O U 0,O U 0,O U 0,O U 0,O U 0,O U 0,O U 0,O U 0]
def legO2:Option (LegP × Pt)→Array Value
 | some p=>(fPt p.2).toArray
 | none=>#[O U 0,O U 0,O U 0]
theorem sl_two (w:World) (a b:Lg):Sl (w.alloc (.cells #[O U a.pull,O U a.brake,O U a.drag,O U a.hill,O U a.round,O U a.hold,O U b.pull,O U b.brake,O U b.drag,O U b.hill,O U b.round,O U b.hold] 37)) (w.alloc (.cells #[O U a.pull,O U a.brake,O U a.drag,O U a.hill,O U a.round,O U a.hold,O U b.pull,O U b.brake,O U b.drag,O U b.hill,O U b.round,O U b.hold] 37)).heap.size 6 CLg (some ⟨w.heap.size,0,none⟩) [a,b]:=by
 have h:=Rw.new w #[O U a.pull,O U a.brake,O U a.drag,O U a.hill,O U a.round,O U a.hold,O U b.pull,O U b.brake,O U b.drag,O U b.hill,O U b.round,O U b.hold] 37
 intro _
 refine⟨w.heap.size,0,rfl,h.lt,fun j x hj=> ?_⟩
 match j,hj with
 | 0,hj=>
  cases hj
  refine⟨_,rfl,fun e u hu=> ?_⟩
  have hc:=h.cell e
  match e,hu with
  | 0,hu=>cases hu;exact hc
  | 1,hu=>cases hu;exact hc
  | 2,hu=>cases hu;exact hc
  | 3,hu=>cases hu;exact hc
  | 4,hu=>cases hu;exact hc
  | 5,hu=>cases hu;exact hc
 | 1,hj=>
  cases hj
  refine⟨_,rfl,fun e u hu=> ?_⟩
  have hc:=h.cell (6+e)
  match e,hu with
  | 0,hu=>cases hu;exact hc
  | 1,hu=>cases hu;exact hc
  | 2,hu=>cases hu;exact hc
  | 3,hu=>cases hu;exact hc
  | 4,hu=>cases hu;exact hc
  | 5,hu=>cases hu;exact hc
def chain13 (w6:World) (B:Nat):World:=(((((((((((((w6.setCell ⟨B+1,0,none⟩ (O U 0)).setCell ⟨B+1,1,none⟩ (O U 0)).setCell ⟨B+1,2,none⟩ (O U 0)).setCell ⟨B+1,3,none⟩ (O U 0)).setCell ⟨B+1,4,none⟩ (O U 0)).setCell ⟨B+1,5,none⟩ (O U 0)).setCell ⟨B+1,6,none⟩ (O U 0)).setCell ⟨B+1,7,none⟩ (O U 0)).setCell ⟨B+1,8,none⟩ (O U 0)).setCell ⟨B+1,9,none⟩ (O U 0)).setCell ⟨B+1+1,0,none⟩ (O U 0)).setCell ⟨B+1+1,1,none⟩ (O U 0)).setCell ⟨B+1+1,2,none⟩ (O U 0))
theorem zeros13 {w6:World} {B:Nat} (q2:Rw w6 (B+1) 72 #[O U 0,O U 0,O U 0,O U 0,O U 0,O U 0,O U 0,O U 0,O U 0,O U 0]) (q3:Rw w6 (B+2) 102 #[O U 0,O U 0,O U 0]):Rw (chain13 w6 B) (B+1) 72 #[O U 0,O U 0,O U 0,O U 0,O U 0,O U 0,O U 0,O U 0,O U 0,O U 0]∧Rw (chain13 w6 B) (B+2) 102 #[O U 0,O U 0,O U 0]∧Below B w6 (chain13 w6 B):=by
 refine⟨?_, ?_, ?_⟩
 ·exact (((((((((((((q2.set 0 _).set 1 _).set 2 _).set 3 _).set 4 _).set 5 _).set 6 _).set 7 _).set 8 _).set 9 _).far (k:=B+1+1) 0 _ (by omega)).far (k:=B+1+1) 1 _ (by omega)).far (k:=B+1+1) 2 _ (by omega))
 ·exact (((((((((((((q3.far (k:=B+1) 0 _ (by omega)).far (k:=B+1) 1 _ (by omega)).far (k:=B+1) 2 _ (by omega)).far (k:=B+1) 3 _ (by omega)).far (k:=B+1) 4 _ (by omega)).far (k:=B+1) 5 _ (by omega)).far (k:=B+1) 6 _ (by omega)).far (k:=B+1) 7 _ (by omega)).far (k:=B+1) 8 _ (by omega)).far (k:=B+1) 9 _ (by omega)).set 0 _).set 1 _).set 2 _)
 ·exact ((((((((((((((Below.refl B w6).setCell (by simp <;> omega) _).setCell (by simp <;> omega) _).setCell (by simp <;> omega) _).setCell (by simp <;> omega) _).setCell (by simp <;> omega) _).setCell (by simp <;> omega) _).setCell (by simp <;> omega) _).setCell (by simp <;> omega) _).setCell (by simp <;> omega) _).setCell (by simp <;> omega) _).setCell (by simp <;> omega) _).setCell (by simp <;> omega) _).setCell (by simp <;> omega) _)
set_option maxRecDepth 100000 in
set_option maxHeartbeats 4000000 in
theorem leg_any (r k:Nat) (t:Tr) (a_:Int) (A:Option Addr) (n c:Nat) (Az:Option Addr) (nz cz:Nat) (zs:List Zn) (x:Pt) (s:Int) (w:World) (hR:RunAt w r k t a_ A n c Az nz cz zs) (hAz:∀ad,Az=some ad→ad.block<w.heap.size) (ht:TrOk t) (ha:0≤a_) (hz:ZsOk zs) (hx:PtOk t zs x) (hy:x.y≤10000000000000000) (s0:0≤s) (s1:s≤3000000000000) :
  Calls Tryz.prog 88 #[.pointer (some ⟨r,0,none⟩),.agg #[O U x.m,O U x.y,O U (x.z:Int)],O U s] w fun e w'=>e= .returned (.tuple #[.agg (legO1 (legGo t a_ zs s 36000 Leg0 x)),.agg (legO2 (legGo t a_ zs s 36000 Leg0 x)),.bool (legGo t a_ zs s 36000 Leg0 x).isSome])∧Below w.heap.size w w':=by
 have hb1:=(((Below.refl w.heap.size w).alloc (Nat.le_refl _) (.cells #[O U x.m,O U x.y,O U (x.z:Int)] 102)).alloc (by simp) (.cells #[O U 0,O U 0,O U 0,O U 0,O U 0,O U 0,O U 0,O U 0,O U 0,O U 0] 72)).alloc (by simp;omega) (.cells #[O U 0,O U 0,O U 0] 102)
 obtain⟨q1,q2,q3⟩:=rows3 w #[O U x.m,O U x.y,O U (x.z:Int)] #[O U 0,O U 0,O U 0,O U 0,O U 0,O U 0,O U 0,O U 0,O U 0,O U 0] #[O U 0,O U 0,O U 0] 102 72 102
 have hR1:=hR.below hb1
 have hz0:(((w.alloc (.cells #[O U x.m,O U x.y,O U (x.z:Int)] 102)).alloc (.cells #[O U 0,O U 0,O U 0,O U 0,O U 0,O U 0,O U 0,O U 0,O U 0,O U 0] 72)).alloc (.cells #[O U 0,O U 0,O U 0] 102)).heap.size=w.heap.size+3:=by simp
 obtain⟨W0,hW0⟩:∃z,((w.alloc (.cells #[O U x.m,O U x.y,O U (x.z:Int)] 102)).alloc (.cells #[O U 0,O U 0,O U 0,O U 0,O U 0,O U 0,O U 0,O U 0,O U 0,O U 0] 72)).alloc (.cells #[O U 0,O U 0,O U 0] 102)=z:=⟨_,rfl⟩
 rw [hW0] at hb1 q1 q2 q3 hR1 hz0
 have hb2:=(Below.refl W0.heap.size W0).alloc (Nat.le_refl _) (.cells #[O U 0,O U 0,O U 0,O U 0,O U 0,O U 0,O U 0,O U 0,O U 0,O U 0] 72)
 have q4:=Rw.new W0 #[O U 0,O U 0,O U 0,O U 0,O U 0,O U 0,O U 0,O U 0,O U 0,O U 0] 72
 have hz1:(W0.alloc (.cells #[O U 0,O U 0,O U 0,O U 0,O U 0,O U 0,O U 0,O U 0,O U 0,O U 0] 72)).heap.size=w.heap.size+4:=by simp [hz0]
 obtain⟨W1,hW1⟩:∃z,W0.alloc (.cells #[O U 0,O U 0,O U 0,O U 0,O U 0,O U 0,O U 0,O U 0,O U 0,O U 0] 72)=z:=⟨_,rfl⟩
 rw [hW1] at hb2 q4 hz1
 obtain⟨B,hB⟩:∃B,w.heap.size=B:=⟨_,rfl⟩
 have hlt:r<B∧k<B:=⟨by rw [←hB];exact hR.r.lt,by rw [←hB];exact hR.e.lt⟩
 rw [hB] at hb1 q1 q2 q3 hz0 hz1 hAz
 rw [hz0] at q4
 have HB1:=Z (hb1.trans (hb2.mono (by omega)))
 have HQ1:=Z (show Rw W1 B 102 #[O U x.m,O U x.y,O U (x.z:Int)]∧Rw W1 (B+1) 72 #[O U 0,O U 0,O U 0,O U 0,O U 0,O U 0,O U 0,O U 0,O U 0,O U 0]∧Rw W1 (B+2) 102 #[O U 0,O U 0,O U 0]∧Rw W1 (B+3) 72 #[O U 0,O U 0,O U 0,O U 0,O U 0,O U 0,O U 0,O U 0,O U 0,O U 0] from⟨q1.below hb2 q1.lt,q2.below hb2 q2.lt,q3.below hb2 q3.lt,q4⟩)
 have HR1:=Z (hR1.below hb2)
 have HZ1:=Z hz1;have HLT:=Z hlt;have HAZ:=Z hAz
 have HBE:=Z hB
 clear hb1 hb2 q1 q2 q3 q4 hz1 hR hR1 hlt hAz
 obtain⟨R,hRes⟩:∃R,legGo t a_ zs s 36000 Leg0 x=R:=⟨_,rfl⟩
 rw [hRes]
 have HRES:=Z hRes
 clear hRes
 go_enter Tryz.func88,Tryz.ntmps88
 go_wp2
 clear hz0 hW0 hW1
 have HRB:=Z (show ∀wx,Below B W1 wx→RunAt wx r k t a_ A n c Az nz cz zs from fun wx h=>by
  have hlt:=HLT.out
  have hz1:=HZ1.out
  exact (BX.of_below h B).run HR1.out ⟨hlt.1,by omega⟩ ⟨hlt.2,by omega⟩ (fun ad e=>by have:=HAZ.out ad e;omega))
 go_loopw [16] (fun s16 wr=>∃(f:Nat) (l:LegP) (y:Pt),f≤36000∧l.millis=100 * (36000 - (f:Int))∧True∧PtOk t zs y∧y.y≤10000000000000000∧legGo t a_ zs s f l y=R∧Rw wr B 102 #[O U y.m,O U y.y,O U (y.z:Int)]∧Rw wr (B+3) 72 #[O U l.millis,O U l.at_,O U l.lg.pull,O U l.lg.brake,O U l.lg.drag,O U l.lg.hill,O U l.lg.round,O U l.lg.hold,O U l.took,O U l.gave]∧Rw wr (B+1) 72 #[O U 0,O U 0,O U 0,O U 0,O U 0,O U 0,O U 0,O U 0,O U 0,O U 0]∧Rw wr (B+2) 102 #[O U 0,O U 0,O U 0]∧Below B W1 wr∧B+4≤wr.heap.size) (fun s16 wr=>3600000 - cellNat wr (B+3) 0)
 case atStart=>exact⟨36000,Leg0,x,Nat.le_refl _,rfl,trivial,hx,hy,HRES.out,HQ1.out.1,HQ1.out.2.2.2,HQ1.out.2.1,HQ1.out.2.2.1,Below.refl _ _,by have:=HZ1.out;omega⟩
 case round=>
  obtain⟨f,l,y,hf,hml,hlo,hyo,hyy,hgo,q1,q4,q2,q3,hb,hsz⟩:=hrel
  have HRO:=Z (show ∀wx,Below wr.heap.size wr wx→Rw wx B 102 #[O U y.m,O U y.y,O U (y.z:Int)]∧Rw wx (B+1) 72 #[O U 0,O U 0,O U 0,O U 0,O U 0,O U 0,O U 0,O U 0,O U 0,O U 0]∧Rw wx (B+2) 102 #[O U 0,O U 0,O U 0]∧Rw wx (B+3) 72 #[O U l.millis,O U l.at_,O U l.lg.pull,O U l.lg.brake,O U l.lg.drag,O U l.lg.hill,O U l.lg.round,O U l.lg.hold,O U l.took,O U l.gave]∧Below B W1 wx∧RunAt wx r k t a_ A n c Az nz cz zs from fun wx h=>
   ⟨q1.below h q1.lt,q2.below h q2.lt,q3.below h q3.lt,q4.below h q4.lt,hb.trans (h.mono (by omega)),HRB.out wx (hb.trans (h.mono (by omega)))⟩)
  have HAR:=Z (show ∀wx,Below wr.heap.size wr wx→Calls Tryz.prog 107 #[.pointer (some ⟨r,0,none⟩),.agg #[O U y.m,O U y.y,O U (y.z:Int)],O U s] wx fun e w'=>e= .returned (.bool (arrB t s y))∧Below wx.heap.size wx w' from fun wx h=>arrived_any wx r k t a_ A n c Az nz cz zs y.m y.y (y.z:Int) s (HRO.out wx h).2.2.2.2.2 ht hyo.y0 (by have:=hyo.y1;omega) (by omega) (by omega))
  have HCN:=Z (show cellNat wr (B+3) 0=l.millis.toNat from by unfold cellNat;rw [q4.cell 0];rfl)
  have HF:=Z (And.intro hf (And.intro hml (And.intro hlo (And.intro hyo (And.intro hyy (And.intro hgo hsz))))))
  have e0:=q1.cell 0;have e1:=q1.cell 1;have e2:=q1.cell 2
  clear hf hml hlo hyo hyy hgo q1 q2 q3 q4 hb hsz
  go_wp2_with fail
  (with_reducible refine (HAR.out _ (Below.refl _ _)).mono ?_)
  rintro e w2 ⟨rfl,hb2⟩
  obtain⟨q1,q2,q3,q4,hb,hRn⟩:=HRO.out _ hb2
  have HB2:=Z hb2
  clear e0 e1 e2 hb2
  cases harr:arrB t s y with
  | true=>
   have hyo:=HF.out.2.2.2.1
   have HR:=Z (show R=some ({l with at_:=y.y / (10 * t.mass)},y) from by rw [←HF.out.2.2.2.2.2.1];exact legGo_arr harr)
   have HPL:=Z (place_any w2 r k t a_ A n c Az nz cz zs y.m y.y (y.z:Int) hRn ht hyo.y0 (by have:=hyo.y1;omega))
   have e0:=q1.cell 0;have e1:=q1.cell 1;have e2:=q1.cell 2
   clear harr q1 q2 q3 q4 hb hRn hyo
   go_wp2_with fail
   (with_reducible refine (HPL.out).mono ?_)
   rintro e w5 ⟨rfl,hb5⟩
   obtain⟨p,hp⟩:∃p,y.y / (10 * t.mass)=p:=⟨_,rfl⟩
   rw [hp] at HR ⊢
   have hb25:=HB2.out.trans (hb5.mono HB2.out.size)
   obtain⟨q1,q2,q3,q4,hb,_⟩:=HRO.out _ hb25
   have c1:=q4.cell 1;have k1:=q4.frozen 1
   have HB5:=Z hb25
   have HQ5:=Z (And.intro q1 (And.intro q2 (And.intro q3 (And.intro q4 hb))))
   clear hb25 hb5 hp q1 q2 q3 q4 hb e0 e1 e2
   go_wp2
   have L5:Rw (w5.setCell ⟨B+3,1,none⟩ (O U p)) (B+3) 72 #[O U l.millis,O U p,O U l.lg.pull,O U l.lg.brake,O U l.lg.drag,O U l.lg.hill,O U l.lg.round,O U l.lg.hold,O U l.took,O U l.gave]:=HQ5.out.2.2.2.1.set 1 (O U p)
   have g1:=HQ5.out.1.far (k:=B+3) 1 (O U p) (by omega)
   have g2:=HQ5.out.2.1.far (k:=B+3) 1 (O U p) (by omega)
   have g3:=HQ5.out.2.2.1.far (k:=B+3) 1 (O U p) (by omega)
   have hbw:Below B W1 (w5.setCell ⟨B+3,1,none⟩ (O U p)):=HQ5.out.2.2.2.2.setCell (by show B≤B+3;omega) _
   obtain⟨w6,hw6⟩:∃z,w5.setCell ⟨B+3,1,none⟩ (O U p)=z:=⟨_,rfl⟩
   rw [hw6] at L5 g1 g2 g3 hbw ⊢
   have HSK:=Z (show ∀wx,Below w6.heap.size w6 wx→Rw wx (B+3) 72 #[O U l.millis,O U p,O U l.lg.pull,O U l.lg.brake,O U l.lg.drag,O U l.lg.hill,O U l.lg.round,O U l.lg.hold,O U l.took,O U l.gave]∧Rw wx B 102 #[O U y.m,O U y.y,O U (y.z:Int)] from fun wx h=>⟨L5.below h L5.lt,g1.below h g1.lt⟩)
   have hbq:Below w6.heap.size w6 w6.drew:=(Below.refl _ _).drew
   have HS:=Z (HSK.out _ hbq)
   have h72:Rw w6.drew (B+1) 72 #[O U 0,O U 0,O U 0,O U 0,O U 0,O U 0,O U 0,O U 0,O U 0,O U 0]:=g2
   have h102:Rw w6.drew (B+2) 102 #[O U 0,O U 0,O U 0]:=g3
   have hbd:Below B W1 w6.drew:=hbw.drew
   clear hw6 c1 k1 g1 g2 g3 L5 hbw
   refine wp_region_held_drew (S:=fun wx=>Rw wx (B+3) 72 #[O U l.millis,O U p,O U l.lg.pull,O U l.lg.brake,O U l.lg.drag,O U l.lg.hill,O U l.lg.round,O U l.lg.hold,O U l.took,O U l.gave]∧Rw wx B 102 #[O U y.m,O U y.y,O U (y.z:Int)]) (by kernel_rfl) HS.out (fun _=> ?_)
   obtain⟨wd,hwd⟩:∃z,w6.drew=z:=⟨_,rfl⟩
   rw [hwd] at h72 h102 hbd HS ⊢
   clear hwd hbq
   refine hTk (i:=0) (d:=92) (v:= .agg #[O U l.millis,O U p,O U l.lg.pull,O U l.lg.brake,O U l.lg.drag,O U l.lg.hill,O U l.lg.round,O U l.lg.hold,O U l.took,O U l.gave]) rfl rfl (Or.inl ⟨rfl,by rintro W' ⟨s0,s1⟩;have y0:=s0.cell 0;have y1:=s0.cell 1;have y2:=s0.cell 2;have y3:=s0.cell 3;have y4:=s0.cell 4;have y5:=s0.cell 5;have y6:=s0.cell 6;have y7:=s0.cell 7;have y8:=s0.cell 8;have y9:=s0.cell 9;have z0:=s1.cell 0;have z1:=s1.cell 1;have z2:=s1.cell 2;go_simp⟩) HS.out ?_
   simp only [Act.put,sB,sZ,sS]
   refine hTk (i:=1) (d:=93) (v:= .agg #[O U y.m,O U y.y,O U (y.z:Int)]) rfl rfl (Or.inl ⟨rfl,by rintro W' ⟨s0,s1⟩;have y0:=s0.cell 0;have y1:=s0.cell 1;have y2:=s0.cell 2;have y3:=s0.cell 3;have y4:=s0.cell 4;have y5:=s0.cell 5;have y6:=s0.cell 6;have y7:=s0.cell 7;have y8:=s0.cell 8;have y9:=s0.cell 9;have z0:=s1.cell 0;have z1:=s1.cell 1;have z2:=s1.cell 2;go_simp⟩) HS.out ?_
   simp only [Act.put,sB,sZ,sS]
   refine wpAnyH_ready (rs:= [2]) (by kernel_rfl) (by simp) ?_
   refine AllReadyH.cons rfl (fun K hK=> ?_) AllReadyH.nil
   rw [if_pos (by rfl)]
   refine wp_store_row 72 _ _ rfl (B+1) rfl #[O U l.millis,O U p,O U l.lg.pull,O U l.lg.brake,O U l.lg.drag,O U l.lg.hill,O U l.lg.round,O U l.lg.hold,O U l.took,O U l.gave] rfl 72 _ h72 (by kernel_rfl) rfl (by simp [Value.oneCell']) ?_
   have r1:=h72.setRow #[O U l.millis,O U p,O U l.lg.pull,O U l.lg.brake,O U l.lg.drag,O U l.lg.hill,O U l.lg.round,O U l.lg.hold,O U l.took,O U l.gave]
   have r2:=h102.setRow_far (k:=B+1) #[O U l.millis,O U p,O U l.lg.pull,O U l.lg.brake,O U l.lg.drag,O U l.lg.hill,O U l.lg.round,O U l.lg.hold,O U l.took,O U l.gave] (by omega)
   have hbe:=below_setRow hbd (show B≤B+1 by omega) #[O U l.millis,O U p,O U l.lg.pull,O U l.lg.brake,O U l.lg.drag,O U l.lg.hill,O U l.lg.round,O U l.lg.hold,O U l.took,O U l.gave]
   have HS:=Z (And.intro (HS.out.1.setRow_far (k:=B+1) #[O U l.millis,O U p,O U l.lg.pull,O U l.lg.brake,O U l.lg.drag,O U l.lg.hill,O U l.lg.round,O U l.lg.hold,O U l.took,O U l.gave] (by omega)) (HS.out.2.setRow_far (k:=B+1) #[O U l.millis,O U p,O U l.lg.pull,O U l.lg.brake,O U l.lg.drag,O U l.lg.hill,O U l.lg.round,O U l.lg.hold,O U l.took,O U l.gave] (by omega)))
   refine hK.out _ _ HS.out (fun _=> ?_)
   clear hK K
   try simp only [Act.put,sB,sZ,sS]
   refine wpAnyH_ready (rs:= [3]) (by kernel_rfl) (by simp) ?_
   refine AllReadyH.cons rfl (fun K hK=> ?_) AllReadyH.nil
   rw [if_pos (by rfl)]
   refine wp_store_row 102 _ _ rfl (B+2) rfl #[O U y.m,O U y.y,O U (y.z:Int)] rfl 102 _ r2 (by kernel_rfl) rfl (by simp [Value.oneCell']) ?_
   have v2:=r2.setRow #[O U y.m,O U y.y,O U (y.z:Int)]
   have v1:=r1.setRow_far (k:=B+2) #[O U y.m,O U y.y,O U (y.z:Int)] (by omega)
   have hbf:=below_setRow hbe (show B≤B+2 by omega) #[O U y.m,O U y.y,O U (y.z:Int)]
   have HS:=Z (And.intro (HS.out.1.setRow_far (k:=B+2) #[O U y.m,O U y.y,O U (y.z:Int)] (by omega)) (HS.out.2.setRow_far (k:=B+2) #[O U y.m,O U y.y,O U (y.z:Int)] (by omega)))
   refine hK.out _ _ HS.out (fun _=> ?_)
   clear hK K
   try simp only [Act.put,sB,sZ,sS]
   refine hTk (i:=4) (d:=8) (v:= .bool true) rfl rfl (Or.inl ⟨rfl,by rintro W' ⟨s0,s1⟩;have y0:=s0.cell 0;have y1:=s0.cell 1;have y2:=s0.cell 2;have y3:=s0.cell 3;have y4:=s0.cell 4;have y5:=s0.cell 5;have y6:=s0.cell 6;have y7:=s0.cell 7;have y8:=s0.cell 8;have y9:=s0.cell 9;have z0:=s1.cell 0;have z1:=s1.cell 1;have z2:=s1.cell 2;go_simp⟩) HS.out ?_
   simp only [Act.put,sB,sZ,sS]
   refine wpAnyH_done (by kernel_rfl) ?_ _
   go_wp2
   (try simp only [Exit.inBlock,Exit.then])
   refine bodyPost_ret (res_cct rfl _ _ _ _ _ _ _ _ _ _ _ rfl rfl rfl v1 v2 Tryz.underlying72 rfl (by kernel_rfl) Tryz.underlying102 rfl (by kernel_rfl)) rfl ⟨by rw [HR.out];rfl, ?_⟩
   exact HB1.out.trans hbf
  | false=>
   have hyo:=HF.out.2.2.2.1
   have HCH:=Z (show ∀wx,Below wr.heap.size wr wx→Calls Tryz.prog 108 #[.pointer (some ⟨r,0,none⟩),.agg #[O U y.m,O U y.y,O U (y.z:Int)],O U s] wx fun e w'=>e= .returned (.tuple #[.agg (chO1 t a_ zs y (chZ t a_ zs s y 9 (-1))),.agg (chO2 t a_ zs y (chZ t a_ zs s y 9 (-1))),.bool (chZ t a_ zs s y 9 (-1)).isSome])∧Below wx.heap.size wx w' from fun wx h=>choose_any r k t a_ A n c Az nz cz zs y s wx (HRO.out wx h).2.2.2.2.2 (fun ad e=>by have:=HAZ.out ad e;have:=HF.out.2.2.2.2.2.2;have:=h.size;omega) ht ha hz HF.out.2.2.2.1 (by have:=HF.out.2.2.2.2.1;omega) s0 s1)
   have HARR:=Z harr
   have e0:=q1.cell 0;have e1:=q1.cell 1;have e2:=q1.cell 2
   clear harr q1 q2 q3 q4 hb hRn
   go_wp2_with fail
   (with_reducible refine (HCH.out _ HB2.out).mono ?_)
   rintro e w5 ⟨rfl,hb5⟩
   have hb25:=HB2.out.trans (hb5.mono HB2.out.size)
   have HB5:=Z hb25
   clear e0 e1 e2 hb5
   cases hch:chZ t a_ zs s y 9 (-1) with
   | none=>
    have HRN:=Z (show R=none from by rw [←HF.out.2.2.2.2.2.1];exact legGo_none HARR.out hch)
    clear hch
    have k2:=rows2 w5 #[O U 0,O U 0,O U 0,O U 0,O U 0,O U 0] #[O U 0,O U 0,O U 0] 87 102
    have hb56:=(((Below.refl w5.heap.size w5).alloc (Nat.le_refl _) (.cells #[O U 0,O U 0,O U 0,O U 0,O U 0,O U 0] 87)).alloc (by simp) (.cells #[O U 0,O U 0,O U 0] 102))
    simp only [chO1,chO2,Option.isSome_none]
    go_upto_region 4 with (fail)
    obtain⟨w6,hw6⟩:∃z,(w5.alloc (.cells #[O U 0,O U 0,O U 0,O U 0,O U 0,O U 0] 87)).alloc (.cells #[O U 0,O U 0,O U 0] 102)=z:=⟨_,rfl⟩
    obtain⟨sb,hsb⟩:∃z,w5.heap.size=z:=⟨_,rfl⟩
    rw [hw6] at k2 hb56 ⊢
    rw [hsb] at k2 ⊢
    have hb26:=hb25.trans (hb56.mono hb25.size)
    obtain⟨q1,q2,q3,q4,hb,hRn⟩:=HRO.out _ hb26
    have e0:=q1.cell 0;have n0:=k2.2.cell 0;have n1:=k2.2.cell 1
    have z0:=q2.cell 0;have y0:=q2.frozen 0;have z1:=q2.cell 1;have y1:=q2.frozen 1;have z2:=q2.cell 2;have y2:=q2.frozen 2;have z3:=q2.cell 3;have y3:=q2.frozen 3;have z4:=q2.cell 4;have y4:=q2.frozen 4;have z5:=q2.cell 5;have y5:=q2.frozen 5;have z6:=q2.cell 6;have y6:=q2.frozen 6;have z7:=q2.cell 7;have y7:=q2.frozen 7;have z8:=q2.cell 8;have y8:=q2.frozen 8;have z9:=q2.cell 9;have y9:=q2.frozen 9;have v0:=q3.cell 0;have u0:=q3.frozen 0;have v1:=q3.cell 1;have u1:=q3.frozen 1;have v2:=q3.cell 2;have u2:=q3.frozen 2
    have HG:=Z (And.intro q1 (And.intro q2 (And.intro q3 (And.intro q4 (And.intro hb hRn)))))
    clear q1 q2 q3 q4 hb hRn hb25 hb26 hb56 k2 hw6 hsb
    by_cases hm:y.m=0
    ·rw [hm] at e0
     clear hm
     go_wp2
     (try simp only [Exit.inBlock,Exit.then])
     exact bodyPost_ret (res_cct rfl _ _ _ _ _ _ _ _ _ _ _ rfl rfl rfl (zeros13 HG.out.2.1 HG.out.2.2.1).1 (zeros13 HG.out.2.1 HG.out.2.2.1).2.1 Tryz.underlying72 rfl (by kernel_rfl) Tryz.underlying102 rfl (by kernel_rfl)) rfl ⟨by rw [HRN.out];rfl,by first|exact (HB1.out.trans HG.out.2.2.2.2.1).trans (zeros13 HG.out.2.1 HG.out.2.2.1).2.2|(rw [HBE.out];exact (HB1.out.trans HG.out.2.2.2.2.1).trans (zeros13 HG.out.2.1 HG.out.2.2.1).2.2)⟩
    ·have hmb:(y.m == 0)=false:=by rw [eq_zero_beq];exact decide_eq_false hm
     clear hm
     go_wp2
     (try simp only [Exit.inBlock,Exit.then])
     exact bodyPost_ret (res_cct rfl _ _ _ _ _ _ _ _ _ _ _ rfl rfl rfl (zeros13 HG.out.2.1 HG.out.2.2.1).1 (zeros13 HG.out.2.1 HG.out.2.2.1).2.1 Tryz.underlying72 rfl (by kernel_rfl) Tryz.underlying102 rfl (by kernel_rfl)) rfl ⟨by rw [HRN.out];rfl,by first|exact (HB1.out.trans HG.out.2.2.2.2.1).trans (zeros13 HG.out.2.1 HG.out.2.2.1).2.2|(rw [HBE.out];exact (HB1.out.trans HG.out.2.2.2.2.1).trans (zeros13 HG.out.2.1 HG.out.2.2.1).2.2)⟩
   | some n'=>
    obtain⟨hn9,hqm,_⟩:=chZ_ok hch
    have hgz:∃g,zs[y.z]? = some g:=⟨_,List.getElem?_eq_getElem hyo.z⟩
    obtain⟨g,hg?⟩:=hgz
    have hgs:=hz.sl g (List.mem_of_getElem? hg?)
    have hzl:zslp zs y.z=g.sl:=by unfold zslp;rw [hg?]
    have hfs:=fs_ok ht (d:=(n':Int) - 4) (sl:=zslp zs y.z) ha hyo.m0 hyo.m1 (by omega) (by omega) (by rw [hzl];exact hgs.1) (by rw [hzl];exact hgs.2)
    have hqb:=next_bd hfs (by have:=hyo.m1;have:=ht.m2;omega)
    have hgoM:=fun (f':Nat) (l':LegP)=>legGo_more (f:=f') (l:=l') HARR.out hch
    have hgoS:=fun (f':Nat) (l':LegP)=>legGo_stop (f:=f') (l:=l') HARR.out hch
    have hmvo:=fun (h0:0≤chQ t a_ zs y n') (h1:y.y+chQ t a_ zs y n'≤20000000000000000)=>movP_ok hyo h0 hqm h1
    have hnx:∀l',legNext t a_ zs y n' l'=⟨l'.millis+100,l'.at_,addsL [l'.lg,ledgerZ (chF t a_ zs y n') y.m (chQ t a_ zs y n')] Lg0,max l'.took (tookZ t (chF t a_ zs y n') (chQ t a_ zs y n')),max l'.gave (gaveZ t (chF t a_ zs y n') (chQ t a_ zs y n'))⟩:=fun _=>rfl
    replace hfs:FsOk (chF t a_ zs y n'):=hfs
    replace hqb:0≤chQ t a_ zs y n'∧chQ t a_ zs y n'≤2080000000:=hqb
    simp only [chO1,chO2,Option.isSome_some]
    obtain⟨q,hq⟩:∃q,chQ t a_ zs y n'=q:=⟨_,rfl⟩
    obtain⟨F,hF⟩:∃F,chF t a_ zs y n'=F:=⟨_,rfl⟩
    rw [hq] at hqm hqb hgoM hgoS hmvo hnx ⊢
    rw [hF] at hfs hnx ⊢
    obtain⟨zv,hzv⟩:∃z,zadv zs (10 * t.mass) (y.y+q) zs.length y.z=z:=⟨_,rfl⟩
    have hmv:movP t zs y q=⟨q,y.y+q,zv⟩:=by unfold movP;rw [hzv]
    rw [hmv] at hgoM hmvo ⊢
    have HGM:=Z hgoM;have HGS:=Z hgoS;have HMV:=Z hmvo;have HNX:=Z hnx;have HQB:=Z (And.intro hqb (And.intro hqm hfs))
    clear hgoM hgoS hmvo hnx hq hF hzv hmv hqm hfs hch hn9 hg? hgs hzl hyo
    simp only [fPt]
    have k2:=rows2 w5 #[O U F.p,O U F.b,O U F.d,O U F.h,O U y.m,O U q] #[O U q,O U (y.y+q),O U (zv:Int)] 87 102
    have hb56:=(((Below.refl w5.heap.size w5).alloc (Nat.le_refl _) (.cells #[O U F.p,O U F.b,O U F.d,O U F.h,O U y.m,O U q] 87)).alloc (by simp) (.cells #[O U q,O U (y.y+q),O U (zv:Int)] 102))
    go_upto_region 4 with (fail)
    have hzz:((w5.alloc (.cells #[O U F.p,O U F.b,O U F.d,O U F.h,O U y.m,O U q] 87)).alloc (.cells #[O U q,O U (y.y+q),O U (zv:Int)] 102)).heap.size=w5.heap.size+2:=by simp
    obtain⟨w6,hw6⟩:∃z,(w5.alloc (.cells #[O U F.p,O U F.b,O U F.d,O U F.h,O U y.m,O U q] 87)).alloc (.cells #[O U q,O U (y.y+q),O U (zv:Int)] 102)=z:=⟨_,rfl⟩
    obtain⟨sb,hsb⟩:∃z,w5.heap.size=z:=⟨_,rfl⟩
    have hsb4:B+4≤sb:=by have:=HF.out.2.2.2.2.2.2;have:=hb25.size;omega
    rw [hw6] at k2 hb56 hzz ⊢
    rw [hsb] at k2 hzz ⊢
    have hb26:=hb25.trans (hb56.mono hb25.size)
    have HK2:=Z (And.intro k2.1 (And.intro k2.2 (And.intro hb26 (And.intro hsb4 hzz))))
    obtain⟨q1,q2,q3,q4,hb,hRn⟩:=HRO.out _ hb26
    have e0:=q1.cell 0;have n0:=k2.2.cell 0;have n1:=k2.2.cell 1;have l0:=q4.cell 0
    have z0:=q2.cell 0;have y0:=q2.frozen 0;have z1:=q2.cell 1;have y1:=q2.frozen 1;have z2:=q2.cell 2;have y2:=q2.frozen 2;have z3:=q2.cell 3;have y3:=q2.frozen 3;have z4:=q2.cell 4;have y4:=q2.frozen 4;have z5:=q2.cell 5;have y5:=q2.frozen 5;have z6:=q2.cell 6;have y6:=q2.frozen 6;have z7:=q2.cell 7;have y7:=q2.frozen 7;have z8:=q2.cell 8;have y8:=q2.frozen 8;have z9:=q2.cell 9;have y9:=q2.frozen 9;have v0:=q3.cell 0;have u0:=q3.frozen 0;have v1:=q3.cell 1;have u1:=q3.frozen 1;have v2:=q3.cell 2;have u2:=q3.frozen 2
    have HG:=Z (And.intro q1 (And.intro q2 (And.intro q3 (And.intro q4 (And.intro hb hRn)))))
    clear q1 q2 q3 q4 hb hRn hb25 hb26 hb56 k2 hw6 hsb hsb4 hzz
    go_cut [13] (fun s13 wx=>s13= .bool (decide (y.m=0∧q=0))∧wx=w6)
    case first=>
     by_cases hm:y.m=0
     ·rw [hm] at e0
      by_cases hq0:q=0
      ·rw [hq0] at n0
       have hd:decide (y.m=0∧q=0)=true:=decide_eq_true ⟨hm,hq0⟩
       have HD:=Z hd
       clear hm hq0 hd
       go_wp2
       go_meet
       exact⟨by rw [HD.out],rfl⟩
      ·have hd:decide (y.m=0∧q=0)=false:=decide_eq_false (fun h=>hq0 h.2)
       have hqb:(q == 0)=false:=by rw [eq_zero_beq];exact decide_eq_false hq0
       have HD:=Z hd
       clear hm hq0 hd
       go_wp2
       go_meet
       exact⟨by rw [HD.out],rfl⟩
     ·have hd:decide (y.m=0∧q=0)=false:=decide_eq_false (fun h=>hm h.1)
      have hmb:(y.m == 0)=false:=by rw [eq_zero_beq];exact decide_eq_false hm
      have HD:=Z hd
      clear hm hd
      go_wp2
      go_meet
      exact⟨by rw [HD.out],rfl⟩
    case rest=>
     obtain⟨rfl,hwc⟩:=hcut
     rw [hwc]
     clear hwc
     by_cases hst:y.m=0∧q=0
     ·have HRN:=Z (show R=none from by rw [←HF.out.2.2.2.2.2.1];exact HGS.out f l (.inl hst))
      have hd:decide (y.m=0∧q=0)=true:=decide_eq_true hst
      rw [hd]
      clear hst hd
      go_wp2
      (try simp only [Exit.inBlock,Exit.then])
      exact bodyPost_ret (res_cct rfl _ _ _ _ _ _ _ _ _ _ _ rfl rfl rfl (zeros13 HG.out.2.1 HG.out.2.2.1).1 (zeros13 HG.out.2.1 HG.out.2.2.1).2.1 Tryz.underlying72 rfl (by kernel_rfl) Tryz.underlying102 rfl (by kernel_rfl)) rfl ⟨by rw [HRN.out];rfl,by first|exact (HB1.out.trans HG.out.2.2.2.2.1).trans (zeros13 HG.out.2.1 HG.out.2.2.1).2.2|(rw [HBE.out];exact (HB1.out.trans HG.out.2.2.2.2.1).trans (zeros13 HG.out.2.1 HG.out.2.2.1).2.2)⟩
     ·have hd:decide (y.m=0∧q=0)=false:=decide_eq_false hst
      rw [hd]
      have HST:=Z hst
      clear hst hd
      by_cases hbig:10000000000000000<y.y+q
      ·have HRN:=Z (show R=none from by rw [←HF.out.2.2.2.2.2.1];exact HGS.out f l (.inr hbig))
       go_wp2
       (try simp only [Exit.inBlock,Exit.then])
       exact bodyPost_ret (res_cct rfl _ _ _ _ _ _ _ _ _ _ _ rfl rfl rfl (zeros13 HG.out.2.1 HG.out.2.2.1).1 (zeros13 HG.out.2.1 HG.out.2.2.1).2.1 Tryz.underlying72 rfl (by kernel_rfl) Tryz.underlying102 rfl (by kernel_rfl)) rfl ⟨by rw [HRN.out];rfl,by first|exact (HB1.out.trans HG.out.2.2.2.2.1).trans (zeros13 HG.out.2.1 HG.out.2.2.1).2.2|(rw [HBE.out];exact (HB1.out.trans HG.out.2.2.2.2.1).trans (zeros13 HG.out.2.1 HG.out.2.2.1).2.2)⟩
      ·have HBG:=Z hbig
       by_cases hf0:f=0
       ·have HRN:=Z (show R=none from by rw [←HF.out.2.2.2.2.2.1,hf0];exact legGo_late HARR.out)
        have hme:l.millis=3600000:=by have:=HF.out.2.1;omega
        rw [hme] at l0
        clear hf0 hme
        go_wp2
        (try simp only [Exit.inBlock,Exit.then])
        exact bodyPost_ret (res_cct rfl _ _ _ _ _ _ _ _ _ _ _ rfl rfl rfl (zeros13 HG.out.2.1 HG.out.2.2.1).1 (zeros13 HG.out.2.1 HG.out.2.2.1).2.1 Tryz.underlying72 rfl (by kernel_rfl) Tryz.underlying102 rfl (by kernel_rfl)) rfl ⟨by rw [HRN.out];rfl,by first|exact (HB1.out.trans HG.out.2.2.2.2.1).trans (zeros13 HG.out.2.1 HG.out.2.2.1).2.2|(rw [HBE.out];exact (HB1.out.trans HG.out.2.2.2.2.1).trans (zeros13 HG.out.2.1 HG.out.2.2.1).2.2)⟩
       ·obtain⟨f',rfl⟩:∃f',f=f'+1:=⟨f - 1,by omega⟩
        have hme:(l.millis == 3600000)=false:=by rw [beq_eq_false_iff_ne];have:=HF.out.2.1;omega
        clear hf0
        have hwm:IntKind.i64.wrap (l.millis+100)=l.millis+100:=by rw [IntKind.wrap_i64];have:=HF.out.1;have:=HF.out.2.1;omega
        obtain⟨L0,hL0⟩:∃L0,ledgerZ F y.m q=L0:=⟨_,rfl⟩
        obtain⟨S0,hS0⟩:∃S0,addsL [l.lg,L0] Lg0=S0:=⟨_,rfl⟩
        obtain⟨tk,htk⟩:∃tk,tookZ t F q=tk:=⟨_,rfl⟩
        obtain⟨gv,hgv⟩:∃gv,gaveZ t F q=gv:=⟨_,rfl⟩
        have HPW:=Z (show ∀wx,Below w6.heap.size w6 wx→Calls Tryz.prog 46 #[.pointer (some ⟨k,0,none⟩),.agg #[O U F.p,O U F.b,O U F.d,O U F.h,O U y.m,O U q]] wx fun e w'=>e= .returned (.tuple #[O U tk,O U gv])∧Below wx.heap.size wx w' from fun wx h=>by
         have:=powers_any A c n k t F a_ y.m q wx (HG.out.2.2.2.2.2.below h).e ht HQB.out.2.2 HQB.out.1.1 (by have:=HQB.out.1.2;omega)
         rwa [htk,hgv] at this)
        have HLG:=Z (show ∀wx,Calls Tryz.prog 44 #[.agg #[O U F.p,O U F.b,O U F.d,O U F.h,O U y.m,O U q]] wx fun e w'=>e= .returned (.agg #[O U L0.pull,O U L0.brake,O U L0.drag,O U L0.hill,O U L0.round,O U L0.hold])∧Below wx.heap.size wx w' from fun wx=>by
         have hyo:=HF.out.2.2.2.1
         have:=ledger_any F y.m q wx HQB.out.2.2 hyo.m0 (by have:=hyo.m1;have:=ht.m2;omega) HQB.out.1.1 (by have:=HQB.out.1.2;omega)
         rwa [hL0] at this)
        have HAD:=Z (show ∀(wx:World) (Ax:Option Addr),Sl wx wx.heap.size 6 CLg Ax [l.lg,L0]→Calls Tryz.prog 109 #[.slice Ax 2 2] wx fun e w'=>e= .returned (.agg #[O U S0.pull,O U S0.brake,O U S0.drag,O U S0.hill,O U S0.round,O U S0.hold])∧Below wx.heap.size wx w' from fun wx Ax h=>by
         have:=add_any Ax 2 2 [l.lg,L0] wx rfl (by omega) h
         rwa [hS0] at this)
        have HNE:=Z (show legNext t a_ zs y n' l=⟨l.millis+100,l.at_,S0,if l.took<tk then tk else l.took,if l.gave<gv then gv else l.gave⟩ from by rw [HNX.out,hL0,hS0,htk,hgv,maxIf,maxIf])
        clear hL0 hS0 htk hgv
        go_wp2
        have HSK:=Z (show ∀wx,Below w6.heap.size w6 wx→Rw wx r 147 #[.pointer (some ⟨k,0,none⟩),O U (10 * t.mass),.slice Az nz cz]∧Rw wx sb 87 #[O U F.p,O U F.b,O U F.d,O U F.h,O U y.m,O U q] from fun wx h=>⟨(HG.out.2.2.2.2.2.below h).r,HK2.out.1.below h HK2.out.1.lt⟩)
        have hbq:Below w6.heap.size w6 w6.drew:=(Below.refl _ _).drew
        have HS:=Z (HSK.out _ hbq)
        clear e0 n0 n1 l0 z0 y0 z1 y1 z2 y2 z3 y3 z4 y4 z5 y5 z6 y6 z7 y7 z8 y8 z9 y9 v0 u0 v1 u1 v2 u2
        refine wp_region_held_drew (S:=fun wx=>Rw wx r 147 #[.pointer (some ⟨k,0,none⟩),O U (10 * t.mass),.slice Az nz cz]∧Rw wx sb 87 #[O U F.p,O U F.b,O U F.d,O U F.h,O U y.m,O U q]) (by kernel_rfl) HS.out (fun _=> ?_)
        refine hTk (i:=0) (d:=58) (v:= .pointer (some ⟨r,0,none⟩)) rfl rfl (Or.inl ⟨rfl,by rintro W' ⟨s0,s1⟩;have y0:=s0.cell 0;have z0:=s1.cell 0;have z1:=s1.cell 1;have z2:=s1.cell 2;have z3:=s1.cell 3;have z4:=s1.cell 4;have z5:=s1.cell 5;go_simp⟩) HS.out ?_
        simp only [Act.put,sB,sZ,sS]
        refine hTk (i:=1) (d:=59) (v:= .pointer (some ⟨r,0,none⟩)) rfl rfl (Or.inl ⟨rfl,by rintro W' ⟨s0,s1⟩;have y0:=s0.cell 0;have z0:=s1.cell 0;have z1:=s1.cell 1;have z2:=s1.cell 2;have z3:=s1.cell 3;have z4:=s1.cell 4;have z5:=s1.cell 5;go_simp⟩) HS.out ?_
        simp only [Act.put,sB,sZ,sS]
        refine hTk (i:=2) (d:=60) (v:= .pointer (some ⟨r,0,none⟩)) rfl rfl (Or.inl ⟨rfl,by rintro W' ⟨s0,s1⟩;have y0:=s0.cell 0;have z0:=s1.cell 0;have z1:=s1.cell 1;have z2:=s1.cell 2;have z3:=s1.cell 3;have z4:=s1.cell 4;have z5:=s1.cell 5;go_simp⟩) HS.out ?_
        simp only [Act.put,sB,sZ,sS]
        refine hTk (i:=3) (d:=61) (v:= .pointer (some ⟨k,0,none⟩)) rfl rfl (Or.inl ⟨rfl,by rintro W' ⟨s0,s1⟩;have y0:=s0.cell 0;have z0:=s1.cell 0;have z1:=s1.cell 1;have z2:=s1.cell 2;have z3:=s1.cell 3;have z4:=s1.cell 4;have z5:=s1.cell 5;go_simp⟩) HS.out ?_
        simp only [Act.put,sB,sZ,sS]
        refine hTk (i:=4) (d:=62) (v:= .agg #[O U F.p,O U F.b,O U F.d,O U F.h,O U y.m,O U q]) rfl rfl (Or.inl ⟨rfl,by rintro W' ⟨s0,s1⟩;have y0:=s0.cell 0;have z0:=s1.cell 0;have z1:=s1.cell 1;have z2:=s1.cell 2;have z3:=s1.cell 3;have z4:=s1.cell 4;have z5:=s1.cell 5;go_simp⟩) HS.out ?_
        simp only [Act.put,sB,sZ,sS]
        refine wpAnyH_ready (rs:= [5]) (by kernel_rfl) (by simp) ?_
        refine AllReadyH.cons rfl (fun K hK=> ?_) AllReadyH.nil
        rw [if_pos (by rfl)]
        go_simp
        go_at_call 46
        (with_reducible refine (HPW.out _ hbq).mono ?_)
        rintro e w7 ⟨rfl,hbn⟩
        replace hbq:=hbq.trans (hbn.mono hbq.size)
        clear hbn
        have HS:=Z (HSK.out _ hbq)
        refine hK.out _ _ HS.out (fun _=> ?_)
        clear hK K
        try simp only [Act.put,sB,sZ,sS]
        refine hTk (i:=6) (d:=57) (v:= .tuple #[O U tk,O U gv]) rfl rfl (Or.inl ⟨rfl,by rintro W' ⟨s0,s1⟩;have y0:=s0.cell 0;have z0:=s1.cell 0;have z1:=s1.cell 1;have z2:=s1.cell 2;have z3:=s1.cell 3;have z4:=s1.cell 4;have z5:=s1.cell 5;go_simp⟩) HS.out ?_
        simp only [Act.put,sB,sZ,sS]
        refine hTk (i:=7) (d:=64) (v:=O U tk) rfl rfl (Or.inl ⟨rfl,by rintro W' ⟨s0,s1⟩;have y0:=s0.cell 0;have z0:=s1.cell 0;have z1:=s1.cell 1;have z2:=s1.cell 2;have z3:=s1.cell 3;have z4:=s1.cell 4;have z5:=s1.cell 5;go_simp⟩) HS.out ?_
        simp only [Act.put,sB,sZ,sS]
        refine hTk (i:=8) (d:=65) (v:=O U gv) rfl rfl (Or.inl ⟨rfl,by rintro W' ⟨s0,s1⟩;have y0:=s0.cell 0;have z0:=s1.cell 0;have z1:=s1.cell 1;have z2:=s1.cell 2;have z3:=s1.cell 3;have z4:=s1.cell 4;have z5:=s1.cell 5;go_simp⟩) HS.out ?_
        simp only [Act.put,sB,sZ,sS]
        refine hTk (i:=9) (d:=14) (v:=O U tk) rfl rfl (Or.inl ⟨rfl,by rintro W' ⟨s0,s1⟩;have y0:=s0.cell 0;have z0:=s1.cell 0;have z1:=s1.cell 1;have z2:=s1.cell 2;have z3:=s1.cell 3;have z4:=s1.cell 4;have z5:=s1.cell 5;go_simp⟩) HS.out ?_
        simp only [Act.put,sB,sZ,sS]
        refine hTk (i:=10) (d:=15) (v:=O U gv) rfl rfl (Or.inl ⟨rfl,by rintro W' ⟨s0,s1⟩;have y0:=s0.cell 0;have z0:=s1.cell 0;have z1:=s1.cell 1;have z2:=s1.cell 2;have z3:=s1.cell 3;have z4:=s1.cell 4;have z5:=s1.cell 5;go_simp⟩) HS.out ?_
        simp only [Act.put,sB,sZ,sS]
        refine wpAnyH_done (by kernel_rfl) ?_ _
        have HBQ:=Z hbq
        have p4:=HG.out.2.2.2.1.below hbq HG.out.2.2.2.1.lt
        have p1:=HG.out.1.below hbq HG.out.1.lt
        have p2:=HG.out.2.1.below hbq HG.out.2.1.lt
        have p3:=HG.out.2.2.1.below hbq HG.out.2.2.1.lt
        have m0:=p4.cell 0;have m1:=p4.frozen 0
        have t2:=HS.out.2;have t3:=HK2.out.2.1.below hbq HK2.out.2.1.lt
        have hb7:=HG.out.2.2.2.2.1.trans (hbq.mono (show B≤w6.heap.size by have:=HK2.out.2.2.2;omega))
        have hsb4:=HK2.out.2.2.2.1
        have r4:=p4.set 0 (O U (l.millis+100))
        have r1:=p1.far (k:=B+3) 0 (O U (l.millis+100)) (by omega)
        have r2:=p2.far (k:=B+3) 0 (O U (l.millis+100)) (by omega)
        have r3:=p3.far (k:=B+3) 0 (O U (l.millis+100)) (by omega)
        have rt2:=t2.far (k:=B+3) 0 (O U (l.millis+100)) (by omega)
        have rt3:=t3.far (k:=B+3) 0 (O U (l.millis+100)) (by omega)
        have hb8:=hb7.setCell (p:=⟨B+3,0,none⟩) (by show B≤B+3;omega) (O U (l.millis+100))
        have hs8:(w7.setCell ⟨B+3,0,none⟩ (O U (l.millis+100))).heap.size=w7.heap.size:=World.size_setCell _ _ _
        have hs7:=hbq.size
        have HH:=Z (And.intro r1 (And.intro r2 (And.intro r3 (And.intro r4 (And.intro rt2 (And.intro rt3 (And.intro hb8 (And.intro hs8 hs7))))))))
        clear hbq HS p1 p2 p3 p4 t2 t3 hb7 r1 r2 r3 r4 rt2 rt3 hb8 hs8 hs7 hsb4
        go_wp2
        obtain⟨r1,r2,r3,r4,rt2,rt3,hb8,hs8,hs7⟩:=HH.out
        obtain⟨w8,hw8⟩:∃z,w7.setCell ⟨B+3,0,none⟩ (O U (l.millis+100))=z:=⟨_,rfl⟩
        rw [hw8] at r1 r2 r3 r4 rt2 rt3 hb8 hs8 ⊢
        have hsz8:sb+2≤w8.heap.size:=by have:=HK2.out.2.2.2.2;omega
        have HSZ8:=Z (And.intro hsz8 HK2.out.2.2.2.1)
        replace r4:Rw w8 (B+3) 72 #[O U (l.millis+100),O U l.at_,O U l.lg.pull,O U l.lg.brake,O U l.lg.drag,O U l.lg.hill,O U l.lg.round,O U l.lg.hold,O U l.took,O U l.gave]:=r4
        have HSK8:=Z (show ∀wx,Below w8.heap.size w8 wx→Rw wx sb 87 #[O U F.p,O U F.b,O U F.d,O U F.h,O U y.m,O U q]∧Rw wx (B+3) 72 #[O U (l.millis+100),O U l.at_,O U l.lg.pull,O U l.lg.brake,O U l.lg.drag,O U l.lg.hill,O U l.lg.round,O U l.lg.hold,O U l.took,O U l.gave] from fun wx h=>⟨rt2.below h rt2.lt,r4.below h r4.lt⟩)
        have HH8:=Z (And.intro r1 (And.intro r2 (And.intro r3 (And.intro rt3 hb8))))
        clear hw8 m0 m1 r1 r2 r3 r4 rt2 rt3 hb8 hs8 hs7 hsz8
        have hbq:Below w8.heap.size w8 w8.drew:=(Below.refl _ _).drew
        have HS:=Z (HSK8.out _ hbq)
        refine wp_region_held_drew (S:=fun wx=>Rw wx sb 87 #[O U F.p,O U F.b,O U F.d,O U F.h,O U y.m,O U q]∧∃v2 v3 v4 v5 v6 v7,Rw wx (B+3) 72 #[O U (l.millis+100),O U l.at_,v2,v3,v4,v5,v6,v7,O U l.took,O U l.gave]) (by kernel_rfl) ⟨HS.out.1,_,_,_,_,_,_,HS.out.2⟩ (fun _=> ?_)
        replace HS:=Z (show Rw w8.drew sb 87 #[O U F.p,O U F.b,O U F.d,O U F.h,O U y.m,O U q]∧∃v2 v3 v4 v5 v6 v7,Rw w8.drew (B+3) 72 #[O U (l.millis+100),O U l.at_,v2,v3,v4,v5,v6,v7,O U l.took,O U l.gave] from⟨HS.out.1,_,_,_,_,_,_,HS.out.2⟩)
        refine hTk (i:=0) (d:=70) (v:= .pointer (some ⟨B+3,2,none⟩)) rfl rfl (Or.inl ⟨rfl,by rintro W' ⟨s0,s1⟩;have z0:=s0.cell 0;have z1:=s0.cell 1;have z2:=s0.cell 2;have z3:=s0.cell 3;have z4:=s0.cell 4;have z5:=s0.cell 5;go_simp⟩) HS.out ?_
        simp only [Act.put,sB,sZ,sS]
        refine hTk (i:=2) (d:=72) (v:= .agg #[O U F.p,O U F.b,O U F.d,O U F.h,O U y.m,O U q]) rfl rfl (Or.inl ⟨rfl,by rintro W' ⟨s0,s1⟩;have z0:=s0.cell 0;have z1:=s0.cell 1;have z2:=s0.cell 2;have z3:=s0.cell 3;have z4:=s0.cell 4;have z5:=s0.cell 5;go_simp⟩) HS.out ?_
        simp only [Act.put,sB,sZ,sS]
        refine wpAnyH_ready (rs:= [1,3]) (by kernel_rfl) (by simp) ?_
        refine AllReadyH.cons rfl (fun K hK=> ?_) (AllReadyH.cons rfl (fun K hK=> ?_) AllReadyH.nil)
        ·rw [if_pos (by rfl)]
         have hx:=(HSK8.out _ hbq).2
         have x2:=hx.cell 2
         have x3:=hx.cell 3
         have x4:=hx.cell 4
         have x5:=hx.cell 5
         have x6:=hx.cell 6
         have x7:=hx.cell 7
         go_simp
         clear hx x2 x3 x4 x5 x6 x7
         refine hK.out _ _ HS.out (fun _=> ?_)
         clear hK K
         try simp only [Act.put,sB,sZ,sS]
         refine wpAnyH_ready (rs:= [3]) (by kernel_rfl) (by simp) ?_
         refine AllReadyH.cons rfl (fun K hK=> ?_) AllReadyH.nil
         rw [if_pos (by rfl)]
         go_simp
         go_at_call 44
         (with_reducible refine (HLG.out _).mono ?_)
         rintro e w9 ⟨rfl,hbn⟩
         replace hbq:=hbq.trans (hbn.mono hbq.size)
         clear hbn
         have HS:=Z (show Rw w9 sb 87 #[O U F.p,O U F.b,O U F.d,O U F.h,O U y.m,O U q]∧∃v2 v3 v4 v5 v6 v7,Rw w9 (B+3) 72 #[O U (l.millis+100),O U l.at_,v2,v3,v4,v5,v6,v7,O U l.took,O U l.gave] from⟨(HSK8.out _ hbq).1,_,_,_,_,_,_,(HSK8.out _ hbq).2⟩)
         refine hK.out _ _ HS.out (fun _=> ?_)
         clear hK K
         try simp only [Act.put,sB,sZ,sS]
         refine wpAnyH_ready (rs:= [4]) (by kernel_rfl) (by simp) ?_
         refine AllReadyH.cons rfl (fun K hK=> ?_) AllReadyH.nil
         rw [if_pos (by rfl)]
         go_simp
         have hsl:=sl_two w9 l.lg L0
         replace hbq:=hbq.alloc hbq.size (.cells #[O U l.lg.pull,O U l.lg.brake,O U l.lg.drag,O U l.lg.hill,O U l.lg.round,O U l.lg.hold,O U L0.pull,O U L0.brake,O U L0.drag,O U L0.hill,O U L0.round,O U L0.hold] 37)
         obtain⟨w10,hw10⟩:∃z,w9.alloc (.cells #[O U l.lg.pull,O U l.lg.brake,O U l.lg.drag,O U l.lg.hill,O U l.lg.round,O U l.lg.hold,O U L0.pull,O U L0.brake,O U L0.drag,O U L0.hill,O U L0.round,O U L0.hold] 37)=z:=⟨_,rfl⟩
         rw [hw10] at hsl hbq ⊢
         clear hw10
         have HS:=Z (show Rw w10 sb 87 #[O U F.p,O U F.b,O U F.d,O U F.h,O U y.m,O U q]∧∃v2 v3 v4 v5 v6 v7,Rw w10 (B+3) 72 #[O U (l.millis+100),O U l.at_,v2,v3,v4,v5,v6,v7,O U l.took,O U l.gave] from⟨(HSK8.out _ hbq).1,_,_,_,_,_,_,(HSK8.out _ hbq).2⟩)
         refine hK.out _ _ HS.out (fun _=> ?_)
         clear hK K
         try simp only [Act.put,sB,sZ,sS]
         refine wpAnyH_ready (rs:= [5]) (by kernel_rfl) (by simp) ?_
         refine AllReadyH.cons rfl (fun K hK=> ?_) AllReadyH.nil
         rw [if_pos (by rfl)]
         go_simp
         go_at_call 109
         (with_reducible refine (HAD.out _ _ hsl).mono ?_)
         rintro e w11 ⟨rfl,hbn⟩
         replace hbq:=hbq.trans (hbn.mono hbq.size)
         clear hbn hsl
         have HS:=Z (show Rw w11 sb 87 #[O U F.p,O U F.b,O U F.d,O U F.h,O U y.m,O U q]∧∃v2 v3 v4 v5 v6 v7,Rw w11 (B+3) 72 #[O U (l.millis+100),O U l.at_,v2,v3,v4,v5,v6,v7,O U l.took,O U l.gave] from⟨(HSK8.out _ hbq).1,_,_,_,_,_,_,(HSK8.out _ hbq).2⟩)
         refine hK.out _ _ HS.out (fun _=> ?_)
         clear hK K
         try simp only [Act.put,sB,sZ,sS]
         refine hTk (i:=6) (d:=76) (v:= .pointer (some ⟨B+3,2,none⟩)) rfl rfl (Or.inl ⟨rfl,by rintro W' ⟨s0,s1⟩;have z0:=s0.cell 0;have z1:=s0.cell 1;have z2:=s0.cell 2;have z3:=s0.cell 3;have z4:=s0.cell 4;have z5:=s0.cell 5;go_simp⟩) HS.out ?_
         simp only [Act.put,sB,sZ,sS]
         refine wpAnyH_ready (rs:= [7]) (by kernel_rfl) (by simp) ?_
         refine AllReadyH.cons rfl (fun K hK=> ?_) AllReadyH.nil
         rw [if_pos (by rfl)]
         have hx:=(HSK8.out _ hbq).2
         have x2:=hx.cell 2;have k2:=hx.frozen 2
         have x3:=hx.cell 3;have k3:=hx.frozen 3
         have x4:=hx.cell 4;have k4:=hx.frozen 4
         have x5:=hx.cell 5;have k5:=hx.frozen 5
         have x6:=hx.cell 6;have k6:=hx.frozen 6
         have x7:=hx.cell 7;have k7:=hx.frozen 7
         go_simp
         have hx2:=((((((hx.set 2 (O U S0.pull)).set 3 (O U S0.brake)).set 4 (O U S0.drag)).set 5 (O U S0.hill)).set 6 (O U S0.round)).set 7 (O U S0.hold))
         have hy2:=(((((((HSK8.out _ hbq).1.far (k:=B+3) 2 (O U S0.pull) (by have:=HSZ8.out;omega)).far (k:=B+3) 3 (O U S0.brake) (by have:=HSZ8.out;omega)).far (k:=B+3) 4 (O U S0.drag) (by have:=HSZ8.out;omega)).far (k:=B+3) 5 (O U S0.hill) (by have:=HSZ8.out;omega)).far (k:=B+3) 6 (O U S0.round) (by have:=HSZ8.out;omega)).far (k:=B+3) 7 (O U S0.hold) (by have:=HSZ8.out;omega))
         have HBW:=Z hbq
         have HS:=Z (show Rw ((((((w11.setCell ⟨B+3,2,none⟩ (O U S0.pull)).setCell ⟨B+3,3,none⟩ (O U S0.brake)).setCell ⟨B+3,4,none⟩ (O U S0.drag)).setCell ⟨B+3,5,none⟩ (O U S0.hill)).setCell ⟨B+3,6,none⟩ (O U S0.round)).setCell ⟨B+3,7,none⟩ (O U S0.hold)) sb 87 #[O U F.p,O U F.b,O U F.d,O U F.h,O U y.m,O U q]∧∃v2 v3 v4 v5 v6 v7,Rw ((((((w11.setCell ⟨B+3,2,none⟩ (O U S0.pull)).setCell ⟨B+3,3,none⟩ (O U S0.brake)).setCell ⟨B+3,4,none⟩ (O U S0.drag)).setCell ⟨B+3,5,none⟩ (O U S0.hill)).setCell ⟨B+3,6,none⟩ (O U S0.round)).setCell ⟨B+3,7,none⟩ (O U S0.hold)) (B+3) 72 #[O U (l.millis+100),O U l.at_,v2,v3,v4,v5,v6,v7,O U l.took,O U l.gave] from⟨hy2,_,_,_,_,_,_,hx2⟩)
         refine hK.out _ _ HS.out (fun _=> ?_)
         clear hK K
         try simp only [Act.put,sB,sZ,sS]
         refine wpAnyH_done (by kernel_rfl) ?_ _
         have hbw:=HBW.out
         have hq:=HSZ8.out
         have g1:=HH8.out.1.below hbw HH8.out.1.lt
         have g2:=HH8.out.2.1.below hbw HH8.out.2.1.lt
         have g3:=HH8.out.2.2.1.below hbw HH8.out.2.2.1.lt
         have g4:=HH8.out.2.2.2.1.below hbw HH8.out.2.2.2.1.lt
         have gb:=HH8.out.2.2.2.2.trans (hbw.mono (show B≤w8.heap.size by omega))
         have r1:Rw ((((((w11.setCell ⟨B+3,2,none⟩ (O U S0.pull)).setCell ⟨B+3,3,none⟩ (O U S0.brake)).setCell ⟨B+3,4,none⟩ (O U S0.drag)).setCell ⟨B+3,5,none⟩ (O U S0.hill)).setCell ⟨B+3,6,none⟩ (O U S0.round)).setCell ⟨B+3,7,none⟩ (O U S0.hold)) B 102 #[O U y.m,O U y.y,O U (y.z:Int)]:=((((((g1.far (k:=B+3) 2 (O U S0.pull) (by omega)).far (k:=B+3) 3 (O U S0.brake) (by omega)).far (k:=B+3) 4 (O U S0.drag) (by omega)).far (k:=B+3) 5 (O U S0.hill) (by omega)).far (k:=B+3) 6 (O U S0.round) (by omega)).far (k:=B+3) 7 (O U S0.hold) (by omega))
         have r2:Rw ((((((w11.setCell ⟨B+3,2,none⟩ (O U S0.pull)).setCell ⟨B+3,3,none⟩ (O U S0.brake)).setCell ⟨B+3,4,none⟩ (O U S0.drag)).setCell ⟨B+3,5,none⟩ (O U S0.hill)).setCell ⟨B+3,6,none⟩ (O U S0.round)).setCell ⟨B+3,7,none⟩ (O U S0.hold)) (B+1) 72 #[O U 0,O U 0,O U 0,O U 0,O U 0,O U 0,O U 0,O U 0,O U 0,O U 0]:=((((((g2.far (k:=B+3) 2 (O U S0.pull) (by omega)).far (k:=B+3) 3 (O U S0.brake) (by omega)).far (k:=B+3) 4 (O U S0.drag) (by omega)).far (k:=B+3) 5 (O U S0.hill) (by omega)).far (k:=B+3) 6 (O U S0.round) (by omega)).far (k:=B+3) 7 (O U S0.hold) (by omega))
         have r3:Rw ((((((w11.setCell ⟨B+3,2,none⟩ (O U S0.pull)).setCell ⟨B+3,3,none⟩ (O U S0.brake)).setCell ⟨B+3,4,none⟩ (O U S0.drag)).setCell ⟨B+3,5,none⟩ (O U S0.hill)).setCell ⟨B+3,6,none⟩ (O U S0.round)).setCell ⟨B+3,7,none⟩ (O U S0.hold)) (B+2) 102 #[O U 0,O U 0,O U 0]:=((((((g3.far (k:=B+3) 2 (O U S0.pull) (by omega)).far (k:=B+3) 3 (O U S0.brake) (by omega)).far (k:=B+3) 4 (O U S0.drag) (by omega)).far (k:=B+3) 5 (O U S0.hill) (by omega)).far (k:=B+3) 6 (O U S0.round) (by omega)).far (k:=B+3) 7 (O U S0.hold) (by omega))
         have r5:Rw ((((((w11.setCell ⟨B+3,2,none⟩ (O U S0.pull)).setCell ⟨B+3,3,none⟩ (O U S0.brake)).setCell ⟨B+3,4,none⟩ (O U S0.drag)).setCell ⟨B+3,5,none⟩ (O U S0.hill)).setCell ⟨B+3,6,none⟩ (O U S0.round)).setCell ⟨B+3,7,none⟩ (O U S0.hold)) (sb+1) 102 #[O U q,O U (y.y+q),O U (zv:Int)]:=((((((g4.far (k:=B+3) 2 (O U S0.pull) (by omega)).far (k:=B+3) 3 (O U S0.brake) (by omega)).far (k:=B+3) 4 (O U S0.drag) (by omega)).far (k:=B+3) 5 (O U S0.hill) (by omega)).far (k:=B+3) 6 (O U S0.round) (by omega)).far (k:=B+3) 7 (O U S0.hold) (by omega))
         have rb:Below B W1 ((((((w11.setCell ⟨B+3,2,none⟩ (O U S0.pull)).setCell ⟨B+3,3,none⟩ (O U S0.brake)).setCell ⟨B+3,4,none⟩ (O U S0.drag)).setCell ⟨B+3,5,none⟩ (O U S0.hill)).setCell ⟨B+3,6,none⟩ (O U S0.round)).setCell ⟨B+3,7,none⟩ (O U S0.hold)):=((((((gb.setCell (by simp <;> omega) (O U S0.pull)).setCell (by simp <;> omega) (O U S0.brake)).setCell (by simp <;> omega) (O U S0.drag)).setCell (by simp <;> omega) (O U S0.hill)).setCell (by simp <;> omega) (O U S0.round)).setCell (by simp <;> omega) (O U S0.hold))
         have rz:((((((w11.setCell ⟨B+3,2,none⟩ (O U S0.pull)).setCell ⟨B+3,3,none⟩ (O U S0.brake)).setCell ⟨B+3,4,none⟩ (O U S0.drag)).setCell ⟨B+3,5,none⟩ (O U S0.hill)).setCell ⟨B+3,6,none⟩ (O U S0.round)).setCell ⟨B+3,7,none⟩ (O U S0.hold)).heap.size=w11.heap.size:=by simp [World.size_setCell]
         obtain⟨w12,hw12⟩:∃z,((((((w11.setCell ⟨B+3,2,none⟩ (O U S0.pull)).setCell ⟨B+3,3,none⟩ (O U S0.brake)).setCell ⟨B+3,4,none⟩ (O U S0.drag)).setCell ⟨B+3,5,none⟩ (O U S0.hill)).setCell ⟨B+3,6,none⟩ (O U S0.round)).setCell ⟨B+3,7,none⟩ (O U S0.hold))=z:=⟨_,rfl⟩
         rw [hw12] at hx2 r1 r2 r3 r5 rb rz ⊢
         replace hx2:Rw w12 (B+3) 72 #[O U (l.millis+100),O U l.at_,O U S0.pull,O U S0.brake,O U S0.drag,O U S0.hill,O U S0.round,O U S0.hold,O U l.took,O U l.gave]:=hx2
         have a8:=hx2.cell 8;have a9:=hx2.cell 9;have b8:=hx2.frozen 8;have b9:=hx2.frozen 9
         have n0:=r5.cell 0;have n1:=r5.cell 1;have n2:=r5.cell 2
         have c0:=r1.cell 0;have c1:=r1.cell 1;have c2:=r1.cell 2;have d0:=r1.frozen 0;have d1:=r1.frozen 1;have d2:=r1.frozen 2
         have HHF:=Z (And.intro hx2 (And.intro r1 (And.intro r2 (And.intro r3 (And.intro rb (And.intro rz hbw.size))))))
         clear hbw hq g1 g2 g3 g4 gb r1 r2 r3 r5 rb rz hx2 hw12 hy2 hbq HS hx x2 k2 x3 k3 x4 k4 x5 k5 x6 k6 x7 k7
         go_wp2
         obtain⟨hx2,r1,r2,r3,rb,rz,hbs⟩:=HHF.out
         have hq:=HSZ8.out
         have hyo:=HF.out.2.2.2.1
         refine⟨⟨f',legNext t a_ zs y n' l,⟨q,y.y+q,zv⟩,by have:=HF.out.1;omega, ?_,trivial,HMV.out HQB.out.1.1 (by have:=HF.out.2.2.2.2.1;have:=HQB.out.1.2;omega), ?_, ?_, ?_, ?_, ?_, ?_, ?_, ?_⟩, ?_⟩
         ·rw [HNE.out];show l.millis+100=_;have:=HF.out.2.1;push_cast at this;omega
         ·show y.y+q≤_;have:=HBG.out;omega
         ·rw [←HGM.out f' l (fun h=>h.elim HST.out (fun h=>by have:=HBG.out;omega))];exact HF.out.2.2.2.2.2.1
         ·exact (((((r1.far (k:=B+3) 8 _ (by omega)).far (k:=B+3) 9 _ (by omega)).set 0 (O U q)).set 1 (O U (y.y+q))).set 2 (O U (zv:Int)))
         ·rw [HNE.out]
          exact (((((hx2.set 8 (O U (if l.took<tk then tk else l.took))).set 9 (O U (if l.gave<gv then gv else l.gave))).far (k:=B) 0 _ (by omega)).far (k:=B) 1 _ (by omega)).far (k:=B) 2 _ (by omega))
         ·exact (((((r2.far (k:=B+3) 8 _ (by omega)).far (k:=B+3) 9 _ (by omega)).far (k:=B) 0 _ (by omega)).far (k:=B) 1 _ (by omega)).far (k:=B) 2 _ (by omega))
         ·exact (((((r3.far (k:=B+3) 8 _ (by omega)).far (k:=B+3) 9 _ (by omega)).far (k:=B) 0 _ (by omega)).far (k:=B) 1 _ (by omega)).far (k:=B) 2 _ (by omega))
         ·exact (((((rb.setCell (by simp <;> omega) _).setCell (by simp <;> omega) _).setCell (by simp <;> omega) _).setCell (by simp <;> omega) _).setCell (by simp <;> omega) _)
         ·simp only [World.size_setCell];omega
         ·have h0:=(((((hx2.set 8 (O U (if l.took<tk then tk else l.took))).set 9 (O U (if l.gave<gv then gv else l.gave))).far (k:=B) 0 (O U q) (by omega)).far (k:=B) 1 (O U (y.y+q)) (by omega)).far (k:=B) 2 (O U (zv:Int)) (by omega)).cell 0
          rw [HCN.out]
          unfold cellNat
          rw [h0]
          show 3600000 - (l.millis+100).toNat<3600000 - l.millis.toNat
          have:=HF.out.2.1
          have:=HF.out.1
          omega
        ·rw [if_pos (by rfl)]
         go_simp
         go_at_call 44
         (with_reducible refine (HLG.out _).mono ?_)
         rintro e w9 ⟨rfl,hbn⟩
         replace hbq:=hbq.trans (hbn.mono hbq.size)
         clear hbn
         have HS:=Z (show Rw w9 sb 87 #[O U F.p,O U F.b,O U F.d,O U F.h,O U y.m,O U q]∧∃v2 v3 v4 v5 v6 v7,Rw w9 (B+3) 72 #[O U (l.millis+100),O U l.at_,v2,v3,v4,v5,v6,v7,O U l.took,O U l.gave] from⟨(HSK8.out _ hbq).1,_,_,_,_,_,_,(HSK8.out _ hbq).2⟩)
         refine hK.out _ _ HS.out (fun _=> ?_)
         clear hK K
         try simp only [Act.put,sB,sZ,sS]
         refine wpAnyH_ready (rs:= [1]) (by kernel_rfl) (by simp) ?_
         refine AllReadyH.cons rfl (fun K hK=> ?_) AllReadyH.nil
         rw [if_pos (by rfl)]
         have hx:=(HSK8.out _ hbq).2
         have x2:=hx.cell 2
         have x3:=hx.cell 3
         have x4:=hx.cell 4
         have x5:=hx.cell 5
         have x6:=hx.cell 6
         have x7:=hx.cell 7
         go_simp
         clear hx x2 x3 x4 x5 x6 x7
         refine hK.out _ _ HS.out (fun _=> ?_)
         clear hK K
         try simp only [Act.put,sB,sZ,sS]
         refine wpAnyH_ready (rs:= [4]) (by kernel_rfl) (by simp) ?_
         refine AllReadyH.cons rfl (fun K hK=> ?_) AllReadyH.nil
         rw [if_pos (by rfl)]
         go_simp
         have hsl:=sl_two w9 l.lg L0
         replace hbq:=hbq.alloc hbq.size (.cells #[O U l.lg.pull,O U l.lg.brake,O U l.lg.drag,O U l.lg.hill,O U l.lg.round,O U l.lg.hold,O U L0.pull,O U L0.brake,O U L0.drag,O U L0.hill,O U L0.round,O U L0.hold] 37)
         obtain⟨w10,hw10⟩:∃z,w9.alloc (.cells #[O U l.lg.pull,O U l.lg.brake,O U l.lg.drag,O U l.lg.hill,O U l.lg.round,O U l.lg.hold,O U L0.pull,O U L0.brake,O U L0.drag,O U L0.hill,O U L0.round,O U L0.hold] 37)=z:=⟨_,rfl⟩
         rw [hw10] at hsl hbq ⊢
         clear hw10
         have HS:=Z (show Rw w10 sb 87 #[O U F.p,O U F.b,O U F.d,O U F.h,O U y.m,O U q]∧∃v2 v3 v4 v5 v6 v7,Rw w10 (B+3) 72 #[O U (l.millis+100),O U l.at_,v2,v3,v4,v5,v6,v7,O U l.took,O U l.gave] from⟨(HSK8.out _ hbq).1,_,_,_,_,_,_,(HSK8.out _ hbq).2⟩)
         refine hK.out _ _ HS.out (fun _=> ?_)
         clear hK K
         try simp only [Act.put,sB,sZ,sS]
         refine wpAnyH_ready (rs:= [5]) (by kernel_rfl) (by simp) ?_
         refine AllReadyH.cons rfl (fun K hK=> ?_) AllReadyH.nil
         rw [if_pos (by rfl)]
         go_simp
         go_at_call 109
         (with_reducible refine (HAD.out _ _ hsl).mono ?_)
         rintro e w11 ⟨rfl,hbn⟩
         replace hbq:=hbq.trans (hbn.mono hbq.size)
         clear hbn hsl
         have HS:=Z (show Rw w11 sb 87 #[O U F.p,O U F.b,O U F.d,O U F.h,O U y.m,O U q]∧∃v2 v3 v4 v5 v6 v7,Rw w11 (B+3) 72 #[O U (l.millis+100),O U l.at_,v2,v3,v4,v5,v6,v7,O U l.took,O U l.gave] from⟨(HSK8.out _ hbq).1,_,_,_,_,_,_,(HSK8.out _ hbq).2⟩)
         refine hK.out _ _ HS.out (fun _=> ?_)
         clear hK K
         try simp only [Act.put,sB,sZ,sS]
         refine hTk (i:=6) (d:=76) (v:= .pointer (some ⟨B+3,2,none⟩)) rfl rfl (Or.inl ⟨rfl,by rintro W' ⟨s0,s1⟩;have z0:=s0.cell 0;have z1:=s0.cell 1;have z2:=s0.cell 2;have z3:=s0.cell 3;have z4:=s0.cell 4;have z5:=s0.cell 5;go_simp⟩) HS.out ?_
         simp only [Act.put,sB,sZ,sS]
         refine wpAnyH_ready (rs:= [7]) (by kernel_rfl) (by simp) ?_
         refine AllReadyH.cons rfl (fun K hK=> ?_) AllReadyH.nil
         rw [if_pos (by rfl)]
         have hx:=(HSK8.out _ hbq).2
         have x2:=hx.cell 2;have k2:=hx.frozen 2
         have x3:=hx.cell 3;have k3:=hx.frozen 3
         have x4:=hx.cell 4;have k4:=hx.frozen 4
         have x5:=hx.cell 5;have k5:=hx.frozen 5
         have x6:=hx.cell 6;have k6:=hx.frozen 6
         have x7:=hx.cell 7;have k7:=hx.frozen 7
         go_simp
         have hx2:=((((((hx.set 2 (O U S0.pull)).set 3 (O U S0.brake)).set 4 (O U S0.drag)).set 5 (O U S0.hill)).set 6 (O U S0.round)).set 7 (O U S0.hold))
         have hy2:=(((((((HSK8.out _ hbq).1.far (k:=B+3) 2 (O U S0.pull) (by have:=HSZ8.out;omega)).far (k:=B+3) 3 (O U S0.brake) (by have:=HSZ8.out;omega)).far (k:=B+3) 4 (O U S0.drag) (by have:=HSZ8.out;omega)).far (k:=B+3) 5 (O U S0.hill) (by have:=HSZ8.out;omega)).far (k:=B+3) 6 (O U S0.round) (by have:=HSZ8.out;omega)).far (k:=B+3) 7 (O U S0.hold) (by have:=HSZ8.out;omega))
         have HBW:=Z hbq
         have HS:=Z (show Rw ((((((w11.setCell ⟨B+3,2,none⟩ (O U S0.pull)).setCell ⟨B+3,3,none⟩ (O U S0.brake)).setCell ⟨B+3,4,none⟩ (O U S0.drag)).setCell ⟨B+3,5,none⟩ (O U S0.hill)).setCell ⟨B+3,6,none⟩ (O U S0.round)).setCell ⟨B+3,7,none⟩ (O U S0.hold)) sb 87 #[O U F.p,O U F.b,O U F.d,O U F.h,O U y.m,O U q]∧∃v2 v3 v4 v5 v6 v7,Rw ((((((w11.setCell ⟨B+3,2,none⟩ (O U S0.pull)).setCell ⟨B+3,3,none⟩ (O U S0.brake)).setCell ⟨B+3,4,none⟩ (O U S0.drag)).setCell ⟨B+3,5,none⟩ (O U S0.hill)).setCell ⟨B+3,6,none⟩ (O U S0.round)).setCell ⟨B+3,7,none⟩ (O U S0.hold)) (B+3) 72 #[O U (l.millis+100),O U l.at_,v2,v3,v4,v5,v6,v7,O U l.took,O U l.gave] from⟨hy2,_,_,_,_,_,_,hx2⟩)
         refine hK.out _ _ HS.out (fun _=> ?_)
         clear hK K
         try simp only [Act.put,sB,sZ,sS]
         refine wpAnyH_done (by kernel_rfl) ?_ _
         have hbw:=HBW.out
         have hq:=HSZ8.out
         have g1:=HH8.out.1.below hbw HH8.out.1.lt
         have g2:=HH8.out.2.1.below hbw HH8.out.2.1.lt
         have g3:=HH8.out.2.2.1.below hbw HH8.out.2.2.1.lt
         have g4:=HH8.out.2.2.2.1.below hbw HH8.out.2.2.2.1.lt
         have gb:=HH8.out.2.2.2.2.trans (hbw.mono (show B≤w8.heap.size by omega))
         have r1:Rw ((((((w11.setCell ⟨B+3,2,none⟩ (O U S0.pull)).setCell ⟨B+3,3,none⟩ (O U S0.brake)).setCell ⟨B+3,4,none⟩ (O U S0.drag)).setCell ⟨B+3,5,none⟩ (O U S0.hill)).setCell ⟨B+3,6,none⟩ (O U S0.round)).setCell ⟨B+3,7,none⟩ (O U S0.hold)) B 102 #[O U y.m,O U y.y,O U (y.z:Int)]:=((((((g1.far (k:=B+3) 2 (O U S0.pull) (by omega)).far (k:=B+3) 3 (O U S0.brake) (by omega)).far (k:=B+3) 4 (O U S0.drag) (by omega)).far (k:=B+3) 5 (O U S0.hill) (by omega)).far (k:=B+3) 6 (O U S0.round) (by omega)).far (k:=B+3) 7 (O U S0.hold) (by omega))
         have r2:Rw ((((((w11.setCell ⟨B+3,2,none⟩ (O U S0.pull)).setCell ⟨B+3,3,none⟩ (O U S0.brake)).setCell ⟨B+3,4,none⟩ (O U S0.drag)).setCell ⟨B+3,5,none⟩ (O U S0.hill)).setCell ⟨B+3,6,none⟩ (O U S0.round)).setCell ⟨B+3,7,none⟩ (O U S0.hold)) (B+1) 72 #[O U 0,O U 0,O U 0,O U 0,O U 0,O U 0,O U 0,O U 0,O U 0,O U 0]:=((((((g2.far (k:=B+3) 2 (O U S0.pull) (by omega)).far (k:=B+3) 3 (O U S0.brake) (by omega)).far (k:=B+3) 4 (O U S0.drag) (by omega)).far (k:=B+3) 5 (O U S0.hill) (by omega)).far (k:=B+3) 6 (O U S0.round) (by omega)).far (k:=B+3) 7 (O U S0.hold) (by omega))
         have r3:Rw ((((((w11.setCell ⟨B+3,2,none⟩ (O U S0.pull)).setCell ⟨B+3,3,none⟩ (O U S0.brake)).setCell ⟨B+3,4,none⟩ (O U S0.drag)).setCell ⟨B+3,5,none⟩ (O U S0.hill)).setCell ⟨B+3,6,none⟩ (O U S0.round)).setCell ⟨B+3,7,none⟩ (O U S0.hold)) (B+2) 102 #[O U 0,O U 0,O U 0]:=((((((g3.far (k:=B+3) 2 (O U S0.pull) (by omega)).far (k:=B+3) 3 (O U S0.brake) (by omega)).far (k:=B+3) 4 (O U S0.drag) (by omega)).far (k:=B+3) 5 (O U S0.hill) (by omega)).far (k:=B+3) 6 (O U S0.round) (by omega)).far (k:=B+3) 7 (O U S0.hold) (by omega))
         have r5:Rw ((((((w11.setCell ⟨B+3,2,none⟩ (O U S0.pull)).setCell ⟨B+3,3,none⟩ (O U S0.brake)).setCell ⟨B+3,4,none⟩ (O U S0.drag)).setCell ⟨B+3,5,none⟩ (O U S0.hill)).setCell ⟨B+3,6,none⟩ (O U S0.round)).setCell ⟨B+3,7,none⟩ (O U S0.hold)) (sb+1) 102 #[O U q,O U (y.y+q),O U (zv:Int)]:=((((((g4.far (k:=B+3) 2 (O U S0.pull) (by omega)).far (k:=B+3) 3 (O U S0.brake) (by omega)).far (k:=B+3) 4 (O U S0.drag) (by omega)).far (k:=B+3) 5 (O U S0.hill) (by omega)).far (k:=B+3) 6 (O U S0.round) (by omega)).far (k:=B+3) 7 (O U S0.hold) (by omega))
         have rb:Below B W1 ((((((w11.setCell ⟨B+3,2,none⟩ (O U S0.pull)).setCell ⟨B+3,3,none⟩ (O U S0.brake)).setCell ⟨B+3,4,none⟩ (O U S0.drag)).setCell ⟨B+3,5,none⟩ (O U S0.hill)).setCell ⟨B+3,6,none⟩ (O U S0.round)).setCell ⟨B+3,7,none⟩ (O U S0.hold)):=((((((gb.setCell (by simp <;> omega) (O U S0.pull)).setCell (by simp <;> omega) (O U S0.brake)).setCell (by simp <;> omega) (O U S0.drag)).setCell (by simp <;> omega) (O U S0.hill)).setCell (by simp <;> omega) (O U S0.round)).setCell (by simp <;> omega) (O U S0.hold))
         have rz:((((((w11.setCell ⟨B+3,2,none⟩ (O U S0.pull)).setCell ⟨B+3,3,none⟩ (O U S0.brake)).setCell ⟨B+3,4,none⟩ (O U S0.drag)).setCell ⟨B+3,5,none⟩ (O U S0.hill)).setCell ⟨B+3,6,none⟩ (O U S0.round)).setCell ⟨B+3,7,none⟩ (O U S0.hold)).heap.size=w11.heap.size:=by simp [World.size_setCell]
         obtain⟨w12,hw12⟩:∃z,((((((w11.setCell ⟨B+3,2,none⟩ (O U S0.pull)).setCell ⟨B+3,3,none⟩ (O U S0.brake)).setCell ⟨B+3,4,none⟩ (O U S0.drag)).setCell ⟨B+3,5,none⟩ (O U S0.hill)).setCell ⟨B+3,6,none⟩ (O U S0.round)).setCell ⟨B+3,7,none⟩ (O U S0.hold))=z:=⟨_,rfl⟩
         rw [hw12] at hx2 r1 r2 r3 r5 rb rz ⊢
         replace hx2:Rw w12 (B+3) 72 #[O U (l.millis+100),O U l.at_,O U S0.pull,O U S0.brake,O U S0.drag,O U S0.hill,O U S0.round,O U S0.hold,O U l.took,O U l.gave]:=hx2
         have a8:=hx2.cell 8;have a9:=hx2.cell 9;have b8:=hx2.frozen 8;have b9:=hx2.frozen 9
         have n0:=r5.cell 0;have n1:=r5.cell 1;have n2:=r5.cell 2
         have c0:=r1.cell 0;have c1:=r1.cell 1;have c2:=r1.cell 2;have d0:=r1.frozen 0;have d1:=r1.frozen 1;have d2:=r1.frozen 2
         have HHF:=Z (And.intro hx2 (And.intro r1 (And.intro r2 (And.intro r3 (And.intro rb (And.intro rz hbw.size))))))
         clear hbw hq g1 g2 g3 g4 gb r1 r2 r3 r5 rb rz hx2 hw12 hy2 hbq HS hx x2 k2 x3 k3 x4 k4 x5 k5 x6 k6 x7 k7
         go_wp2
         obtain⟨hx2,r1,r2,r3,rb,rz,hbs⟩:=HHF.out
         have hq:=HSZ8.out
         have hyo:=HF.out.2.2.2.1
         refine⟨⟨f',legNext t a_ zs y n' l,⟨q,y.y+q,zv⟩,by have:=HF.out.1;omega, ?_,trivial,HMV.out HQB.out.1.1 (by have:=HF.out.2.2.2.2.1;have:=HQB.out.1.2;omega), ?_, ?_, ?_, ?_, ?_, ?_, ?_, ?_⟩, ?_⟩
         ·rw [HNE.out];show l.millis+100=_;have:=HF.out.2.1;push_cast at this;omega
         ·show y.y+q≤_;have:=HBG.out;omega
         ·rw [←HGM.out f' l (fun h=>h.elim HST.out (fun h=>by have:=HBG.out;omega))];exact HF.out.2.2.2.2.2.1
         ·exact (((((r1.far (k:=B+3) 8 _ (by omega)).far (k:=B+3) 9 _ (by omega)).set 0 (O U q)).set 1 (O U (y.y+q))).set 2 (O U (zv:Int)))
         ·rw [HNE.out]
          exact (((((hx2.set 8 (O U (if l.took<tk then tk else l.took))).set 9 (O U (if l.gave<gv then gv else l.gave))).far (k:=B) 0 _ (by omega)).far (k:=B) 1 _ (by omega)).far (k:=B) 2 _ (by omega))
         ·exact (((((r2.far (k:=B+3) 8 _ (by omega)).far (k:=B+3) 9 _ (by omega)).far (k:=B) 0 _ (by omega)).far (k:=B) 1 _ (by omega)).far (k:=B) 2 _ (by omega))
         ·exact (((((r3.far (k:=B+3) 8 _ (by omega)).far (k:=B+3) 9 _ (by omega)).far (k:=B) 0 _ (by omega)).far (k:=B) 1 _ (by omega)).far (k:=B) 2 _ (by omega))
         ·exact (((((rb.setCell (by simp <;> omega) _).setCell (by simp <;> omega) _).setCell (by simp <;> omega) _).setCell (by simp <;> omega) _).setCell (by simp <;> omega) _)
         ·simp only [World.size_setCell];omega
         ·have h0:=(((((hx2.set 8 (O U (if l.took<tk then tk else l.took))).set 9 (O U (if l.gave<gv then gv else l.gave))).far (k:=B) 0 (O U q) (by omega)).far (k:=B) 1 (O U (y.y+q)) (by omega)).far (k:=B) 2 (O U (zv:Int)) (by omega)).cell 0
          rw [HCN.out]
          unfold cellNat
          rw [h0]
          show 3600000 - (l.millis+100).toNat<3600000 - l.millis.toNat
          have:=HF.out.2.1
          have:=HF.out.1
          omega
end Go.Proofs.YtfhkbbjddjddmaaGreat
