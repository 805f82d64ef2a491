/- Texts M26 M27 M28 M29 M30. -/
import Derived.Test.YtfhkbbjddjddmaaGreatMe
set_option linter.unusedVariables false
set_option linter.unusedSimpArgs false
open Go.Value renaming int→O
open Go.IntKind renaming i64→U
open Go.Lib renaming hid→Z
namespace Go.Proofs.YtfhkbbjddjddmaaGreat
open Go.RowKit Go.Shelf Go.Lib Go.BigFrame
attribute [local go_sem] Oper.semAt_some
theorem leaves_mks {P:Program} {fn:Func} {tmps:Array Value} {R:Ending→World→Prop} {F:Fence} {n:Nat} :
  ∀(Ds:List Nat) (W:World),Ds.Nodup→(∀D∈Ds,W.heap[D]? = some (.deferred (some [])))→
   (∀W',(∀k,(∀D∈Ds,k≠D)→W'.heap[k]? = W.heap[k]?)→W'.heap.size=W.heap.size→W'.os=W.os→W'.tape=W.tape→W'.output=W.output→LeavesInM F n P fn tmps R [] .returning W')→
   LeavesInM F n P fn tmps R (Ds.map fun D=>{target:= .collected D,args:=#[]}) .returning W:=by
 intro Ds
 induction Ds with
 | nil=>intro W _ _ h;exact h W (fun _ _=>rfl) rfl rfl rfl rfl
 | cons D Ds ih=>
  intro W hn hd h
  have hD:=hd D (by simp)
  rw [List.nodup_cons] at hn
  refine⟨by simp,.inl ⟨_,_,rfl,run_takeDeferred hD,ih _ hn.2 (fun E hE=> ?_) fun W' hb hs h1 h2 h3=> ?_⟩⟩
  ·exact (World.putObj_heap_other (by rintro rfl;exact hn.1 hE)).trans (hd E (List.mem_cons_of_mem _ hE))
  ·refine h W' (fun k hk=>(hb k fun E hE=>hk E (List.mem_cons_of_mem _ hE)).trans (World.putObj_heap_other (hk D (by simp)))) (by simpa using hs) h1 h2 h3
theorem keeps_below {B:Nat} {W W':World} (h:Below B W W') (hB:W.heap.size≤B):KeepsOthers W W':=⟨h.size,fun k o ho _=>(h.block k (Nat.lt_of_lt_of_le (Array.getElem?_eq_some_iff.1 ho).1 hB)).trans ho⟩
structure BX (B L:Nat) (A C:World):Prop where
 os:C.os=A.os
 tape:C.tape=A.tape
 output:C.output=A.output
 size:A.heap.size≤C.heap.size
 block:∀k,k<B→k≠L→C.heap[k]? = A.heap[k]?
section
variable {B L:Nat} {A C D:World}
theorem BX.refl (B L:Nat) (A:World):BX B L A A:=⟨rfl,rfl,rfl,Nat.le_refl _,fun _ _ _=>rfl⟩
theorem BX.trans (h:BX B L A C) (k:BX B L C D):BX B L A D:=⟨k.os.trans h.os,k.tape.trans h.tape,k.output.trans h.output,Nat.le_trans h.size k.size,fun i hi hn=>(k.block i hi hn).trans (h.block i hi hn)⟩
theorem BX.of_below (h:Below B A C) (L:Nat):BX B L A C:=⟨h.os,h.tape,h.output,h.size,fun k hk _=>h.block k hk⟩
theorem BX.below {B':Nat} (h:BX B L A C) (h1:B'≤L) (h2:B'≤B):Below B' A C:=⟨h.os,h.tape,h.output,h.size,fun k hk=>h.block k (by omega) (by omega)⟩
theorem BX.setCell (A:World) (p:Addr) (v:Value) (hp:p.block=L∨B≤p.block):BX B L A (A.setCell p v):=
 ⟨rfl,rfl,rfl,by simp [World.setCell],fun k hk hn=>Below.heap_setCell _ _ _ _ (by omega)⟩
theorem BX.turn {row:Option Nat} (h:BX B L A C) (hA:B≤A.heap.size) (hg:C.grownBy D row) (hr:∀r,row=some r→B≤r):BX B L A D:=
 ⟨hg.os.trans h.os,hg.tape.trans h.tape,hg.output.trans h.output,Nat.le_trans h.size hg.size,fun k hk hn=>(hg.block k (by have:=h.size;omega) (fun e=>by have:=hr k e.symm;omega)).trans (h.block k hk hn)⟩
theorem BX.gi {b2 ib:Nat} (h:BX B L A C) (hA:B≤A.heap.size) (hg:Gi b2 ib C D) (h1:B≤b2) (h2:B≤ib):BX B L A D:=
 ⟨hg.os.trans h.os,hg.tape.trans h.tape,hg.output.trans h.output,Nat.le_trans h.size hg.size,fun k hk hn=>(hg.block k (by have:=h.size;omega) (by omega) (by omega)).trans (h.block k hk hn)⟩
theorem BX.row {g:Nat} {t:TypeId} {cs:Array Value} (h:BX B L A C) (hr:Rw A g t cs) (hg:g<B) (hn:g≠L):Rw C g t cs:=(h.block g hg hn).trans hr
theorem BX.run {r k:Nat} {t:Tr} {a:Int} {Ag:Option Addr} {n c:Nat} {Az:Option Addr} {nz cz:Nat} {zs:List Zn} (h:BX B L A C) (hR:RunAt A r k t a Ag n c Az nz cz zs) (hr:r<B∧r≠L) (hk:k<B∧k≠L) (hz:∀ad,Az=some ad→ad.block<B∧ad.block≠L):RunAt C r k t a Ag n c Az nz cz zs:=by
 refine⟨h.row hR.e hk.1 hk.2,h.row hR.r hr.1 hr.2,hR.zl, ?_⟩
 intro hl
 obtain⟨b,off,e,hb,hc⟩:=hR.z hl
 refine⟨b,off,e,Nat.lt_of_lt_of_le hb h.size,fun i x hx=> ?_⟩
 obtain⟨cs,h1,h2⟩:=hc i x hx
 have:=hz _ e
 exact⟨cs,h1,fun j u hu=>(World.cell?_of_block (a:=⟨b,off+i * 3+j,none⟩) (h.block b this.1 this.2)).trans (h2 j u hu)⟩
end
theorem rw_turn {C D:World} {g:Nat} {t:TypeId} {cs:Array Value} {row:Option Nat} (h:Rw C g t cs) (hg:C.grownBy D row) (hr:∀r,row=some r→r≠g):Rw D g t cs:=(hg.block g h.lt (fun e=>hr g e.symm rfl)).trans h
theorem rw_gi {C D:World} {g b2 ib:Nat} {t:TypeId} {cs:Array Value} (h:Rw C g t cs) (hg:Gi b2 ib C D) (h1:g≠b2) (h2:g≠ib):Rw D g t cs:=(hg.block g h.lt h1 h2).trans h
def vals {t:Tr} {zs:List Zn} (l:List {x:Pt // PtOk t zs x}):List Pt:=l.map (·.1)
theorem vals_snoc {t:Tr} {zs:List Zn} (l:List {x:Pt // PtOk t zs x}) (X:{x:Pt // PtOk t zs x}):vals (l ++ [X])=vals l ++ [X.1]:=by unfold vals;simp
theorem eq_zero_beq (m:Int):(m == 0)=decide (m=0):=by by_cases h:m=0 <;> simp [h]
def lastP (x:Pt) (l:List Pt):Pt:=(l.getLast?).getD x
theorem lastP_snoc (x y:Pt) (l:List Pt):lastP x (l ++ [y])=y:=by unfold lastP;simp
structure BrI (B L:Nat) (w3:World) (x:Pt) (l:List Pt) (W:World):Prop where
 bx:BX B L w3 W
 row:Rw W L 102 (fPt (lastP x l)).toArray
theorem BrI.own {B L:Nat} {w3:World} {x:Pt} {β : Type} {f: β→List Pt} (hB:B≤w3.heap.size) (hL:L<B):OwnFrom w3.heap.size (fun b W=>BrI B L w3 x (f b) W):=fun s X Y row hs hg hr=>
 ⟨hs.bx.turn hB hg (fun r e=>by have:=(hr r e).1;omega),rw_turn hs.row hg (fun r e=>by have:=(hr r e).1;omega)⟩
theorem BrI.gi {B L b2 ib:Nat} {w3 A C:World} {x:Pt} {l:List Pt} (h:BrI B L w3 x l A) (hB:B≤w3.heap.size) (hL:L<B) (hg:Gi b2 ib A C) (h1:B≤b2) (h2:B≤ib):BrI B L w3 x l C:=
 ⟨h.bx.gi hB hg h1 h2,rw_gi h.row hg (by omega) (by omega)⟩
theorem BrI.put {B L:Nat} {w3 W:World} {x:Pt} {l:List Pt} (h:BrI B L w3 x l W) (y:Pt) :
  KeepsOthers W (((W.setCell ⟨L,0,none⟩ (O U y.m)).setCell ⟨L,1,none⟩ (O U y.y)).setCell ⟨L,2,none⟩ (O U (y.z:Int)))∧KF (· = L) W (((W.setCell ⟨L,0,none⟩ (O U y.m)).setCell ⟨L,1,none⟩ (O U y.y)).setCell ⟨L,2,none⟩ (O U (y.z:Int)))∧
  BrI B L w3 x (l ++ [y]) (((W.setCell ⟨L,0,none⟩ (O U y.m)).setCell ⟨L,1,none⟩ (O U y.y)).setCell ⟨L,2,none⟩ (O U (y.z:Int))):=
 ⟨((KeepsOthers.setCell _ _ _).trans (KeepsOthers.setCell _ _ _)).trans (KeepsOthers.setCell _ _ _),
  ((KF.setCell (T:=(· = L)) W ⟨L,0,none⟩ (O U y.m) rfl).trans (KF.setCell (T:=(· = L)) _ ⟨L,1,none⟩ (O U y.y) rfl)).trans (KF.setCell (T:=(· = L)) _ ⟨L,2,none⟩ (O U (y.z:Int)) rfl),
  ((h.bx.trans (BX.setCell _ ⟨L,0,none⟩ _ (.inl rfl))).trans (BX.setCell _ ⟨L,1,none⟩ _ (.inl rfl))).trans (BX.setCell _ ⟨L,2,none⟩ _ (.inl rfl)),
  by rw [lastP_snoc];exact ((h.row.set 0 _).set 1 _).set 2 _⟩
theorem pts_ok {t:Tr} {a:Int} {zs:List Zn} (ht:TrOk t) (ha:0≤a) (hz:ZsOk zs):∀(n:Nat) (x:Pt),PtOk t zs x→x.y≤20000000000000000 - 2000000000 * (n:Int)→∀p∈ptsL t a zs n x,PtOk t zs p:=by
 intro n
 induction n with
 | zero=>intro x hx hy p hp;simp [ptsL] at hp;subst hp;exact hx
 | succ n ih=>
  intro x hx hy p hp
  rw [ptsL] at hp
  rcases List.mem_cons.1 hp with rfl|hp
  ·exact hx
  ·split at hp
   ·cases hp
   ·split at hp
    ·rename_i hq
     have hq0:=(brkM_ok (a:=a) ht ha hz hx).1
     have hm:=ht.m2
     exact ih _ (movP_ok hx hq0 hq (by push_cast at hy;omega)) (by show x.y+_≤_;push_cast at hy;omega) p hp
    ·cases hp
set_option maxRecDepth 100000 in
set_option maxHeartbeats 4000000 in
theorem braking_any (r k:Nat) (t:Tr) (a:Int) (A:Option Addr) (n c:Nat) (Az:Option Addr) (nz cz:Nat) (zs:List Zn) (x:Pt) (w:World) (hR:RunAt w r k t a A n c Az nz cz zs) (hAz:∀ad,Az=some ad→ad.block<w.heap.size) (ht:TrOk t) (ha:0≤a) (hz:ZsOk zs) (hx:PtOk t zs x) (hy:x.y≤10100000000000000) :
  Calls Tryz.prog 52 #[.pointer (some ⟨r,0,none⟩),.agg #[O U x.m,O U x.y,O U (x.z:Int)]] w fun e w'=>(∃last,(ptsL t a zs 36000 x).getLast? = some last∧e= .returned (.tuple #[O U (last.y / (10 * t.mass) - x.y / (10 * t.mass)),.bool (decide (last.m=0))]))∧Below w.heap.size w w':=by
 have hb1:=((Below.refl w.heap.size w).alloc (Nat.le_refl _) (.cells #[O U x.m,O U x.y,O U (x.z:Int)] 102)).alloc (by simp) (.cells #[O U x.m,O U x.y,O U (x.z:Int)] 102)
 obtain⟨q1,q2⟩:=rows2 w #[O U x.m,O U x.y,O U (x.z:Int)] #[O U x.m,O U x.y,O U (x.z:Int)] 102 102
 have hR1:=hR.below hb1
 have hz1:((w.alloc (.cells #[O U x.m,O U x.y,O U (x.z:Int)] 102)).alloc (.cells #[O U x.m,O U x.y,O U (x.z:Int)] 102)).heap.size=w.heap.size+2:=by simp
 obtain⟨W1,hW1⟩:∃z,(w.alloc (.cells #[O U x.m,O U x.y,O U (x.z:Int)] 102)).alloc (.cells #[O U x.m,O U x.y,O U (x.z:Int)] 102)=z:=⟨_,rfl⟩
 rw [hW1] at hb1 q1 q2 hR1 hz1
 have HB1:=Z hb1;have HQ1:=Z q1;have HQ2:=Z q2;have HR1:=Z hR1;have HZ1:=Z hz1
 have HLT:=Z (show r<w.heap.size∧k<w.heap.size from⟨hR.r.lt,hR.e.lt⟩)
 have e0:=q1.cell 0;have e1:=q1.cell 1;have e2:=q1.cell 2
 have HST:=Z (stopping_any r x W1)
 clear hb1 q1 q2 hR1 hz1 hR
 refine (callsIn_wide (n:=8)).1 ?_
 refine callsIn_of_wp_marks Tryz.func52 rfl trivial ?_ rfl
 simp only [Tryz.ntmps52,List.size_toArray,List.length_cons,List.length_nil,Nat.reduceAdd,Nat.reduceSub,Array.replicate_succ,Array.replicate_zero,List.push_toArray,List.append_toArray,List.nil_append,List.cons_append]
 gi_wp2
 refine⟨trivial,CallsIn.mono (callsIn_wide.2 HST.out) ?_⟩
 rintro e w3 ⟨rfl,hw3⟩
 have hz1:=HZ1.out
 have hlt:=HLT.out
 have hS3:=StopAt.made (L:=w.heap.size+1) x HR1.out (fun ad e=>by have:=hAz ad e;omega) (by omega) (by omega) (by omega) (fun ad e=>by have:=hAz ad e;omega)
 have hb3:=((Below.refl W1.heap.size W1).alloc (Nat.le_refl _) (.cells #[.pointer (some ⟨r,0,none⟩)] 98)).alloc (by simp) (.cells (fPt x).toArray 102)
 have hz3:((W1.alloc (.cells #[.pointer (some ⟨r,0,none⟩)] 98)).alloc (.cells (fPt x).toArray 102)).heap.size=W1.heap.size+2:=by simp
 rw [hw3] at hS3 hb3 hz3
 clear hw3
 have hL3:Rw w3 (w.heap.size+1) 102 (fPt x).toArray:=HQ2.out.below hb3 (by omega)
 have hX3:Rw w3 w.heap.size 102 (fPt x).toArray:=HQ1.out.below hb3 (by omega)
 have hseq:=stopping_seq 7 (by omega) (w.heap.size+1) W1.heap.size (W1.heap.size+1) r k t a A n c Az nz cz zs x w3 hS3 ht ha hz hx hy (by omega)
 have HSQ:=Z hseq;have HS3:=Z hS3;have HB3:=Z hb3;have HZ3:=Z hz3;have HL3:=Z hL3;have HX3:=Z hX3
 clear hseq hS3 hb3 hL3 hX3 hW1 e0 e1 e2 hz1 hz3
 gi_wp2
 have hz1:=HZ1.out;have hz3:=HZ3.out
 refine wpIn_rangeX (α:={x:Pt // PtOk t zs x}) (w0:=w3) (Kp:=KF (· = w.heap.size+1)) (b2:=W1.heap.size+1) (S:=fun xs=>xs.map (·.1)=ptsL t a zs 36000 x) (Sp:=fun pre=>pre≠ []∧∃s,pre.map (·.1) ++ s=ptsL t a zs 36000 x) (N:=36001) (gf:=102) (lb:=#[.pointer (some ⟨W1.heap.size,0,none⟩),.pointer (some ⟨W1.heap.size+1,0,none⟩)]) rfl (by omega) rfl trivial (enters_of Tryz.func102 (by kernel_rfl) rfl) HSQ.out (fun h k=>KF.trans h k) KF.put (Below.refl _ _) (by omega) (fun _=>rfl)
  (fun pre W=>BrI W1.heap.size (w.heap.size+1) w3 x (vals pre) W) (fun _ _ _=>False) (BrI.own (by omega) (by omega)) (fun _ _ _ _ _ h _ _=>h) (fun s _ _ h hg=>BrI.gi (l:=vals s) h (by omega) (by omega) hg (by omega) (by omega)) (fun _ _ _ _ h _=>h) ⟨BX.refl _ _ _,HL3.out⟩
  (fun p W=>BrI W1.heap.size (w.heap.size+1) w3 x (vals (p.1 ++ [p.2.1])) W) (BrI.own (by omega) (by omega)) ?assign ?body ?done ?stop
 case assign=>
  intro l pre X W K hI hlen hK
  obtain⟨y,hy⟩:∃y,X.1=y:=⟨_,rfl⟩
  have f0:=hI.row.frozen 0;have f1:=hI.row.frozen 1;have f2:=hI.row.frozen 2
  have c0:=hI.row.cell 0;have c1:=hI.row.cell 1;have c2:=hI.row.cell 2
  simp only [fPt] at c0 c1 c2
  have HI:=Z hI;have HK:=Z hK
  clear hI hK
  rw [hy]
  gi_wp2
  have hp:=HI.out.put y
  exact HK.out _ _ hp.1 hp.2.1 (by rw [vals_snoc,hy];exact hp.2.2)
 case body=>
  intro l pre X a1 W hI hlen
  have HI:=Z hI
  clear hI hz1 hz3
  gi_wp2
  exact⟨KeepsOthers.refl _,KF.refl _,HI.out⟩
 case stop=>exact fun _ _ _ _ _ _ h _=>h.elim
 case done=>
  intro d xs W hd hS hI hdef
  obtain⟨p0,hp0⟩:∃p,(ptsL t a zs 36000 x).getLast? = some p:=by
   obtain⟨l,hl⟩:=ptsL_cons t a zs 36000 x
   rw [hl];exact⟨_,List.getLast?_eq_some_getLast (by simp)⟩
  have hpl:lastP x (vals xs)=p0:=by unfold vals;rw [hS];unfold lastP;rw [hp0];rfl
  have hrow:=hI.row
  rw [hpl] at hrow
  have hpo:=pts_ok ht ha hz 36000 x hx (by omega) p0 (List.mem_of_getLast? hp0)
  have hX:=hI.bx.row HX3.out (by omega) (by omega)
  have hR4:=hI.bx.run HS3.out.run ⟨by omega,by omega⟩ ⟨by omega,by omega⟩ (fun ad e=>by have:=hAz ad e;omega)
  have HSK:=Z (show ∀wx,Below W.heap.size W wx→Rw wx (w.heap.size+1) 102 (fPt p0).toArray∧Rw wx w.heap.size 102 (fPt x).toArray from fun wx h=>⟨hrow.below h hrow.lt,hX.below h hX.lt⟩)
  have HRK:=Z (show ∀wx,Below W.heap.size W wx→RunAt wx r k t a A n c Az nz cz zs from fun wx h=>hR4.below h)
  have HP0:=Z hp0;have HPO:=Z hpo;have HI:=Z hI;have HDF:=Z (And.intro hd hdef)
  have hxy:=hx.y0
  have HD1:=Z (show ∀wx,Below W.heap.size W wx→Calls Tryz.prog 79 #[.pointer (some ⟨r,0,none⟩),.agg #[O U p0.m,O U p0.y,O U (p0.z:Int)]] wx fun e w'=>e= .returned (O U (p0.y / (10 * t.mass)))∧Below wx.heap.size wx w' from fun wx h=>place_any wx r k t a A n c Az nz cz zs p0.m p0.y (p0.z:Int) (HRK.out wx h) ht hpo.y0 (by have:=hpo.y1;omega))
  have HD2:=Z (show ∀wx,Below W.heap.size W wx→Calls Tryz.prog 79 #[.pointer (some ⟨r,0,none⟩),.agg #[O U x.m,O U x.y,O U (x.z:Int)]] wx fun e w'=>e= .returned (O U (x.y / (10 * t.mass)))∧Below wx.heap.size wx w' from fun wx h=>place_any wx r k t a A n c Az nz cz zs x.m x.y (x.z:Int) (HRK.out wx h) ht hx.y0 (by have:=hx.y1;omega))
  have hdiv:∀y:Int,0≤y→y≤20000000000000000→0≤y / (10 * t.mass)∧y / (10 * t.mass)≤20000000000000000:=fun y y0 y1=>by
   have:=ht.m1
   exact⟨Int.ediv_nonneg y0 (by omega),Int.le_trans (Int.ediv_le_self _ y0) y1⟩
  have hd1:=hdiv p0.y hpo.y0 hpo.y1
  have hd2:=hdiv x.y hx.y0 hx.y1
  obtain⟨d1,hd1e⟩:∃z,p0.y / (10 * t.mass)=z:=⟨_,rfl⟩
  obtain⟨d2,hd2e⟩:∃z,x.y / (10 * t.mass)=z:=⟨_,rfl⟩
  rw [hd1e] at hd1 HD1
  rw [hd2e] at hd2 HD2
  have hws:IntKind.i64.wrap (d1 - d2)=d1 - d2:=by rw [IntKind.wrap_i64];omega
  have HDE:=Z (And.intro hd1e hd2e)
  clear hrow hX hR4 hp0 hpo hI hd hdef hpl hdiv hd1e hd2e hS hz1 hz3
  gi_wp2
  refine wpIn_wide.2 ?_
  have hbq:Below W.heap.size W W.drew:=(Below.refl _ _).drew
  have HS:=Z (HSK.out _ hbq)
  refine wp_region_noPanic ?_
  refine wp_region_held_drew (S:=fun wx=>Rw wx (w.heap.size+1) 102 (fPt p0).toArray∧Rw wx w.heap.size 102 (fPt x).toArray) (by kernel_rfl) HS.out (fun _=> ?_)
  refine hTk (i:=0) (d:=12) (v:= .pointer (some ⟨r,0,none⟩)) rfl rfl (Or.inl ⟨rfl,by rintro W' ⟨s0,s1⟩;simp only [fPt] at s0 s1;have y0:=s0.cell 0;have y1:=s0.cell 1;have y2:=s0.cell 2;have z0:=s1.cell 0;have z1:=s1.cell 1;have z2:=s1.cell 2;have hbe:=eq_zero_beq p0.m;go_simp⟩) HS.out ?_
  simp only [Act.put,sB,sZ,sS]
  refine hTk (i:=1) (d:=13) (v:= .agg #[O U p0.m,O U p0.y,O U (p0.z:Int)]) rfl rfl (Or.inl ⟨rfl,by rintro W' ⟨s0,s1⟩;simp only [fPt] at s0 s1;have y0:=s0.cell 0;have y1:=s0.cell 1;have y2:=s0.cell 2;have z0:=s1.cell 0;have z1:=s1.cell 1;have z2:=s1.cell 2;have hbe:=eq_zero_beq p0.m;go_simp⟩) HS.out ?_
  simp only [Act.put,sB,sZ,sS]
  refine hTk (i:=3) (d:=15) (v:= .pointer (some ⟨r,0,none⟩)) rfl rfl (Or.inl ⟨rfl,by rintro W' ⟨s0,s1⟩;simp only [fPt] at s0 s1;have y0:=s0.cell 0;have y1:=s0.cell 1;have y2:=s0.cell 2;have z0:=s1.cell 0;have z1:=s1.cell 1;have z2:=s1.cell 2;have hbe:=eq_zero_beq p0.m;go_simp⟩) HS.out ?_
  simp only [Act.put,sB,sZ,sS]
  refine hTk (i:=4) (d:=16) (v:= .agg #[O U x.m,O U x.y,O U (x.z:Int)]) rfl rfl (Or.inl ⟨rfl,by rintro W' ⟨s0,s1⟩;simp only [fPt] at s0 s1;have y0:=s0.cell 0;have y1:=s0.cell 1;have y2:=s0.cell 2;have z0:=s1.cell 0;have z1:=s1.cell 1;have z2:=s1.cell 2;have hbe:=eq_zero_beq p0.m;go_simp⟩) HS.out ?_
  simp only [Act.put,sB,sZ,sS]
  refine hTk (i:=7) (d:=19) (v:= .pointer (some ⟨w.heap.size+1,0,none⟩)) rfl rfl (Or.inl ⟨rfl,by rintro W' ⟨s0,s1⟩;simp only [fPt] at s0 s1;have y0:=s0.cell 0;have y1:=s0.cell 1;have y2:=s0.cell 2;have z0:=s1.cell 0;have z1:=s1.cell 1;have z2:=s1.cell 2;have hbe:=eq_zero_beq p0.m;go_simp⟩) HS.out ?_
  simp only [Act.put,sB,sZ,sS]
  refine hTk (i:=8) (d:=20) (v:= .pointer (some ⟨w.heap.size+1,0,none⟩)) rfl rfl (Or.inl ⟨rfl,by rintro W' ⟨s0,s1⟩;simp only [fPt] at s0 s1;have y0:=s0.cell 0;have y1:=s0.cell 1;have y2:=s0.cell 2;have z0:=s1.cell 0;have z1:=s1.cell 1;have z2:=s1.cell 2;have hbe:=eq_zero_beq p0.m;go_simp⟩) HS.out ?_
  simp only [Act.put,sB,sZ,sS]
  refine hTk (i:=9) (d:=21) (v:=O U p0.m) rfl rfl (Or.inl ⟨rfl,by rintro W' ⟨s0,s1⟩;simp only [fPt] at s0 s1;have y0:=s0.cell 0;have y1:=s0.cell 1;have y2:=s0.cell 2;have z0:=s1.cell 0;have z1:=s1.cell 1;have z2:=s1.cell 2;have hbe:=eq_zero_beq p0.m;go_simp⟩) HS.out ?_
  simp only [Act.put,sB,sZ,sS]
  refine hTk (i:=10) (d:=22) (v:= .bool (decide (p0.m=0))) rfl rfl (Or.inl ⟨rfl,by rintro W' ⟨s0,s1⟩;simp only [fPt] at s0 s1;have y0:=s0.cell 0;have y1:=s0.cell 1;have y2:=s0.cell 2;have z0:=s1.cell 0;have z1:=s1.cell 1;have z2:=s1.cell 2;have hbe:=eq_zero_beq p0.m;go_simp⟩) HS.out ?_
  simp only [Act.put,sB,sZ,sS]
  refine wpAnyH_ready (rs:= [2]) (by kernel_rfl) (by simp) ?_
  refine AllReadyH.cons rfl (fun K hK=> ?_) AllReadyH.nil
  rw [if_pos (by rfl)]
  go_simp
  go_at_call 79
  (with_reducible refine (HD1.out _ hbq).mono ?_)
  rintro e w6 ⟨rfl,hbn⟩
  replace hbq:=hbq.trans (hbn.mono hbq.size)
  clear hbn
  have HS:=Z (HSK.out _ hbq)
  refine hK.out _ _ HS.out (fun _=> ?_)
  clear hK K
  try simp only [Act.put,sB,sZ,sS]
  refine wpAnyH_ready (rs:= [5]) (by kernel_rfl) (by simp) ?_
  refine AllReadyH.cons rfl (fun K hK=> ?_) AllReadyH.nil
  rw [if_pos (by rfl)]
  go_simp
  go_at_call 79
  (with_reducible refine (HD2.out _ hbq).mono ?_)
  rintro e w6 ⟨rfl,hbn⟩
  replace hbq:=hbq.trans (hbn.mono hbq.size)
  clear hbn
  have HS:=Z (HSK.out _ hbq)
  refine hK.out _ _ HS.out (fun _=> ?_)
  clear hK K
  try simp only [Act.put,sB,sZ,sS]
  refine hTk (i:=6) (d:=18) (v:=O U (d1 - d2)) rfl rfl (Or.inl ⟨rfl,by rintro W' ⟨s0,s1⟩;simp only [fPt] at s0 s1;have y0:=s0.cell 0;have y1:=s0.cell 1;have y2:=s0.cell 2;have z0:=s1.cell 0;have z1:=s1.cell 1;have z2:=s1.cell 2;have hbe:=eq_zero_beq p0.m;go_simp⟩) HS.out ?_
  simp only [Act.put,sB,sZ,sS]
  refine hTk (i:=11) (d:=4) (v:=O U (d1 - d2)) rfl rfl (Or.inl ⟨rfl,by rintro W' ⟨s0,s1⟩;simp only [fPt] at s0 s1;have y0:=s0.cell 0;have y1:=s0.cell 1;have y2:=s0.cell 2;have z0:=s1.cell 0;have z1:=s1.cell 1;have z2:=s1.cell 2;have hbe:=eq_zero_beq p0.m;go_simp⟩) HS.out ?_
  simp only [Act.put,sB,sZ,sS]
  refine hTk (i:=12) (d:=5) (v:= .bool (decide (p0.m=0))) rfl rfl (Or.inl ⟨rfl,by rintro W' ⟨s0,s1⟩;simp only [fPt] at s0 s1;have y0:=s0.cell 0;have y1:=s0.cell 1;have y2:=s0.cell 2;have z0:=s1.cell 0;have z1:=s1.cell 1;have z2:=s1.cell 2;have hbe:=eq_zero_beq p0.m;go_simp⟩) HS.out ?_
  simp only [Act.put,sB,sZ,sS]
  refine wpAnyH_done (by kernel_rfl) ?_ _
  have HBQ:=Z hbq
  clear hbq HS
  refine NoPanic.normal ?_
  gi_wp2
  (try simp only [Exit.inBlock,Exit.then])
  have hdf:=HDF.out
  have hbw:=HI.out.bx.below (B':=w.heap.size) (by omega) (by have:=HZ1.out;omega)
  have hsz:=HBQ.out.size
  have hdl:=(Array.getElem?_eq_some_iff.1 hdf.2).1
  refine leaves_mks [d] _ (by simp) (fun D hD=>by rw [List.mem_singleton.1 hD];exact (HBQ.out.block _ hdl).trans hdf.2) ?_
  intro W' hb hs h1 h2 h3
  refine⟨_,results_tmp2 rfl _ _ _,⟨p0,HP0.out,by rw [HDE.out.1,HDE.out.2];rfl⟩, ?_⟩
  refine HB1.out.trans (((HB3.out.mono HB1.out.size).trans hbw).trans ((HBQ.out.mono (by have:=hbw.size;have:=HZ3.out;have:=HZ1.out;omega)).trans ⟨h1,h2,h3,by omega,fun k hk=>hb k fun D hD e=> ?_⟩))
  rw [List.mem_singleton.1 hD,hdf.1] at e
  have:=HZ3.out;have:=HZ1.out
  omega
open Go.RowKit Go.Shelf Go.Lib Go.BigFrame
theorem zadv_one (sl u y:Int) (f:Nat):zadv [⟨0,sl,0⟩] u y f 0=0:=by cases f <;> rfl
theorem zone_ok {sl:Int} (h0: -120≤sl) (h1:sl≤120):ZsOk [⟨0,sl,0⟩]:=
 ⟨by simp,by simp;omega,by simp,by simp⟩
theorem brakeW_pts (t:Tr) (sl st:Int):∀(n:Nat) (m y:Int),0≤m→
  ∃l,(ptsL t (adhZ t (gripZ t st)) [⟨0,sl,0⟩] n ⟨m,y,0⟩).getLast? = some l∧brakeW t sl st n m y=if l.m=0 then some l.y else none:=by
 intro n
 induction n with
 | zero=>
  intro m y hm
  refine⟨_,rfl, ?_⟩
  unfold brakeW
  show (if m≤0 then some y else none)=if m=0 then some y else none
  by_cases h:m=0
  ·rw [if_pos h,if_pos (by omega)]
  ·rw [if_neg h,if_neg (by omega)]
 | succ n ih=>
  intro m y hm
  have hq:brkM t (adhZ t (gripZ t st)) [⟨0,sl,0⟩] ⟨m,y,0⟩=mkQ t m (-4) sl st:=by rw [brkM_next];rfl
  by_cases h:m=0
  ·refine⟨⟨m,y,0⟩,by rw [ptsL_zero h];rfl, ?_⟩
   rw [brakeW_stop _ (by omega),if_pos h]
  ·by_cases h2:mkQ t m (-4) sl st≤25000 * t.mass
   ·have h3:0≤mkQ t m (-4) sl st:=by unfold mkQ nextZ afterZ;omega
    obtain⟨l,hl,hb⟩:=ih (mkQ t m (-4) sl st) (y+mkQ t m (-4) sl st) h3
    refine⟨l, ?_, ?_⟩
    ·rw [ptsL_more h (by rw [hq];exact h2),hq,List.getLast?_cons]
     have e:movP t [⟨0,sl,0⟩] ⟨m,y,0⟩ (mkQ t m (-4) sl st)=⟨mkQ t m (-4) sl st,y+mkQ t m (-4) sl st,0⟩:=by unfold movP;rw [zadv_one]
     rw [e,hl];rfl
    ·rw [brakeW_step rfl (by omega) h2];exact hb
   ·refine⟨⟨m,y,0⟩,by rw [ptsL_rest (.inr (by rw [hq];exact h2))];rfl, ?_⟩
    rw [brakeW_fail rfl (by omega) h2,if_neg h]
theorem RunAt.zlt {w:World} {r k:Nat} {t:Tr} {a:Int} {A:Option Addr} {n c:Nat} {Az:Option Addr} {nz cz:Nat} {zs:List Zn} (h:RunAt w r k t a A n c Az nz cz zs) (hne:zs≠ []):∀ad,Az=some ad→ad.block<w.heap.size:=fun ad e=>by
 obtain⟨b,off,e2,hb,_⟩:=h.z hne
 rw [e] at e2
 cases e2
 exact hb
def brkB (t:Tr) (m y sl st:Int):Bool:=rightB t && (stateB t m y && placeB t sl st)
def brkE (t:Tr) (m y sl st:Int):Int:=if brkB t m y sl st=true then (if (brakeW t sl st 36000 m y).isSome then 0 else 4) else 2
def brkR (t:Tr) (m y sl st:Int):Int:=if brkB t m y sl st=true then brkV t y (brakeW t sl st 36000 m y) else 0
theorem brkB_fine (t:Tr) (m y d sl st:Int) (h0: -4≤d) (h1:d≤4):fineB t m y d sl st=brkB t m y sl st:=by
 unfold fineB brkB placeB
 rw [show inB d (-4) 4=true from inB_iff.2 ⟨h0,h1⟩,Bool.true_and]
set_option maxRecDepth 100000 in
set_option maxHeartbeats 4000000 in
theorem Braking_any (A:Option Addr) (c n:Nat) (t:Tr) (m y sl st:Int) (w:World) (hn:t.grip.length=n) (hn2:n≤140737488351232) (hS:Sl w w.heap.size 1 CI A t.grip) :
  Calls Tryz.prog 25 #[.agg #[O U t.mass,O U t.len,O U t.speed,O U t.effort,O U t.brake,O U t.power,O U t.resist,O U t.rise,O U t.back,.slice A n c],.agg #[O U m,O U y],O U sl,O U st] w fun e w'=>e= .returned (.tuple #[O U (brkR t m y sl st),O U (brkE t m y sl st)])∧Below w.heap.size w w':=by
 have hb1:=((Below.refl w.heap.size w).alloc (Nat.le_refl _) (.cells #[O U t.mass,O U t.len,O U t.speed,O U t.effort,O U t.brake,O U t.power,O U t.resist,O U t.rise,O U t.back,.slice A n c] 24)).alloc (by simp) (.cells #[O U m,O U y] 35)
 obtain⟨q1,q2⟩:=rows2 w #[O U t.mass,O U t.len,O U t.speed,O U t.effort,O U t.brake,O U t.power,O U t.resist,O U t.rise,O U t.back,.slice A n c] #[O U m,O U y] 24 35
 obtain⟨W1,hW1⟩:∃z,((w.alloc (.cells #[O U t.mass,O U t.len,O U t.speed,O U t.effort,O U t.brake,O U t.power,O U t.resist,O U t.rise,O U t.back,.slice A n c] 24)).alloc (.cells #[O U m,O U y] 35))=z:=⟨_,rfl⟩
 rw [hW1] at hb1 q1 q2
 have HB1:=Z hb1
 have HX1:=Z (Below.refl W1.heap.size W1)
 have HQ:=Z (show ∀wx,Below W1.heap.size W1 wx→Rw wx w.heap.size 24 #[O U t.mass,O U t.len,O U t.speed,O U t.effort,O U t.brake,O U t.power,O U t.resist,O U t.rise,O U t.back,.slice A n c]∧Rw wx (w.heap.size+1) 35 #[O U m,O U y] from fun wx h=>⟨q1.below h q1.lt,q2.below h q2.lt⟩)
 have HS:=Z (show ∀wx,Below W1.heap.size W1 wx→Sl wx wx.heap.size 1 CI A t.grip from fun wx h=>(hS.below (hb1.trans (h.mono hb1.size))).more (fun _ _ h=>h) (Nat.le_trans hb1.size h.size))
 have e0:=q1.cell 0;have e1:=q1.cell 1;have e2:=q1.cell 2;have e3:=q1.cell 3;have e4:=q1.cell 4;have e5:=q1.cell 5;have e6:=q1.cell 6;have e7:=q1.cell 7;have e8:=q1.cell 8;have e9:=q1.cell 9;have f0:=q2.cell 0;have f1:=q2.cell 1
 obtain⟨b0,h0⟩:∃b,rightB t=b:=⟨_,rfl⟩
 obtain⟨b1,h1⟩:∃b,stateB t m y=b:=⟨_,rfl⟩
 obtain⟨b3,h3⟩:∃b,placeB t sl st=b:=⟨_,rfl⟩
 have HN0:=Z (show brkB t m y sl st=(b0 && (b1 && b3)) from by unfold brkB;rw [h0,h1,h3])
 have HEB:=Z (show brkB t m y sl st=false→brkR t m y sl st=0∧brkE t m y sl st=2 from fun h=>by unfold brkR brkE;rw [h];exact⟨rfl,rfl⟩)
 have H0:=Z (show ∀wx,Below W1.heap.size W1 wx→Calls Tryz.prog 39 #[.agg #[O U t.mass,O U t.len,O U t.speed,O U t.effort,O U t.brake,O U t.power,O U t.resist,O U t.rise,O U t.back,.slice A n c]] wx fun e w'=>e= .returned (.bool b0)∧Below wx.heap.size wx w' from fun wx h=>by have:=right_any A c n t wx hn hn2 (HS.out wx h);rwa [h0] at this)
 have H1:=Z (show b0=true→∀wx,Calls Tryz.prog 49 #[.agg #[O U t.mass,O U t.len,O U t.speed,O U t.effort,O U t.brake,O U t.power,O U t.resist,O U t.rise,O U t.back,.slice A n c],.agg #[O U m,O U y]] wx fun e w'=>e= .returned (.bool b1)∧Below wx.heap.size wx w' from fun hb wx=>by have:=stateRight_any A c n t m y wx (TrOk.of (h0.trans hb));rwa [h1] at this)
 have H3:=Z (show b0=true→∀wx,Calls Tryz.prog 50 #[.agg #[O U t.mass,O U t.len,O U t.speed,O U t.effort,O U t.brake,O U t.power,O U t.resist,O U t.rise,O U t.back,.slice A n c],O U sl,O U st] wx fun e w'=>e= .returned (.bool b3)∧Below wx.heap.size wx w' from fun hb wx=>by have:=placeRight_any A c n t sl st wx hn (by have:=(TrOk.of (h0.trans hb)).g2;omega);rwa [h3] at this)
 have HNL:=Z hn
 clear hb1 q1 q2 hS hn h0 h1 h3
 go_enter Tryz.func25,Tryz.ntmps25
 go_wp2_with fail
 (with_reducible refine (H0.out _ HX1.out).mono ?_)
 rintro e w2 ⟨rfl,hb2⟩
 have HX2:=Z (HX1.out.trans (hb2.mono HX1.out.size))
 clear hb2
 obtain⟨r1,r2⟩:=HQ.out _ HX2.out
 have e0:=r1.cell 0;have e1:=r1.cell 1;have e2:=r1.cell 2;have e3:=r1.cell 3;have e4:=r1.cell 4;have e5:=r1.cell 5;have e6:=r1.cell 6;have e7:=r1.cell 7;have e8:=r1.cell 8;have e9:=r1.cell 9;have f0:=r2.cell 0;have f1:=r2.cell 1
 clear r1 r2
 cases b0 with
 | false=>
  have HN:=Z (show brkB t m y sl st=false from by rw [HN0.out];rfl)
  go_wp2
  (try simp only [Exit.inBlock,Exit.then])
  exact bodyPost_ret (results_tmp2 rfl _ _ _) rfl ⟨by rw [HEB.out HN.out |>.1,HEB.out HN.out |>.2];rfl,HB1.out.trans (HX2.out.mono HB1.out.size)⟩
 | true=>
  go_wp2_with fail
  (with_reducible refine ((show ∀wx:World,Calls Tryz.prog 49 #[.agg #[O U t.mass,O U t.len,O U t.speed,O U t.effort,O U t.brake,O U t.power,O U t.resist,O U t.rise,O U t.back,.slice A n c],.agg #[O U m,O U y]] wx fun e w'=>e= .returned (.bool b1)∧Below wx.heap.size wx w' from by have h:=H1.out;simpa using h) _).mono ?_)
  rintro e w3 ⟨rfl,hb3⟩
  have HX3:=Z (HX2.out.trans (hb3.mono HX2.out.size))
  clear hb3
  obtain⟨r1,r2⟩:=HQ.out _ HX3.out
  have e0:=r1.cell 0;have e1:=r1.cell 1;have e2:=r1.cell 2;have e3:=r1.cell 3;have e4:=r1.cell 4;have e5:=r1.cell 5;have e6:=r1.cell 6;have e7:=r1.cell 7;have e8:=r1.cell 8;have e9:=r1.cell 9;have f0:=r2.cell 0;have f1:=r2.cell 1
  clear r1 r2
  cases b1 with
  | false=>
   have HN:=Z (show brkB t m y sl st=false from by rw [HN0.out];rfl)
   go_wp2
   (try simp only [Exit.inBlock,Exit.then])
   exact bodyPost_ret (results_tmp2 rfl _ _ _) rfl ⟨by rw [HEB.out HN.out |>.1,HEB.out HN.out |>.2];rfl,HB1.out.trans (HX3.out.mono HB1.out.size)⟩
  | true=>
   go_wp2_with fail
   (with_reducible refine ((show ∀wx:World,Calls Tryz.prog 50 #[.agg #[O U t.mass,O U t.len,O U t.speed,O U t.effort,O U t.brake,O U t.power,O U t.resist,O U t.rise,O U t.back,.slice A n c],O U sl,O U st] wx fun e w'=>e= .returned (.bool b3)∧Below wx.heap.size wx w' from by have h:=H3.out;simpa using h) _).mono ?_)
   rintro e w4 ⟨rfl,hb4⟩
   have HX4:=Z (HX3.out.trans (hb4.mono HX3.out.size))
   clear hb4
   obtain⟨r1,r2⟩:=HQ.out _ HX4.out
   have e0:=r1.cell 0;have e1:=r1.cell 1;have e2:=r1.cell 2;have e3:=r1.cell 3;have e4:=r1.cell 4;have e5:=r1.cell 5;have e6:=r1.cell 6;have e7:=r1.cell 7;have e8:=r1.cell 8;have e9:=r1.cell 9;have f0:=r2.cell 0;have f1:=r2.cell 1
   clear r1 r2
   cases b3 with
   | false=>
    have HN:=Z (show brkB t m y sl st=false from by rw [HN0.out];rfl)
    go_wp2
    (try simp only [Exit.inBlock,Exit.then])
    exact bodyPost_ret (results_tmp2 rfl _ _ _) rfl ⟨by rw [HEB.out HN.out |>.1,HEB.out HN.out |>.2];rfl,HB1.out.trans (HX4.out.mono HB1.out.size)⟩
   | true=>
    have hbb:brkB t m y sl st=true:=by rw [HN0.out];rfl
    have hF:FineOk t m y (-4) sl st:=FineOk.of (by rw [brkB_fine t m y (-4) sl st (by omega) (by omega)];exact hbb)
    have hyy:y≤10000000000000000:=by
     have h:=hbb
     unfold brkB stateB at h
     simp only [Bool.and_eq_true,inB_iff] at h
     exact h.2.1.2.2
    have HE0:=Z (show brkR t m y sl st=brkV t y (brakeW t sl st 36000 m y)∧brkE t m y sl st=(if (brakeW t sl st 36000 m y).isSome then 0 else 4) from by unfold brkR brkE;rw [if_pos hbb,if_pos hbb];exact⟨rfl,rfl⟩)
    obtain⟨i,hi⟩:∃i:Nat,st=(i:Int):=⟨st.toNat,by have:=hF.i0;omega⟩
    have hig:t.grip[i]? = some (gripZ t st):=by have:=hF.ig;rw [hi] at this ⊢;simpa using this
    have HLV:=Z (show ∀wx,Below W1.heap.size W1 wx→Calls Tryz.prog 51 #[.agg #[O U t.mass,O U t.len,O U t.speed,O U t.effort,O U t.brake,O U t.power,O U t.resist,O U t.rise,O U t.back,.slice A n c],O U st,O U sl] wx _ from fun wx h=>level_any A c n t st sl (gripZ t st) i wx hF.ok HNL.out hi hig (HS.out wx h))
    have HF:=Z hF;have HY:=Z hyy
    have ha:=(adh_bd hF.ok hF.g0 hF.g1).1
    have HA:=Z ha
    clear hbb hF hyy hi hig ha
    go_upto_region 3 with (fail)
    have hbq:Below W1.heap.size W1 w4.drew:=HX4.out.drew
    have HS2:=Z HS.out
    clear HS
    have HS:=Z (HQ.out _ hbq)
    have HMY:=Z (And.intro HF.out.m0 (And.intro HF.out.m1 HF.out.y0))
    have HYD:=Z (show 0≤y / (10 * t.mass) from Int.ediv_nonneg HF.out.y0 (by have:=HF.out.ok.m1;omega))
    clear HX4 e0 e1 e2 e3 e4 e5 e6 e7 e8 e9 f0 f1
    refine wp_region_held_drew (S:=fun wx=>Rw wx w.heap.size 24 #[O U t.mass,O U t.len,O U t.speed,O U t.effort,O U t.brake,O U t.power,O U t.resist,O U t.rise,O U t.back,.slice A n c]∧Rw wx (w.heap.size+1) 35 #[O U m,O U y]) (by kernel_rfl) HS.out (fun _=> ?_)
    refine hTk (i:=0) (d:=29) (v:= .agg #[O U t.mass,O U t.len,O U t.speed,O U t.effort,O U t.brake,O U t.power,O U t.resist,O U t.rise,O U t.back,.slice A n c]) rfl rfl (Or.inl ⟨rfl,by rintro W' ⟨s0,s1⟩;have y0:=s0.cell 0;have y1:=s0.cell 1;have y2:=s0.cell 2;have y3:=s0.cell 3;have y4:=s0.cell 4;have y5:=s0.cell 5;have y6:=s0.cell 6;have y7:=s0.cell 7;have y8:=s0.cell 8;have y9:=s0.cell 9;have z0:=s1.cell 0;have z1:=s1.cell 1;go_simp⟩) HS.out ?_
    simp only [Act.put,sB,sZ,sS]
    refine hTk (i:=1) (d:=30) (v:=O U st) rfl rfl (Or.inl ⟨rfl,by rintro W' ⟨s0,s1⟩;have y0:=s0.cell 0;have y1:=s0.cell 1;have y2:=s0.cell 2;have y3:=s0.cell 3;have y4:=s0.cell 4;have y5:=s0.cell 5;have y6:=s0.cell 6;have y7:=s0.cell 7;have y8:=s0.cell 8;have y9:=s0.cell 9;have z0:=s1.cell 0;have z1:=s1.cell 1;go_simp⟩) HS.out ?_
    simp only [Act.put,sB,sZ,sS]
    refine hTk (i:=2) (d:=31) (v:=O U sl) rfl rfl (Or.inl ⟨rfl,by rintro W' ⟨s0,s1⟩;have y0:=s0.cell 0;have y1:=s0.cell 1;have y2:=s0.cell 2;have y3:=s0.cell 3;have y4:=s0.cell 4;have y5:=s0.cell 5;have y6:=s0.cell 6;have y7:=s0.cell 7;have y8:=s0.cell 8;have y9:=s0.cell 9;have z0:=s1.cell 0;have z1:=s1.cell 1;go_simp⟩) HS.out ?_
    simp only [Act.put,sB,sZ,sS]
    refine hTk (i:=4) (d:=33) (v:= .agg #[O U m,O U y]) rfl rfl (Or.inl ⟨rfl,by rintro W' ⟨s0,s1⟩;have y0:=s0.cell 0;have y1:=s0.cell 1;have y2:=s0.cell 2;have y3:=s0.cell 3;have y4:=s0.cell 4;have y5:=s0.cell 5;have y6:=s0.cell 6;have y7:=s0.cell 7;have y8:=s0.cell 8;have y9:=s0.cell 9;have z0:=s1.cell 0;have z1:=s1.cell 1;go_simp⟩) HS.out ?_
    simp only [Act.put,sB,sZ,sS]
    refine hTk (i:=5) (d:=34) (v:= .agg #[O U m,O U y,O U 0]) rfl rfl (Or.inl ⟨rfl,by rintro W' ⟨s0,s1⟩;have y0:=s0.cell 0;have y1:=s0.cell 1;have y2:=s0.cell 2;have y3:=s0.cell 3;have y4:=s0.cell 4;have y5:=s0.cell 5;have y6:=s0.cell 6;have y7:=s0.cell 7;have y8:=s0.cell 8;have y9:=s0.cell 9;have z0:=s1.cell 0;have z1:=s1.cell 1;go_simp⟩) HS.out ?_
    simp only [Act.put,sB,sZ,sS]
    refine wpAnyH_ready (rs:= [3]) (by kernel_rfl) (by simp) ?_
    refine AllReadyH.cons rfl (fun K hK=> ?_) AllReadyH.nil
    rw [if_pos (by rfl)]
    go_simp
    go_at_call 51
    (with_reducible refine (HLV.out _ hbq).mono ?_)
    rintro e w5 ⟨r,k,Az,nz,cz,rfl,hr1,hk1,hRA,hbn⟩
    replace hbq:=hbq.trans (hbn.mono hbq.size)
    have HRA:=Z hRA
    clear hbn hr1 hk1 hRA
    have HS:=Z (HQ.out _ hbq)
    refine hK.out _ _ HS.out (fun _=> ?_)
    clear hK K
    try simp only [Act.put,sB,sZ,sS]
    refine wpAnyH_ready (rs:= [6]) (by kernel_rfl) (by simp) ?_
    refine AllReadyH.cons rfl (fun K hK=> ?_) AllReadyH.nil
    rw [if_pos (by rfl)]
    go_simp
    go_at_call 52
    have hbk:Calls Tryz.prog 52 #[.pointer (some ⟨r,0,none⟩),.agg #[O U m,O U y,O U 0]] w5 (fun e w'=>(∃last:Pt,(ptsL t (adhZ t (gripZ t st)) [⟨0,sl,0⟩] 36000 ⟨m,y,0⟩).getLast? = some last∧e= .returned (.tuple #[O U (last.y / (10 * t.mass) - y / (10 * t.mass)),.bool (decide (last.m=0))]))∧Below w5.heap.size w5 w'):=braking_any r k t (adhZ t (gripZ t st)) A n c Az nz cz [⟨0,sl,0⟩] ⟨m,y,0⟩ _ HRA.out (HRA.out.zlt (by simp)) HF.out.ok HA.out (zone_ok HF.out.s0 HF.out.s1) ⟨HF.out.m0,HF.out.m1,HF.out.y0,by have:=HY.out;show y≤_;omega,by simp⟩ (by have:=HY.out;show y≤_;omega)
    (with_reducible refine (hbk).mono ?_)
    rintro e w6 ⟨⟨l,hl,rfl⟩,hbn⟩
    replace hbq:=hbq.trans (hbn.mono hbq.size)
    have HL:=Z hl
    clear hbn hl hbk
    have HS:=Z (HQ.out _ hbq)
    refine hK.out _ _ HS.out (fun _=> ?_)
    clear hK K
    try simp only [Act.put,sB,sZ,sS]
    refine hTk (i:=7) (d:=28) (v:= .tuple #[O U (l.y / (10 * t.mass) - y / (10 * t.mass)),.bool (decide (l.m=0))]) rfl rfl (Or.inl ⟨rfl,by rintro W' ⟨s0,s1⟩;have y0:=s0.cell 0;have y1:=s0.cell 1;have y2:=s0.cell 2;have y3:=s0.cell 3;have y4:=s0.cell 4;have y5:=s0.cell 5;have y6:=s0.cell 6;have y7:=s0.cell 7;have y8:=s0.cell 8;have y9:=s0.cell 9;have z0:=s1.cell 0;have z1:=s1.cell 1;go_simp⟩) HS.out ?_
    simp only [Act.put,sB,sZ,sS]
    refine hTk (i:=8) (d:=36) (v:=O U (l.y / (10 * t.mass) - y / (10 * t.mass))) rfl rfl (Or.inl ⟨rfl,by rintro W' ⟨s0,s1⟩;have y0:=s0.cell 0;have y1:=s0.cell 1;have y2:=s0.cell 2;have y3:=s0.cell 3;have y4:=s0.cell 4;have y5:=s0.cell 5;have y6:=s0.cell 6;have y7:=s0.cell 7;have y8:=s0.cell 8;have y9:=s0.cell 9;have z0:=s1.cell 0;have z1:=s1.cell 1;go_simp⟩) HS.out ?_
    simp only [Act.put,sB,sZ,sS]
    refine hTk (i:=9) (d:=37) (v:= .bool (decide (l.m=0))) rfl rfl (Or.inl ⟨rfl,by rintro W' ⟨s0,s1⟩;have y0:=s0.cell 0;have y1:=s0.cell 1;have y2:=s0.cell 2;have y3:=s0.cell 3;have y4:=s0.cell 4;have y5:=s0.cell 5;have y6:=s0.cell 6;have y7:=s0.cell 7;have y8:=s0.cell 8;have y9:=s0.cell 9;have z0:=s1.cell 0;have z1:=s1.cell 1;go_simp⟩) HS.out ?_
    simp only [Act.put,sB,sZ,sS]
    refine hTk (i:=10) (d:=10) (v:=O U (l.y / (10 * t.mass) - y / (10 * t.mass))) rfl rfl (Or.inl ⟨rfl,by rintro W' ⟨s0,s1⟩;have y0:=s0.cell 0;have y1:=s0.cell 1;have y2:=s0.cell 2;have y3:=s0.cell 3;have y4:=s0.cell 4;have y5:=s0.cell 5;have y6:=s0.cell 6;have y7:=s0.cell 7;have y8:=s0.cell 8;have y9:=s0.cell 9;have z0:=s1.cell 0;have z1:=s1.cell 1;go_simp⟩) HS.out ?_
    simp only [Act.put,sB,sZ,sS]
    refine hTk (i:=11) (d:=11) (v:= .bool (decide (l.m=0))) rfl rfl (Or.inl ⟨rfl,by rintro W' ⟨s0,s1⟩;have y0:=s0.cell 0;have y1:=s0.cell 1;have y2:=s0.cell 2;have y3:=s0.cell 3;have y4:=s0.cell 4;have y5:=s0.cell 5;have y6:=s0.cell 6;have y7:=s0.cell 7;have y8:=s0.cell 8;have y9:=s0.cell 9;have z0:=s1.cell 0;have z1:=s1.cell 1;go_simp⟩) HS.out ?_
    simp only [Act.put,sB,sZ,sS]
    refine wpAnyH_done (by kernel_rfl) ?_ _
    have HBQ:=Z hbq
    clear hbq HS
    obtain⟨l2,hl2,hbw⟩:=brakeW_pts t sl st 36000 m y HMY.out.1
    have hll:l2=l:=Option.some.inj (hl2.symm.trans HL.out)
    rw [hll] at hbw
    obtain⟨D,hD⟩:∃D,l.y / (10 * t.mass) - y / (10 * t.mass)=D:=⟨_,rfl⟩
    rw [hD]
    by_cases hlm:l.m=0
    ·rw [if_pos hlm] at hbw
     have HEE:=Z (show brkR t m y sl st=D∧brkE t m y sl st=0 from⟨by rw [HE0.out.1,hbw,←hD];rfl,by rw [HE0.out.2,hbw];rfl⟩)
     rw [show decide (l.m=0)=true from decide_eq_true hlm]
     clear hl2 hbw hll hD hlm
     go_wp2
     (try simp only [Exit.inBlock,Exit.then])
     exact bodyPost_ret (results_tmp2 rfl _ _ _) rfl ⟨by rw [HEE.out.1,HEE.out.2];rfl,HB1.out.trans (HBQ.out.mono HB1.out.size)⟩
    ·rw [if_neg hlm] at hbw
     have HEE:=Z (show brkR t m y sl st=0∧brkE t m y sl st=4 from⟨by rw [HE0.out.1,hbw];rfl,by rw [HE0.out.2,hbw];rfl⟩)
     rw [show decide (l.m=0)=false from decide_eq_false hlm]
     clear hl2 hbw hll hD hlm
     go_wp2
     (try simp only [Exit.inBlock,Exit.then])
     exact bodyPost_ret (results_tmp2 rfl _ _ _) rfl ⟨by rw [HEE.out.1,HEE.out.2];rfl,HB1.out.trans (HBQ.out.mono HB1.out.size)⟩
open Go.RowKit Go.Shelf Go.Lib Go.BigFrame
attribute [local go_sem] Oper.semAt_some
def Mks (B:Nat) (ds:List Deferred) (W:World):Prop:=
 ∃Ds:List Nat,ds=Ds.map (fun D=>{target:= .collected D,args:=#[]})∧Ds.Nodup∧∀D∈Ds,B≤D∧W.heap[D]? = some (.deferred (some []))
theorem Mks.nil (B:Nat) (W:World):Mks B [] W:=⟨[],rfl,List.nodup_nil,fun _ h=>by cases h⟩
theorem Mks.keep {B:Nat} {ds:List Deferred} {W W':World} (h:Mks B ds W) (hk:∀D:Nat,W.heap[D]? = some (.deferred (some []))→W'.heap[D]? = some (.deferred (some []))):Mks B ds W':=by
 obtain⟨Ds,e,hn,h⟩:=h
 exact⟨Ds,e,hn,fun D hD=>⟨(h D hD).1,hk D (h D hD).2⟩⟩
theorem Mks.below {B:Nat} {ds:List Deferred} {W W':World} (h:Mks B ds W) (hb:Below W.heap.size W W'):Mks B ds W':=h.keep fun D hD=>(hb.block D (Array.getElem?_eq_some_iff.1 hD).1).trans hD
theorem Mks.more {B D:Nat} {ds:List Deferred} {W W':World} (h:Mks B ds W) (hk:∀D:Nat,W.heap[D]? = some (.deferred (some []))→W'.heap[D]? = some (.deferred (some []))) (hD:W.heap.size≤D) (hB:B≤D) (hd:W'.heap[D]? = some (.deferred (some []))) :
  Mks B ({target:= .collected D,args:=#[]} :: ds) W':=by
 obtain⟨Ds,rfl,hn,h⟩:=h
 refine⟨D :: Ds,rfl,List.nodup_cons.2 ⟨fun hm=> ?_,hn⟩,fun E hE=> ?_⟩
 ·have:=(Array.getElem?_eq_some_iff.1 (h D hm).2).1;omega
 ·rcases List.mem_cons.1 hE with rfl|hE
  ·exact⟨hB,hd⟩
  ·exact⟨(h E hE).1,hk E (h E hE).2⟩
theorem leaves_all {P:Program} {fn:Func} {tmps:Array Value} {R:Ending→World→Prop} {F:Fence} {n B:Nat} {ds:List Deferred} {W w:World} {v:Value} (h:Mks B ds W) (hw:Below B w W) (hr:∀W',(results fn tmps).run P W'= .ok v W') (hR:∀W',Below B W W'→Below B w W'→R (.returned v) W'):LeavesInM F n P fn tmps R ds .returning W:=by
 obtain⟨Ds,rfl,hn,h⟩:=h
 refine leaves_mks Ds W hn (fun D hD=>(h D hD).2) fun W' hb hs h1 h2 h3=>⟨v,hr W', ?_⟩
 have hb2:Below B W W':=⟨h1,h2,h3,by omega,fun k hk=>hb k fun D hD e=>by have:=(h D hD).1;omega⟩
 exact hR W' hb2 (hw.trans hb2)
def byd (t:Tr) (s:Int) (x:Pt):Bool:=decide ((s+1) * (10 * t.mass)≤x.y)
theorem pts_le {t:Tr} {a:Int} {zs:List Zn}:∀(n:Nat) (x l:Pt),(ptsL t a zs n x).getLast? = some l→∀p∈ptsL t a zs n x,x.y≤p.y∧p.y≤l.y:=by
 intro n
 induction n with
 | zero=>
  intro x l hl p hp
  simp [ptsL] at hl hp
  subst hl;subst hp
  omega
 | succ n ih=>
  intro x l hl p hp
  by_cases h:x.m≠0∧brkM t a zs x≤25000 * t.mass
  ·rw [ptsL_more h.1 h.2] at hl hp
   obtain⟨r,hr⟩:=ptsL_cons t a zs n (movP t zs x (brkM t a zs x))
   have hl':(ptsL t a zs n (movP t zs x (brkM t a zs x))).getLast? = some l:=by
    rw [hr] at hl ⊢
    rw [List.getLast?_cons_cons] at hl
    exact hl
   have hq:0≤brkM t a zs x:=by unfold brkM afterZ;omega
   have h0:=ih _ l hl' (movP t zs x (brkM t a zs x)) (by rw [hr];simp)
   have hmy:(movP t zs x (brkM t a zs x)).y=x.y+brkM t a zs x:=rfl
   rcases List.mem_cons.1 hp with rfl|hp
   ·omega
   ·have:=ih _ l hl' p hp
    omega
  ·have h':x.m=0∨¬brkM t a zs x≤25000 * t.mass:=by
    by_cases h0:x.m=0
    ·exact .inl h0
    ·exact .inr fun hq=>h ⟨h0,hq⟩
   rw [ptsL_rest h'] at hl hp
   simp at hl hp
   subst hl;subst hp
   omega
theorem sightOk_pts {t:Tr} {sl st dist:Int} (ht:TrOk t) (v:Nat) {l:Pt} (hl:(ptsL t (adhZ t (gripZ t st)) [⟨0,sl,0⟩] 36000 ⟨(v:Int) * t.mass,0,0⟩).getLast? = some l) :
  sightOk t sl st dist v=(decide (l.m=0) && !byd t dist l):=by
 have hm:=ht.m1
 obtain⟨l2,hl2,hb⟩:=brakeW_pts t sl st 36000 ((v:Int) * t.mass) 0 (Int.mul_nonneg (by omega) (by omega))
 obtain rfl:l=l2:=Option.some.inj (hl.symm.trans hl2)
 unfold sightOk
 rw [hb]
 by_cases h0:l.m=0
 ·rw [if_pos h0]
  have hbv:brkV t 0 (some l.y)=l.y / (10 * t.mass):=by show l.y / (10 * t.mass) - 0 / (10 * t.mass)=_;rw [Int.zero_ediv,Int.sub_zero]
  have h1:l.y / (10 * t.mass)≤dist ↔ ¬(dist+1) * (10 * t.mass)≤l.y:=by
   rw [←Int.lt_add_one_iff,Int.ediv_lt_iff_lt_mul (by omega)]
   omega
  rw [hbv,decide_eq_true h0]
  unfold byd
  by_cases h2:(dist+1) * (10 * t.mass)≤l.y
  ·rw [decide_eq_true h2,decide_eq_false (by rw [h1];exact fun h=>h h2)];rfl
  ·rw [decide_eq_false h2,decide_eq_true (h1.2 h2)];rfl
 ·rw [if_neg h0,decide_eq_false h0];rfl
theorem sight_beyond {t:Tr} {sl st dist:Int} (ht:TrOk t) (v:Nat) {p:Pt} (hp:p∈ptsL t (adhZ t (gripZ t st)) [⟨0,sl,0⟩] 36000 ⟨(v:Int) * t.mass,0,0⟩) (hb:byd t dist p=true):sightOk t sl st dist v=false:=by
 obtain⟨l,hl⟩:∃l,(ptsL t (adhZ t (gripZ t st)) [⟨0,sl,0⟩] 36000 ⟨(v:Int) * t.mass,0,0⟩).getLast? = some l:=by
  obtain⟨r,hr⟩:=ptsL_cons t (adhZ t (gripZ t st)) [⟨0,sl,0⟩] 36000 ⟨(v:Int) * t.mass,0,0⟩
  rw [hr];exact⟨_,List.getLast?_eq_some_getLast (by simp)⟩
 have h:=(pts_le 36000 _ l hl p hp).2
 rw [sightOk_pts ht v hl]
 unfold byd at hb ⊢
 have:=of_decide_eq_true hb
 rw [decide_eq_true (show (dist+1) * (10 * t.mass)≤l.y by omega)]
 simp
structure SiI (B L:Nat) (w3:World) (t:Tr) (s:Int) (l:List Pt) (W:World):Prop where
 bi:BrI B L w3 ⟨0,0,0⟩ l W
 nb:∀p∈l,byd t s p=false
theorem SiI.own {B L:Nat} {w3:World} {t:Tr} {s:Int} {β : Type} {f: β→List Pt} (hB:B≤w3.heap.size) (hL:L<B):OwnFrom w3.heap.size (fun b W=>SiI B L w3 t s (f b) W):=fun b X Y row hs hg hr=>
 ⟨BrI.own (f:=f) hB hL b X Y row hs.bi hg hr,hs.nb⟩
theorem SiI.gi {B L b2 ib:Nat} {w3 A C:World} {t:Tr} {s:Int} {l:List Pt} (h:SiI B L w3 t s l A) (hB:B≤w3.heap.size) (hL:L<B) (hg:Gi b2 ib A C) (h1:B≤b2) (h2:B≤ib):SiI B L w3 t s l C:=⟨h.bi.gi hB hL hg h1 h2,h.nb⟩
structure SiB (B L:Nat) (w3:World) (t:Tr) (s:Int) (l:List Pt) (x:Pt) (W:World):Prop where
 bi:BrI B L w3 ⟨0,0,0⟩ (l ++ [x]) W
 nb:∀p∈l,byd t s p=false
theorem SiB.own {B L:Nat} {w3:World} {t:Tr} {s:Int} {β : Type} {f: β→List Pt} {g: β→Pt} {P: β→Prop} (hB:B≤w3.heap.size) (hL:L<B):OwnFrom w3.heap.size (fun b W=>SiB B L w3 t s (f b) (g b) W∧P b):=fun b X Y row hs hg hr=>
 ⟨⟨BrI.own (f:=fun b=>f b ++ [g b]) hB hL b X Y row hs.1.bi hg hr,hs.1.nb⟩,hs.2⟩
structure SiX (B L:Nat) (w3:World) (t:Tr) (s:Int) (l:List Pt) (W:World):Prop where
 bx:BX B L w3 W
 nb:∃p∈l,byd t s p=true
theorem SiX.own {B L:Nat} {w3:World} {t:Tr} {s:Int} {β : Type} {f: β→List Pt} (hB:B≤w3.heap.size) (c:Code):OwnFrom w3.heap.size (fun b W=>c=Code.exit 1∧SiX B L w3 t s (f b) W):=fun b X Y row hs hg hr=>
 ⟨hs.1,hs.2.bx.turn hB hg (fun r e=>by have:=(hr r e).1;omega),hs.2.nb⟩
theorem SiX.gi {B L b2 ib:Nat} {w3 A C:World} {t:Tr} {s:Int} {l:List Pt} (h:SiX B L w3 t s l A) (hB:B≤w3.heap.size) (hg:Gi b2 ib A C) (h1:B≤b2) (h2:B≤ib):SiX B L w3 t s l C:=⟨h.bx.gi hB hg h1 h2,h.nb⟩
theorem BrI.below {B L:Nat} {w3 A C:World} {x:Pt} {l:List Pt} (h:BrI B L w3 x l A) (hb:Below A.heap.size A C) (hB:B≤w3.heap.size):BrI B L w3 x l C:=
 ⟨h.bx.trans (BX.of_below (hb.mono (by have:=h.bx.size;omega)) L),h.row.below hb h.row.lt⟩
theorem sightDn_no {t:Tr} {sl st dist:Int} {v:Nat} (hv:0<v) (h:sightOk t sl st dist v=false):sightDn t sl st dist v=sightDn t sl st dist (v - 1):=by
 obtain⟨k,rfl⟩:∃k,v=k+1:=⟨v - 1,by omega⟩
 rw [sightDn,h];rfl
theorem sightDn_yes {t:Tr} {sl st dist:Int} {v:Nat} (hv:0<v) (h:sightOk t sl st dist v=true):sightDn t sl st dist v=v:=by
 obtain⟨k,rfl⟩:∃k,v=k+1:=⟨v - 1,by omega⟩
 rw [sightDn,h];rfl
def FSi (r B:Nat) (dist:Int) (v:Nat) (u:Nat→Value):Array Value:=#[.pointer (some ⟨r,0,none⟩),O U dist,.pointer (some ⟨B,0,none⟩),.pointer (some ⟨B+1,0,none⟩),O U 0,O U (v:Int),u 6,u 7,u 8,u 9,u 10,u 11,u 12,u 13,u 14,u 15,u 16,u 17,u 18,u 19,u 20,u 21,u 22,u 23,u 24,u 25,u 26,u 27,u 28,u 29,u 30,u 31,u 32,u 33,u 34,u 35,u 36,u 37,u 38,u 39,u 40,u 41,u 42,u 43]
def FSj (r B L:Nat) (dist:Int) (v:Nat) (u:Nat→Value):Array Value:=#[.pointer (some ⟨r,0,none⟩),O U dist,.pointer (some ⟨B,0,none⟩),.pointer (some ⟨B+1,0,none⟩),O U 0,O U (v:Int),.pointer (some ⟨L,0,none⟩),u 7,u 8,u 9,u 10,u 11,u 12,u 13,u 14,u 15,u 16,u 17,u 18,u 19,u 20,u 21,u 22,u 23,u 24,u 25,u 26,u 27,u 28,u 29,u 30,u 31,u 32,u 33,u 34,u 35,u 36,u 37,u 38,u 39,u 40,u 41,u 42,u 43]
set_option maxRecDepth 100000 in
set_option maxHeartbeats 4000000 in
theorem sight_any (r k:Nat) (t:Tr) (sl st dist:Int) (A:Option Addr) (n c:Nat) (Az:Option Addr) (nz cz:Nat) (w:World) (hR:RunAt w r k t (adhZ t (gripZ t st)) A n c Az nz cz [⟨0,sl,0⟩]) (hf:FineOk t 0 0 (-4) sl st) (d0:0≤dist) (d1:dist≤1000000) :
  Calls Tryz.prog 55 #[.pointer (some ⟨r,0,none⟩),O U dist] w fun e w'=>e= .returned (O U (sightZ t sl st dist))∧Below w.heap.size w w':=by
 have ht:=hf.ok
 have ha:=(adh_bd ht hf.g0 hf.g1).1
 have hzo:=zone_ok hf.s0 hf.s1
 have hAz:=hR.zlt (by simp)
 have hb1:=((Below.refl w.heap.size w).alloc (Nat.le_refl _) (.cells #[.pointer (some ⟨r,0,none⟩)] 98)).alloc (by simp) (.cells #[O U dist] 3)
 obtain⟨q1,q2⟩:=rows2 w #[.pointer (some ⟨r,0,none⟩)] #[O U dist] 98 3
 have hR1:=hR.below hb1
 have hz1:((w.alloc (.cells #[.pointer (some ⟨r,0,none⟩)] 98)).alloc (.cells #[O U dist] 3)).heap.size=w.heap.size+2:=by simp
 obtain⟨W1,hW1⟩:∃z,(w.alloc (.cells #[.pointer (some ⟨r,0,none⟩)] 98)).alloc (.cells #[O U dist] 3)=z:=⟨_,rfl⟩
 rw [hW1] at hb1 q1 q2 hR1 hz1
 obtain⟨B,hB⟩:∃B,w.heap.size=B:=⟨_,rfl⟩
 have hlt:r<B∧k<B:=⟨by rw [←hB];exact hR.r.lt,by rw [←hB];exact hR.e.lt⟩
 rw [hB] at hb1 q1 q2 hz1 hAz
 have HB1:=Z hb1;have HQ1:=Z q1;have HQ2:=Z q2;have HR1:=Z hR1;have HZ1:=Z hz1;have HLT:=Z hlt
 have HBE:=Z hB
 have e0:=q1.cell 0;have k0:=hR1.r.cell 0;have s2:=hR1.e.cell 2
 have g1:1≤t.speed∧t.speed≤25000:=⟨ht.v1,ht.v2⟩
 have HSP:=Z g1
 clear hb1 q1 q2 hz1 hR hR1 hlt
 obtain⟨V,hV⟩:∃V:Nat,t.speed=(V:Int):=⟨t.speed.toNat,by omega⟩
 have HVE:=Z hV
 have hsz:sightZ t sl st dist=sightDn t sl st dist V:=by unfold sightZ;rw [hV];rfl
 rw [hsz]
 rw [hV] at g1 s2
 clear hsz hV
 refine (callsIn_wide (n:=8)).1 ?_
 refine callsIn_of_wp_marks Tryz.func55 rfl trivial ?_ rfl
 simp only [Tryz.ntmps55,List.size_toArray,List.length_cons,List.length_nil,Nat.reduceAdd,Nat.reduceSub,Array.replicate_succ,Array.replicate_zero,List.push_toArray,List.append_toArray,List.nil_append,List.cons_append]
 gi_wp2
 refine wpIn_wide.2 ?_
 apply wp_scope_straight
 refine (wpIn_wide (n:=8)).1 ?_
 gi_wp2
 refine wpIn_wide.2 ?_
 apply wp_label
 gi_wp2
 clear e0 k0 s2
 refine wpIn_loop (fun a W=>∃(ds:List Deferred) (v:Nat),a={tmps:=FSi r B dist v (fun i=>a.tmps.getD i undef),defers:=ds}∧v≤V∧sightDn t sl st dist V=sightDn t sl st dist v∧Mks (B+2) ds W∧Below (B+2) W1 W) (fun a _=>(intOf (a.tmps.getD 5 undef)).toNat) ?atStart ?round
 case atStart=>exact⟨[],V,rfl,Nat.le_refl _,rfl,Mks.nil _ _,Below.refl _ _⟩
 case round=>
  rintro a W ⟨ds,v,ha,hv,hsv,hmk,hbw⟩
  obtain⟨u,rfl⟩:∃u,a={tmps:=FSi r B dist v u,defers:=ds}:=⟨_,ha⟩
  clear ha
  simp only [FSi]
  have hz1:=HZ1.out
  have hR2:RunAt W r k t (adhZ t (gripZ t st)) A n c Az nz cz [⟨0,sl,0⟩]:=HR1.out.below (hz1 ▸ hbw)
  have hp1:=HQ1.out.below hbw (by omega)
  have hp2:=HQ2.out.below hbw (by omega)
  have HW:=Z hbw;have HM:=Z hmk;have HSV:=Z hsv;have HRW:=Z hR2
  have HP1:=Z hp1;have HP2:=Z hp2
  clear hbw hmk hsv hz1
  rcases Nat.eq_zero_or_pos v with hv0|hv0
  ·subst hv0
   gi_wp2
   (try simp only [Exit.inBlock,Exit.then])
   (try rw [Exit.noGoto_ret])
   exact leaves_all HM.out HW.out (fun W'=>results_tmp rfl _ _ _) (fun W' h1 h2=>⟨by rw [HSV.out];rfl,by rw [HBE.out];exact HB1.out.trans (h2.mono (by omega))⟩)
  ·have hvi:(0:Int)<(v:Int):=by omega
   gi_wp2
   have hz2:(W.alloc (.cells #[O U 0,O U 0,O U 0] 102)).heap.size=W.heap.size+1:=by simp
   have hq3:=Rw.new W #[O U 0,O U 0,O U 0] 102
   have hba:=(Below.refl W.heap.size W).alloc (Nat.le_refl _) (.cells #[O U 0,O U 0,O U 0] 102)
   obtain⟨W5,hW5⟩:∃z,W.alloc (.cells #[O U 0,O U 0,O U 0] 102)=z:=⟨_,rfl⟩
   rw [hW5] at hz2 hq3 hba ⊢
   obtain⟨L,hL⟩:∃z,W.heap.size=z:=⟨_,rfl⟩
   have hBL:B+2≤L:=by have:=HW.out.size;have:=HZ1.out;omega
   have HK5:=Z (show ∀wx,Below W5.heap.size W5 wx→Rw wx B 98 #[.pointer (some ⟨r,0,none⟩)]∧Rw wx (B+1) 3 #[O U dist]∧Rw wx L 102 #[O U 0,O U 0,O U 0]∧RunAt wx r k t (adhZ t (gripZ t st)) A n c Az nz cz [⟨0,sl,0⟩] from fun wx h=>
    ⟨(HP1.out.below hba (by omega)).below h (by omega),(HP2.out.below hba (by omega)).below h (by omega),by rw [←hL];exact hq3.below h (by omega),(HRW.out.below hba).below h⟩)
   have HLL:=Z (show W.heap.size=L∧W5.heap.size=L+1 from⟨hL,by omega⟩)
   have HBA:=Z hba
   rw [hL]
   clear hW5 hz2 hq3 hba hL
   have hm1:=ht.m1;have hm2:=ht.m2
   have hxm:0≤(v:Int) * t.mass∧(v:Int) * t.mass≤25000 * t.mass:=⟨Int.mul_nonneg (by omega) (by omega),Int.mul_le_mul_of_nonneg_right (by omega) (by omega)⟩
   obtain⟨xm,hxme⟩:∃z,(v:Int) * t.mass=z:=⟨_,rfl⟩
   rw [hxme] at hxm
   have hwx:IntKind.i64.wrap ((v:Int) * t.mass)=xm:=by rw [hxme,IntKind.wrap_i64];omega
   have hwx2:IntKind.i64.wrap xm=xm:=by rw [IntKind.wrap_i64];omega
   have HXM:=Z hxme
   have HXB:=Z hxm
   refine wpIn_wide.2 ?_
   have hbq:Below W5.heap.size W5 W5.drew:=(Below.refl _ _).drew
   have HS:=Z (show Rw W5.drew B 98 #[.pointer (some ⟨r,0,none⟩)]∧Rw W5.drew r 147 #[.pointer (some ⟨k,0,none⟩),O U (10 * t.mass),.slice Az nz cz]∧Rw W5.drew k 139 #[O U t.mass,O U t.len,O U t.speed,O U t.effort,O U t.brake,O U t.power,O U t.resist,O U t.rise,O U t.back,.slice A n c,O U (adhZ t (gripZ t st)),.func (.func 74) #[.pointer (some ⟨k,0,none⟩)] #[],.func (.func 75) #[.pointer (some ⟨k,0,none⟩)] #[],.func (.func 76) #[.pointer (some ⟨k,0,none⟩)] #[],.func (.func 77) #[.pointer (some ⟨k,0,none⟩)] #[]] from⟨(HK5.out _ hbq).1,(HK5.out _ hbq).2.2.2.r,(HK5.out _ hbq).2.2.2.e⟩)
   refine wp_region_noPanic ?_
   refine wp_region_held_drew (S:=fun wx=>Rw wx B 98 #[.pointer (some ⟨r,0,none⟩)]∧Rw wx r 147 #[.pointer (some ⟨k,0,none⟩),O U (10 * t.mass),.slice Az nz cz]∧Rw wx k 139 #[O U t.mass,O U t.len,O U t.speed,O U t.effort,O U t.brake,O U t.power,O U t.resist,O U t.rise,O U t.back,.slice A n c,O U (adhZ t (gripZ t st)),.func (.func 74) #[.pointer (some ⟨k,0,none⟩)] #[],.func (.func 75) #[.pointer (some ⟨k,0,none⟩)] #[],.func (.func 76) #[.pointer (some ⟨k,0,none⟩)] #[],.func (.func 77) #[.pointer (some ⟨k,0,none⟩)] #[]]) (by kernel_rfl) HS.out (fun _=> ?_)
   refine hTk (i:=0) (d:=20) (v:= .pointer (some ⟨r,0,none⟩)) rfl rfl (Or.inl ⟨rfl,by rintro W' ⟨s0,s1,s2⟩;have y0:=s0.cell 0;have z0:=s1.cell 0;have k0:=s2.cell 0;go_simp⟩) HS.out ?_
   simp only [Act.put,sB,sZ,sS]
   refine hTk (i:=1) (d:=21) (v:=O U (v:Int)) rfl rfl (Or.inl ⟨rfl,by rintro W' ⟨s0,s1,s2⟩;have y0:=s0.cell 0;have z0:=s1.cell 0;have k0:=s2.cell 0;go_simp⟩) HS.out ?_
   simp only [Act.put,sB,sZ,sS]
   refine hTk (i:=2) (d:=22) (v:= .pointer (some ⟨r,0,none⟩)) rfl rfl (Or.inl ⟨rfl,by rintro W' ⟨s0,s1,s2⟩;have y0:=s0.cell 0;have z0:=s1.cell 0;have k0:=s2.cell 0;go_simp⟩) HS.out ?_
   simp only [Act.put,sB,sZ,sS]
   refine hTk (i:=3) (d:=23) (v:= .pointer (some ⟨r,0,none⟩)) rfl rfl (Or.inl ⟨rfl,by rintro W' ⟨s0,s1,s2⟩;have y0:=s0.cell 0;have z0:=s1.cell 0;have k0:=s2.cell 0;go_simp⟩) HS.out ?_
   simp only [Act.put,sB,sZ,sS]
   refine hTk (i:=4) (d:=24) (v:= .pointer (some ⟨r,0,none⟩)) rfl rfl (Or.inl ⟨rfl,by rintro W' ⟨s0,s1,s2⟩;have y0:=s0.cell 0;have z0:=s1.cell 0;have k0:=s2.cell 0;go_simp⟩) HS.out ?_
   simp only [Act.put,sB,sZ,sS]
   refine hTk (i:=5) (d:=25) (v:= .pointer (some ⟨k,0,none⟩)) rfl rfl (Or.inl ⟨rfl,by rintro W' ⟨s0,s1,s2⟩;have y0:=s0.cell 0;have z0:=s1.cell 0;have k0:=s2.cell 0;go_simp⟩) HS.out ?_
   simp only [Act.put,sB,sZ,sS]
   refine hTk (i:=6) (d:=26) (v:= .pointer (some ⟨k,0,none⟩)) rfl rfl (Or.inl ⟨rfl,by rintro W' ⟨s0,s1,s2⟩;have y0:=s0.cell 0;have z0:=s1.cell 0;have k0:=s2.cell 0;go_simp⟩) HS.out ?_
   simp only [Act.put,sB,sZ,sS]
   refine hTk (i:=7) (d:=27) (v:= .pointer (some ⟨k,0,none⟩)) rfl rfl (Or.inl ⟨rfl,by rintro W' ⟨s0,s1,s2⟩;have y0:=s0.cell 0;have z0:=s1.cell 0;have k0:=s2.cell 0;go_simp⟩) HS.out ?_
   simp only [Act.put,sB,sZ,sS]
   refine hTk (i:=8) (d:=28) (v:= .pointer (some ⟨k,0,none⟩)) rfl rfl (Or.inl ⟨rfl,by rintro W' ⟨s0,s1,s2⟩;have y0:=s0.cell 0;have z0:=s1.cell 0;have k0:=s2.cell 0;go_simp⟩) HS.out ?_
   simp only [Act.put,sB,sZ,sS]
   refine hTk (i:=9) (d:=29) (v:=O U t.mass) rfl rfl (Or.inl ⟨rfl,by rintro W' ⟨s0,s1,s2⟩;have y0:=s0.cell 0;have z0:=s1.cell 0;have k0:=s2.cell 0;go_simp⟩) HS.out ?_
   simp only [Act.put,sB,sZ,sS]
   refine hTk (i:=10) (d:=30) (v:=O U xm) rfl rfl (Or.inl ⟨rfl,by rintro W' ⟨s0,s1,s2⟩;have y0:=s0.cell 0;have z0:=s1.cell 0;have k0:=s2.cell 0;go_simp⟩) HS.out ?_
   simp only [Act.put,sB,sZ,sS]
   refine hTk (i:=11) (d:=31) (v:= .agg #[O U xm,O U 0]) rfl rfl (Or.inl ⟨rfl,by rintro W' ⟨s0,s1,s2⟩;have y0:=s0.cell 0;have z0:=s1.cell 0;have k0:=s2.cell 0;go_simp⟩) HS.out ?_
   simp only [Act.put,sB,sZ,sS]
   refine hTk (i:=12) (d:=32) (v:= .agg #[O U xm,O U 0,O U 0]) rfl rfl (Or.inl ⟨rfl,by rintro W' ⟨s0,s1,s2⟩;have y0:=s0.cell 0;have z0:=s1.cell 0;have k0:=s2.cell 0;go_simp⟩) HS.out ?_
   simp only [Act.put,sB,sZ,sS]
   refine wpAnyH_ready (rs:= [13]) (by kernel_rfl) (by simp) ?_
   refine AllReadyH.cons rfl (fun K hK=> ?_) AllReadyH.nil
   rw [if_pos (by rfl)]
   go_simp
   go_at_call 78
   have hst:Calls Tryz.prog 78 #[.pointer (some ⟨r,0,none⟩),.agg #[O U xm,O U 0,O U 0]] W5.drew (fun e w'=>e= .returned (.func (.func 102) #[] #[.pointer (some ⟨W5.drew.heap.size,0,none⟩),.pointer (some ⟨W5.drew.heap.size+1,0,none⟩)])∧(W5.drew.alloc (.cells #[.pointer (some ⟨r,0,none⟩)] 98)).alloc (.cells (fPt ⟨xm,0,0⟩).toArray 102)=w'):=stopping_any r ⟨xm,0,0⟩ W5.drew
   (with_reducible refine (hst).mono ?_)
   rintro e w3 ⟨rfl,hw3⟩
   have hS3:=StopAt.made (L:=L) ⟨xm,0,0⟩ (HK5.out _ hbq).2.2.2 (fun ad e=>by have:=hAz ad e;have:=HLL.out;show _<W5.heap.size;omega) (by have:=HLL.out;show _<W5.heap.size;omega) (by have:=HLT.out;omega) (by have:=HLT.out;omega) (fun ad e=>by have:=hAz ad e;omega)
   have hb3:=((Below.refl W5.drew.heap.size W5.drew).alloc (Nat.le_refl _) (.cells #[.pointer (some ⟨r,0,none⟩)] 98)).alloc (by simp) (.cells (fPt ⟨xm,0,0⟩).toArray 102)
   have hz3:((W5.drew.alloc (.cells #[.pointer (some ⟨r,0,none⟩)] 98)).alloc (.cells (fPt ⟨xm,0,0⟩).toArray 102)).heap.size=W5.heap.size+2:=by simp
   rw [hw3] at hS3 hb3 hz3
   clear hw3 hst
   replace hbq:=hbq.trans hb3
   replace hS3:StopAt L W5.heap.size (W5.heap.size+1) r k t (adhZ t (gripZ t st)) A n c Az nz cz [⟨0,sl,0⟩] ⟨xm,0,0⟩ w3:=hS3
   have HS:=Z (show Rw w3 B 98 #[.pointer (some ⟨r,0,none⟩)]∧Rw w3 r 147 #[.pointer (some ⟨k,0,none⟩),O U (10 * t.mass),.slice Az nz cz]∧Rw w3 k 139 #[O U t.mass,O U t.len,O U t.speed,O U t.effort,O U t.brake,O U t.power,O U t.resist,O U t.rise,O U t.back,.slice A n c,O U (adhZ t (gripZ t st)),.func (.func 74) #[.pointer (some ⟨k,0,none⟩)] #[],.func (.func 75) #[.pointer (some ⟨k,0,none⟩)] #[],.func (.func 76) #[.pointer (some ⟨k,0,none⟩)] #[],.func (.func 77) #[.pointer (some ⟨k,0,none⟩)] #[]] from⟨(HK5.out _ hbq).1,(HK5.out _ hbq).2.2.2.r,(HK5.out _ hbq).2.2.2.e⟩)
   refine hK.out _ _ HS.out (fun _=> ?_)
   clear hK K
   try simp only [Act.put,sB,sZ,sS]
   refine wpAnyH_done (by kernel_rfl) ?_ _
   refine NoPanic.normal ?_
   have HBQ:=Z hbq;have HS3:=Z hS3;have HZ3:=Z hz3
   have hlt3:=HLT.out
   have hll:=HLL.out
   have hL3:Rw w3 L 102 #[O U 0,O U 0,O U 0]:=(HK5.out _ hbq).2.2.1
   have hseq:=stopping_seq 7 (by omega) L W5.heap.size (W5.heap.size+1) r k t (adhZ t (gripZ t st)) A n c Az nz cz [⟨0,sl,0⟩] ⟨xm,0,0⟩ w3 hS3 ht ha hzo ⟨HXB.out.1,HXB.out.2,Int.le_refl _,by show (0:Int)≤_;omega,by simp⟩ (by show (0:Int)≤_;omega) (by omega)
   have HSQ:=Z hseq;have HL3:=Z hL3
   have HR3:=Z (show Rw w3 B 98 #[.pointer (some ⟨r,0,none⟩)]∧Rw w3 (B+1) 3 #[O U dist]∧RunAt w3 r k t (adhZ t (gripZ t st)) A n c Az nz cz [⟨0,sl,0⟩] from⟨(HK5.out _ hbq).1,(HK5.out _ hbq).2.1,(HK5.out _ hbq).2.2.2⟩)
   have HAZ:=Z hAz
   have HBL:=Z hBL
   have HVV:=Z (show v≤V∧0<v from⟨hv,hv0⟩)
   have HFF:=Z (show ∀(W':World) (d:Nat),BX W5.heap.size L w3 W'→d=w3.heap.size→W'.heap[d]? = some (.deferred (some []))→Mks (B+2) ({target:= .collected d,args:=#[]} :: ds) W'∧Below (B+2) W1 W' from fun W' d hbx hd hdef=>by
    have hwl:=hll.1
    have hb5:=HBA.out
    rw [hwl] at hb5
    have hbl:Below L W w3:=hb5.trans (hbq.mono (by omega))
    have hbl2:Below L W W':=hbl.trans (hbx.below (Nat.le_refl _) (by omega))
    exact⟨HM.out.more (fun D hD=>by
      have hlt:=(Array.getElem?_eq_some_iff.1 hD).1
      exact (hbl2.block D (by omega)).trans hD) (by omega) (by omega) hdef,HW.out.trans (hbl2.mono (by omega))⟩)
   clear hbq hS3 hz3 hb3 HS hseq hL3 hwx hwx2 hlt3 hll hBL
   gi_wp2
   have hll:=HLL.out;have hlt3:=HLT.out;have hBL:=HBL.out;have hz3:=HZ3.out
   refine wpIn_rangeX (α:={x:Pt // PtOk t [⟨0,sl,0⟩] x}) (w0:=w3) (Kp:=KF (· = L)) (b2:=W5.heap.size+1) (S:=fun xs=>xs.map (·.1)=ptsL t (adhZ t (gripZ t st)) [⟨0,sl,0⟩] 36000 ⟨xm,0,0⟩) (Sp:=fun pre=>pre≠ []∧∃s,pre.map (·.1) ++ s=ptsL t (adhZ t (gripZ t st)) [⟨0,sl,0⟩] 36000 ⟨xm,0,0⟩) (N:=36001) (gf:=102) (lb:=#[.pointer (some ⟨W5.heap.size,0,none⟩),.pointer (some ⟨W5.heap.size+1,0,none⟩)]) rfl (by omega) rfl trivial (enters_of Tryz.func102 (by kernel_rfl) rfl) HSQ.out (fun h k=>KF.trans h k) KF.put (Below.refl _ _) (by omega) (fun _=>rfl)
    (fun pre W=>SiI W5.heap.size L w3 t dist (vals pre) W) (fun c pre W=>c=Code.exit 1∧SiX W5.heap.size L w3 t dist (vals pre) W) (SiI.own (by omega) (by omega)) (fun c=>SiX.own (by omega) c) (fun s _ _ h hg=>SiI.gi (l:=vals s) h (by omega) (by omega) hg (by omega) (by omega)) (fun c s _ _ h hg=>⟨h.1,SiX.gi (l:=vals s) h.2 (by omega) hg (by omega) (by omega)⟩) ⟨⟨BX.refl _ _ _,HL3.out⟩,by simp [vals]⟩
    (fun p W=>SiB W5.heap.size L w3 t dist (vals p.1) p.2.1.1 W∧p.2.2={tmps:=FSj r B L dist v (fun i=>p.2.2.tmps.getD i undef),defers:= []}) (SiB.own (β:=List {x:Pt // PtOk t [⟨0,sl,0⟩] x} × {x:Pt // PtOk t [⟨0,sl,0⟩] x} × Act) (f:=fun p=>vals p.1) (g:=fun p=>p.2.1.1) (by omega) (by omega)) ?assign ?body ?done ?stop
   case assign=>
    intro l pre X W K hI hlen hK
    obtain⟨y,hy⟩:∃y,X.1=y:=⟨_,rfl⟩
    have f0:=hI.bi.row.frozen 0;have f1:=hI.bi.row.frozen 1;have f2:=hI.bi.row.frozen 2
    have c0:=hI.bi.row.cell 0;have c1:=hI.bi.row.cell 1;have c2:=hI.bi.row.cell 2
    simp only [fPt] at c0 c1 c2
    have HI:=Z hI;have HK:=Z hK
    clear hI hK hll hlt3 hBL hz3
    rw [hy]
    gi_wp2
    have hp:=HI.out.bi.put y
    exact HK.out _ _ hp.1 hp.2.1 ⟨⟨by rw [hy];exact hp.2.2,HI.out.nb⟩,rfl⟩
   case body=>
    rintro l pre X a1 W ⟨hb,ha⟩ hlen
    replace ha:a1={tmps:=FSj r B L dist v (fun i=>a1.tmps.getD i undef),defers:= []}:=ha
    replace hb:SiB W5.heap.size L w3 t dist (vals pre) X.1 W:=hb
    obtain⟨u2,rfl⟩:∃u2,a1={tmps:=FSj r B L dist v u2,defers:= []}:=⟨_,ha⟩
    clear ha
    obtain⟨y,hy⟩:∃y,X.1=y:=⟨_,rfl⟩
    have hyo:=X.2
    rw [hy] at hb hyo
    have hbx:=hb.bi.bx
    have hrow:=hb.bi.row
    rw [lastP_snoc] at hrow
    have hRW:RunAt W r k t (adhZ t (gripZ t st)) A n c Az nz cz [⟨0,sl,0⟩]:=hbx.run HR3.out.2.2 ⟨by omega,by omega⟩ ⟨by omega,by omega⟩ (fun ad e=>by have:=HAZ.out ad e;omega)
    have hp1:=hbx.row HR3.out.1 (by omega) (by omega)
    have hp2:=hbx.row HR3.out.2.1 (by omega) (by omega)
    have HBY:=Z (beyond_any W r k t (adhZ t (gripZ t st)) A n c Az nz cz [⟨0,sl,0⟩] y.m y.y (y.z:Int) dist hRW ht (by omega) (by omega))
    have g0:=hp1.cell 0;have g1:=hp2.cell 0;have c0:=hrow.cell 0;have c1:=hrow.cell 1;have c2:=hrow.cell 2
    simp only [fPt] at c0 c1 c2
    have HB:=Z hb;have HYE:=Z hy
    clear hb hbx hrow hRW hp1 hp2 hll hlt3 hBL hz3 hyo hy
    simp only [FSj]
    gi_wp2
    refine⟨trivial,CallsIn.mono (CallsIn.inRound l (callsIn_wide.2 HBY.out)) ?_⟩
    rintro e w8 ⟨rfl,hb8⟩
    have hll:=HLL.out;have hz3:=HZ3.out
    have hbb:=HB.out.bi.below hb8 (by omega)
    have HK8:=Z (And.intro (keeps_below hb8 (Nat.le_refl _)) (KF.of_below (T:=(· = L)) hb8))
    have HB8:=Z hbb
    clear hbb hb8 g0 g1 c0 c1 c2 hll hz3
    cases hq:byd t dist y with
    | false=>
     have HQ:=Z hq
     unfold byd at hq
     rw [hq]
     clear hq
     gi_wp2
     exact⟨HK8.out.1,HK8.out.2,⟨by rw [vals_snoc,HYE.out];exact HB8.out,fun p hp=>by
      rw [vals_snoc,HYE.out] at hp
      rcases List.mem_append.1 hp with hp|hp
      ·exact HB.out.nb p hp
      ·rw [List.mem_singleton.1 hp];exact HQ.out⟩⟩
    | true=>
     have HQ:=Z hq
     unfold byd at hq
     rw [hq]
     clear hq
     gi_wp2
     exact⟨HK8.out.1,rfl,HB8.out.bx,y,by rw [vals_snoc,HYE.out];simp,HQ.out⟩
   case stop=>
    intro d c' pre W' hd hSp hIx hdef
    obtain⟨rfl,hX⟩:=hIx
    obtain⟨p,hp,hpb⟩:=hX.nb
    obtain⟨_,s',hs'⟩:=hSp
    have hno:sightOk t sl st dist v=false:=sight_beyond ht v (p:=p) (by rw [HXM.out,←hs'];exact List.mem_append_left _ hp) hpb
    have hdn:=sightDn_no HVV.out.2 hno
    have HFIN:=Z (HFF.out W' d hX.bx hd hdef)
    have hwv:IntKind.i64.wrap ((v:Int) - 1)=((v - 1:Nat):Int):=by rw [IntKind.wrap_i64];have:=HVV.out;omega
    have HDN:=Z hdn
    clear hX hll hlt3 hBL hz3 hp hpb hs' hno hdn hdef hd
    gi_wp2
    refine⟨⟨{target:= .collected d,args:=#[]} :: ds,v - 1,rfl,by have:=HVV.out;omega,by rw [HSV.out,HDN.out],HFIN.out.1,HFIN.out.2⟩, ?_⟩
    show ((v - 1:Nat):Int).toNat<(v:Int).toNat
    have:=HVV.out;omega
   case done=>
    intro d xs W' hd hS hI hdef
    obtain⟨p0,hp0⟩:∃p,(ptsL t (adhZ t (gripZ t st)) [⟨0,sl,0⟩] 36000 ⟨xm,0,0⟩).getLast? = some p:=by
     obtain⟨l,hl⟩:=ptsL_cons t (adhZ t (gripZ t st)) [⟨0,sl,0⟩] 36000 ⟨xm,0,0⟩
     rw [hl];exact⟨_,List.getLast?_eq_some_getLast (by simp)⟩
    have hpl:lastP ⟨0,0,0⟩ (vals xs)=p0:=by unfold vals;rw [hS];unfold lastP;rw [hp0];rfl
    have hrow:=hI.bi.row
    rw [hpl] at hrow
    have hnb:byd t dist p0=false:=hI.nb p0 (by unfold vals;rw [hS];exact List.mem_of_getLast? hp0)
    have hok:sightOk t sl st dist v=decide (p0.m=0):=by
     rw [sightOk_pts ht v (l:=p0) (by rw [HXM.out];exact hp0),hnb];simp
    have HFIN:=Z (HFF.out W' d hI.bi.bx hd hdef)
    have c0:=hrow.cell 0
    simp only [fPt] at c0
    have hwv:IntKind.i64.wrap ((v:Int) - 1)=((v - 1:Nat):Int):=by rw [IntKind.wrap_i64];have:=HVV.out;omega
    have HOK:=Z hok
    clear hI hll hlt3 hBL hz3 hp0 hpl hrow hnb hok hS hdef hd
    by_cases hm0:p0.m=0
    ·have HDN:=Z (sightDn_yes HVV.out.2 (show sightOk t sl st dist v=true from by rw [HOK.out,hm0];rfl))
     rw [hm0] at c0
     clear hm0
     gi_wp2
     (try simp only [Exit.inBlock,Exit.then])
     (try rw [Exit.noGoto_ret])
     exact leaves_all HFIN.out.1 HFIN.out.2 (fun W'=>results_tmp rfl _ _ _) (fun W' h1 h2=>⟨by rw [HSV.out,HDN.out];rfl,by rw [HBE.out];exact HB1.out.trans (h2.mono (by omega))⟩)
    ·have HDN:=Z (sightDn_no HVV.out.2 (show sightOk t sl st dist v=false from by rw [HOK.out];exact decide_eq_false hm0))
     have hmb:(p0.m == 0)=false:=by rw [eq_zero_beq];exact decide_eq_false hm0
     clear hm0
     gi_wp2
     refine⟨⟨{target:= .collected d,args:=#[]} :: ds,v - 1,rfl,by have:=HVV.out;omega,by rw [HSV.out,HDN.out],HFIN.out.1,HFIN.out.2⟩, ?_⟩
     show ((v - 1:Nat):Int).toNat<(v:Int).toNat
     have:=HVV.out;omega
open Go.RowKit Go.Shelf Go.Lib Go.BigFrame
def sgtB (t:Tr) (sl st dist:Int):Bool:=rightB t && (placeB t sl st && inB dist 0 1000000)
def sgtE (t:Tr) (sl st dist:Int):Int:=if sgtB t sl st dist=true then 0 else 2
def sgtR (t:Tr) (sl st dist:Int):Int:=if sgtB t sl st dist=true then sightZ t sl st dist else 0
set_option maxRecDepth 100000 in
set_option maxHeartbeats 4000000 in
theorem Sight_any (A:Option Addr) (c n:Nat) (t:Tr) (sl st dist:Int) (w:World) (hn:t.grip.length=n) (hn2:n≤140737488351232) (hS:Sl w w.heap.size 1 CI A t.grip) :
  Calls Tryz.prog 27 #[.agg #[O U t.mass,O U t.len,O U t.speed,O U t.effort,O U t.brake,O U t.power,O U t.resist,O U t.rise,O U t.back,.slice A n c],O U sl,O U st,O U dist] w fun e w'=>e= .returned (.tuple #[O U (sgtR t sl st dist),O U (sgtE t sl st dist)])∧Below w.heap.size w w':=by
 have hb1:=((Below.refl w.heap.size w).alloc (Nat.le_refl _) (.cells #[O U t.mass,O U t.len,O U t.speed,O U t.effort,O U t.brake,O U t.power,O U t.resist,O U t.rise,O U t.back,.slice A n c] 24))
 have q1:=Rw.new w #[O U t.mass,O U t.len,O U t.speed,O U t.effort,O U t.brake,O U t.power,O U t.resist,O U t.rise,O U t.back,.slice A n c] 24
 obtain⟨W1,hW1⟩:∃z,(w.alloc (.cells #[O U t.mass,O U t.len,O U t.speed,O U t.effort,O U t.brake,O U t.power,O U t.resist,O U t.rise,O U t.back,.slice A n c] 24))=z:=⟨_,rfl⟩
 rw [hW1] at hb1 q1
 have HB1:=Z hb1
 have HX1:=Z (Below.refl W1.heap.size W1)
 have HQ:=Z (show ∀wx,Below W1.heap.size W1 wx→Rw wx w.heap.size 24 #[O U t.mass,O U t.len,O U t.speed,O U t.effort,O U t.brake,O U t.power,O U t.resist,O U t.rise,O U t.back,.slice A n c] from fun wx h=>q1.below h q1.lt)
 have HS:=Z (show ∀wx,Below W1.heap.size W1 wx→Sl wx wx.heap.size 1 CI A t.grip from fun wx h=>(hS.below (hb1.trans (h.mono hb1.size))).more (fun _ _ h=>h) (Nat.le_trans hb1.size h.size))
 have e0:=q1.cell 0;have e1:=q1.cell 1;have e2:=q1.cell 2;have e3:=q1.cell 3;have e4:=q1.cell 4;have e5:=q1.cell 5;have e6:=q1.cell 6;have e7:=q1.cell 7;have e8:=q1.cell 8;have e9:=q1.cell 9
 obtain⟨b0,h0⟩:∃b,rightB t=b:=⟨_,rfl⟩
 obtain⟨b1,h1⟩:∃b,placeB t sl st=b:=⟨_,rfl⟩
 obtain⟨b3,h3⟩:∃b,inB dist 0 1000000=b:=⟨_,rfl⟩
 have HN0:=Z (show sgtB t sl st dist=(b0 && (b1 && b3)) from by unfold sgtB;rw [h0,h1,h3])
 have HEB:=Z (show sgtB t sl st dist=false→sgtR t sl st dist=0∧sgtE t sl st dist=2 from fun h=>by unfold sgtR sgtE;rw [h];exact⟨rfl,rfl⟩)
 have H0:=Z (show ∀wx,Below W1.heap.size W1 wx→Calls Tryz.prog 39 #[.agg #[O U t.mass,O U t.len,O U t.speed,O U t.effort,O U t.brake,O U t.power,O U t.resist,O U t.rise,O U t.back,.slice A n c]] wx fun e w'=>e= .returned (.bool b0)∧Below wx.heap.size wx w' from fun wx h=>by have:=right_any A c n t wx hn hn2 (HS.out wx h);rwa [h0] at this)
 have H1:=Z (show b0=true→∀wx,Calls Tryz.prog 50 #[.agg #[O U t.mass,O U t.len,O U t.speed,O U t.effort,O U t.brake,O U t.power,O U t.resist,O U t.rise,O U t.back,.slice A n c],O U sl,O U st] wx fun e w'=>e= .returned (.bool b1)∧Below wx.heap.size wx w' from fun hb wx=>by have:=placeRight_any A c n t sl st wx hn (by have:=(TrOk.of (h0.trans hb)).g2;omega);rwa [h1] at this)
 have H3:=Z (show ∀wx,Calls Tryz.prog 54 #[O U dist,O U 0,O U 1000000] wx fun e w'=>e= .returned (.bool b3)∧wx=w' from fun wx=>by have:=within_any dist 0 1000000 wx;rwa [h3] at this)
 have HNL:=Z hn
 clear hb1 q1 hS hn h0 h1 h3
 go_enter Tryz.func27,Tryz.ntmps27
 go_wp2_with fail
 (with_reducible refine (H0.out _ HX1.out).mono ?_)
 rintro e w2 ⟨rfl,hb2⟩
 have HX2:=Z (HX1.out.trans (hb2.mono HX1.out.size))
 clear hb2
 have r1:=HQ.out _ HX2.out
 have e0:=r1.cell 0;have e1:=r1.cell 1;have e2:=r1.cell 2;have e3:=r1.cell 3;have e4:=r1.cell 4;have e5:=r1.cell 5;have e6:=r1.cell 6;have e7:=r1.cell 7;have e8:=r1.cell 8;have e9:=r1.cell 9
 clear r1
 cases b0 with
 | false=>
  have HN:=Z (show sgtB t sl st dist=false from by rw [HN0.out];rfl)
  go_wp2
  (try simp only [Exit.inBlock,Exit.then])
  exact bodyPost_ret (results_tmp2 rfl _ _ _) rfl ⟨by rw [HEB.out HN.out |>.1,HEB.out HN.out |>.2];rfl,HB1.out.trans (HX2.out.mono HB1.out.size)⟩
 | true=>
  go_wp2_with fail
  (with_reducible refine ((show ∀wx:World,Calls Tryz.prog 50 #[.agg #[O U t.mass,O U t.len,O U t.speed,O U t.effort,O U t.brake,O U t.power,O U t.resist,O U t.rise,O U t.back,.slice A n c],O U sl,O U st] wx fun e w'=>e= .returned (.bool b1)∧Below wx.heap.size wx w' from by have h:=H1.out;simpa using h) _).mono ?_)
  rintro e w3 ⟨rfl,hb3⟩
  have HX3:=Z (HX2.out.trans (hb3.mono HX2.out.size))
  clear hb3
  have r1:=HQ.out _ HX3.out
  have e0:=r1.cell 0;have e1:=r1.cell 1;have e2:=r1.cell 2;have e3:=r1.cell 3;have e4:=r1.cell 4;have e5:=r1.cell 5;have e6:=r1.cell 6;have e7:=r1.cell 7;have e8:=r1.cell 8;have e9:=r1.cell 9
  clear r1
  cases b1 with
  | false=>
   have HN:=Z (show sgtB t sl st dist=false from by rw [HN0.out];rfl)
   go_wp2
   (try simp only [Exit.inBlock,Exit.then])
   exact bodyPost_ret (results_tmp2 rfl _ _ _) rfl ⟨by rw [HEB.out HN.out |>.1,HEB.out HN.out |>.2];rfl,HB1.out.trans (HX3.out.mono HB1.out.size)⟩
  | true=>
   go_wp2_with fail
   (with_reducible refine (H3.out _).mono ?_)
   rintro e w4 ⟨rfl,rfl⟩
   cases b3 with
   | false=>
    have HN:=Z (show sgtB t sl st dist=false from by rw [HN0.out];rfl)
    go_wp2
    (try simp only [Exit.inBlock,Exit.then])
    exact bodyPost_ret (results_tmp2 rfl _ _ _) rfl ⟨by rw [HEB.out HN.out |>.1,HEB.out HN.out |>.2];rfl,HB1.out.trans (HX3.out.mono HB1.out.size)⟩
   | true=>
    have hbb:sgtB t sl st dist=true:=by rw [HN0.out];rfl
    have h:=hbb
    unfold sgtB placeB at h
    simp only [Bool.and_eq_true,inB_iff] at h
    have hF:FineOk t 0 0 (-4) sl st:=FineOk.of (by
     have hm1:=(TrOk.of h.1).m1
     unfold fineB stateB
     simp only [Bool.and_eq_true,inB_iff]
     exact⟨h.1,⟨⟨by omega,by omega⟩,by omega,by omega⟩,⟨by omega,by omega⟩,h.2.1.1,h.2.1.2⟩)
    have HD:=Z h.2.2
    have HE0:=Z (show sgtR t sl st dist=sightZ t sl st dist∧sgtE t sl st dist=0 from by unfold sgtR sgtE;rw [if_pos hbb,if_pos hbb];exact⟨rfl,rfl⟩)
    obtain⟨i,hi⟩:∃i:Nat,st=(i:Int):=⟨st.toNat,by have:=hF.i0;omega⟩
    have hig:t.grip[i]? = some (gripZ t st):=by have:=hF.ig;rw [hi] at this ⊢;simpa using this
    have HLV:=Z (show ∀wx,Below W1.heap.size W1 wx→Calls Tryz.prog 51 #[.agg #[O U t.mass,O U t.len,O U t.speed,O U t.effort,O U t.brake,O U t.power,O U t.resist,O U t.rise,O U t.back,.slice A n c],O U st,O U sl] wx _ from fun wx h=>level_any A c n t st sl (gripZ t st) i wx hF.ok HNL.out hi hig (HS.out wx h))
    have HF:=Z hF
    clear hbb hF hi hig h
    go_wp2_with fail
    (with_reducible refine (HLV.out _ HX3.out).mono ?_)
    rintro e w5 ⟨r,k,Az,nz,cz,rfl,hr1,hk1,hRA,hbn⟩
    have HX5:=Z (HX3.out.trans (hbn.mono HX3.out.size))
    have HRA:=Z hRA
    clear hbn hr1 hk1 hRA e0 e1 e2 e3 e4 e5 e6 e7 e8 e9
    go_wp2_with fail
    (with_reducible refine (sight_any r k t sl st dist A n c Az nz cz _ HRA.out HF.out HD.out.1 HD.out.2).mono ?_)
    rintro e w6 ⟨rfl,hbn⟩
    have HX6:=Z (HX5.out.trans (hbn.mono HX5.out.size))
    clear hbn
    go_wp2
    (try simp only [Exit.inBlock,Exit.then])
    exact bodyPost_ret (results_tmp2 rfl _ _ _) rfl ⟨by rw [HE0.out.1,HE0.out.2];rfl,HB1.out.trans (HX6.out.mono HB1.out.size)⟩
open Go.RowKit Go.Shelf Go.Lib Go.BigFrame
attribute [local go_sem] Oper.semAt_some
def FCa (r B:Nat) (x:Pt) (s tr:Int) (i:Nat) (u:Nat→Value):Array Value:=#[.pointer (some ⟨r,0,none⟩),.agg #[O U x.m,O U x.y,O U (x.z:Int)],O U s,.pointer (some ⟨B,0,none⟩),.pointer (some ⟨B+1,0,none⟩),.pointer (some ⟨B+2,0,none⟩),.pointer (some ⟨B+3,0,none⟩),.pointer (some ⟨B+4,0,none⟩),.pointer (some ⟨B+5,0,none⟩),O U tr,u 10,u 11,u 12,u 13,O U (i:Int),u 15,u 16,u 17,u 18,u 19,u 20,u 21,u 22,u 23,u 24,u 25,u 26,u 27,u 28,u 29,u 30,u 31,u 32,u 33,u 34,u 35,u 36,u 37,u 38,u 39,u 40,u 41,u 42,u 43,u 44,u 45,u 46,u 47,u 48,u 49,u 50,u 51,u 52,u 53,u 54,u 55,u 56,u 57,u 58,u 59,u 60,u 61,u 62,u 63,u 64,u 65,u 66,u 67,u 68,u 69,u 70,u 71,u 72]
def FCb (r B sb:Nat) (x:Pt) (s tr:Int) (i:Nat) (u:Nat→Value):Array Value:=#[.pointer (some ⟨r,0,none⟩),.agg #[O U x.m,O U x.y,O U (x.z:Int)],O U s,.pointer (some ⟨B,0,none⟩),.pointer (some ⟨B+1,0,none⟩),.pointer (some ⟨B+2,0,none⟩),.pointer (some ⟨B+3,0,none⟩),.pointer (some ⟨B+4,0,none⟩),.pointer (some ⟨B+5,0,none⟩),O U tr,O U (i:Int),.pointer (some ⟨sb,0,none⟩),u 12,u 13,O U (i:Int),u 15,u 16,u 17,u 18,u 19,u 20,u 21,u 22,u 23,u 24,u 25,u 26,u 27,u 28,u 29,u 30,u 31,u 32,u 33,u 34,u 35,u 36,u 37,u 38,u 39,u 40,u 41,u 42,u 43,u 44,u 45,u 46,u 47,u 48,u 49,u 50,u 51,u 52,u 53,u 54,u 55,u 56,u 57,u 58,u 59,u 60,u 61,u 62,u 63,u 64,u 65,u 66,u 67,u 68,u 69,u 70,u 71,u 72]
def FCd (r B sb nb yb:Nat) (x:Pt) (s tr:Int) (i:Nat) (u:Nat→Value):Array Value:=#[.pointer (some ⟨r,0,none⟩),.agg #[O U x.m,O U x.y,O U (x.z:Int)],O U s,.pointer (some ⟨B,0,none⟩),.pointer (some ⟨B+1,0,none⟩),.pointer (some ⟨B+2,0,none⟩),.pointer (some ⟨B+3,0,none⟩),.pointer (some ⟨B+4,0,none⟩),.pointer (some ⟨B+5,0,none⟩),O U tr,O U (i:Int),.pointer (some ⟨sb,0,none⟩),.pointer (some ⟨nb,0,none⟩),.pointer (some ⟨yb,0,none⟩),O U (i:Int),u 15,u 16,u 17,u 18,u 19,u 20,u 21,u 22,u 23,u 24,u 25,u 26,u 27,u 28,u 29,u 30,u 31,u 32,u 33,u 34,u 35,u 36,u 37,u 38,u 39,u 40,u 41,u 42,u 43,u 44,u 45,u 46,u 47,u 48,u 49,u 50,u 51,u 52,u 53,u 54,u 55,u 56,u 57,u 58,u 59,u 60,u 61,u 62,u 63,u 64,u 65,u 66,u 67,u 68,u 69,u 70,u 71,u 72]
theorem res_ccc {P:Program} {fn:Func} {p q u:Tmp} {ty ty2 ty3:TypeId} (h:fn.results=#[.cell p ty,.cell q ty2,.cell u ty3]) (tmps:Array Value) (w:World) (g g2 g3:Nat) (t t2 t3:TypeId) (cs cs2:Array Value) (v:Value) (d d2:TypeDesc)
  (hp:tmps.getD p undef= .pointer (some ⟨g,0,none⟩)) (hp2:tmps.getD q undef= .pointer (some ⟨g2,0,none⟩)) (hp3:tmps.getD u undef= .pointer (some ⟨g3,0,none⟩)) (hg:Rw w g t cs) (hg2:Rw w g2 t2 cs2) (hg3:Rw w g3 t3 #[v])
  (hu:P.underlying ty=some d) (hd:(match d with| .struct _| .array _ _=>true|_=>false)=true) (hi:(P.info? ty).map (·.size)=some cs.size)
  (hu2:P.underlying ty2=some d2) (hd2:(match d2 with| .struct _| .array _ _=>true|_=>false)=true) (hi2:(P.info? ty2).map (·.size)=some cs2.size)
  (hl3:(loadVar ty3 ⟨g3,0,none⟩).run P w= .ok v w) :
  (results fn tmps).run P w= .ok (.tuple #[.agg cs,.agg cs2,v]) w:=by
 have hp':tmps[p]?.getD undef= .pointer (some ⟨g,0,none⟩):=by simpa using hp
 have hq':tmps[q]?.getD undef= .pointer (some ⟨g2,0,none⟩):=by simpa using hp2
 have hu':tmps[u]?.getD undef= .pointer (some ⟨g3,0,none⟩):=by simpa using hp3
 simp [results,h,hp',hq',hu',asAddr,run_loadVar_row w g t ty cs (0,0) d hg hu hd hi,run_loadVar_row w g2 t2 ty2 cs2 (0,0) d2 hg2 hu2 hd2 hi2,hl3]
theorem load_bool {w:World} {g:Nat} {b:Bool} (h:Rw w g 4 #[.bool b]):(loadVar 4 ⟨g,0,none⟩).run Tryz.prog w= .ok (.bool b) w:=by
 have h0:=h.cell 0
 go_simp
theorem leaves_all2 {P:Program} {fn:Func} {tmps:Array Value} {R:Ending→World→Prop} {F:Fence} {n B:Nat} {ds:List Deferred} {W:World} {v:Value} (h:Mks B ds W) (hr:∀W',Below B W W'→(results fn tmps).run P W'= .ok v W') (hR:∀W',Below B W W'→R (.returned v) W'):LeavesInM F n P fn tmps R ds .returning W:=by
 obtain⟨Ds,rfl,hn,h⟩:=h
 refine leaves_mks Ds W hn (fun D hD=>(h D hD).2) fun W' hb hs h1 h2 h3=> ?_
 have hb2:Below B W W':=⟨h1,h2,h3,by omega,fun k hk=>hb k fun D hD e=>by have:=(h D hD).1;omega⟩
 exact⟨v,hr W' hb2,hR W' hb2⟩
def fstB (t:Tr) (zs:List Zn) (x:Pt):Bool:=decide ((zlim zs x.z+1) * t.mass≤x.m)
def pass (t:Tr) (zs:List Zn) (s:Int) (p:Pt):Prop:=byd t s p=false∧fstB t zs p=false∧p.m≠0
def safeL (t:Tr) (zs:List Zn) (s:Int):List Pt→Bool
 | []=>false
 | p :: r=>if byd t s p || fstB t zs p then false else if p.m=0 then true else safeL t zs s r
theorem safeL_pass {t:Tr} {zs:List Zn} {s:Int} {l r:List Pt} (h:∀p∈l,pass t zs s p):safeL t zs s (l ++ r)=safeL t zs s r:=by
 induction l with
 | nil=>rfl
 | cons p l ih=>
  obtain⟨h1,h2,h3⟩:=h p (by simp)
  rw [List.cons_append,safeL,h1,h2,←ih fun q hq=>h q (by simp [hq])]
  simp [h3]
theorem safeL_fail {t:Tr} {zs:List Zn} {s:Int} {p:Pt} {r:List Pt} (h:(byd t s p || fstB t zs p)=true):safeL t zs s (p :: r)=false:=by rw [safeL,if_pos h]
theorem safeL_stand {t:Tr} {zs:List Zn} {s:Int} {p:Pt} {r:List Pt} (h1:byd t s p=false) (h2:fstB t zs p=false) (h3:p.m=0):safeL t zs s (p :: r)=true:=by rw [safeL,h1,h2];simp [h3]
def chQ (t:Tr) (a:Int) (zs:List Zn) (x:Pt) (n:Nat):Int:=nextZ t a x.m ((n:Int) - 4) (zslp zs x.z)
def chF (t:Tr) (a:Int) (zs:List Zn) (x:Pt) (n:Nat):Fs:=fsZ t a x.m ((n:Int) - 4) (zslp zs x.z)
def chS (t:Tr) (a:Int) (zs:List Zn) (s:Int) (x:Pt) (n:Nat):Bool:=safeL t zs s (ptsL t a zs 36000 (movP t zs x (chQ t a zs x n)))
def chZ (t:Tr) (a:Int) (zs:List Zn) (s:Int) (x:Pt):Nat→Int→Option Nat
 | 0,_=>none
 | n+1,tr=>if chQ t a zs x n=tr∨¬chQ t a zs x n≤25000 * t.mass then chZ t a zs s x n tr else if chS t a zs s x n=true then some n else chZ t a zs s x n (chQ t a zs x n)
theorem chZ_skip {t:Tr} {a:Int} {zs:List Zn} {s:Int} {x:Pt} {n:Nat} {tr:Int} (h:chQ t a zs x n=tr∨¬chQ t a zs x n≤25000 * t.mass):chZ t a zs s x (n+1) tr=chZ t a zs s x n tr:=by rw [chZ,if_pos h]
theorem chZ_yes {t:Tr} {a:Int} {zs:List Zn} {s:Int} {x:Pt} {n:Nat} {tr:Int} (h:¬(chQ t a zs x n=tr∨¬chQ t a zs x n≤25000 * t.mass)) (hs:chS t a zs s x n=true):chZ t a zs s x (n+1) tr=some n:=by rw [chZ,if_neg h,if_pos hs]
theorem chZ_no {t:Tr} {a:Int} {zs:List Zn} {s:Int} {x:Pt} {n:Nat} {tr:Int} (h:¬(chQ t a zs x n=tr∨¬chQ t a zs x n≤25000 * t.mass)) (hs:chS t a zs s x n=false):chZ t a zs s x (n+1) tr=chZ t a zs s x n (chQ t a zs x n):=by rw [chZ,if_neg h,if_neg (by rw [hs];simp)]
def chO1 (t:Tr) (a:Int) (zs:List Zn) (x:Pt):Option Nat→Array Value
 | some n=>#[O U (chF t a zs x n).p,O U (chF t a zs x n).b,O U (chF t a zs x n).d,O U (chF t a zs x n).h,O U x.m,O U (chQ t a zs x n)]
 | none=>#[O U 0,O U 0,O U 0,O U 0,O U 0,O U 0]
def chO2 (t:Tr) (a:Int) (zs:List Zn) (x:Pt):Option Nat→Array Value
 | some n=>(fPt (movP t zs x (chQ t a zs x n))).toArray
 | none=>#[O U 0,O U 0,O U 0]
structure BT (B:Nat) (T:Nat→Prop) (A C:World):Prop where
 os:C.os=A.os
 tape:C.tape=A.tape
 output:C.output=A.output
 size:A.heap.size≤C.heap.size
 block:∀k,k<B→¬T k→C.heap[k]? = A.heap[k]?
theorem BT.turn {B:Nat} {T:Nat→Prop} {A C D:World} {row:Option Nat} (h:BT B T A C) (hA:B≤A.heap.size) (hg:C.grownBy D row) (hr:∀r,row=some r→B≤r):BT B T A D:=
 ⟨hg.os.trans h.os,hg.tape.trans h.tape,hg.output.trans h.output,Nat.le_trans h.size hg.size,fun k hk hn=>(hg.block k (by have:=h.size;omega) (fun e=>by have:=hr k e.symm;omega)).trans (h.block k hk hn)⟩
theorem BT.gi {B b2 ib:Nat} {T:Nat→Prop} {A C D:World} (h:BT B T A C) (hA:B≤A.heap.size) (hg:Gi b2 ib C D) (h1:B≤b2) (h2:B≤ib):BT B T A D:=
 ⟨hg.os.trans h.os,hg.tape.trans h.tape,hg.output.trans h.output,Nat.le_trans h.size hg.size,fun k hk hn=>(hg.block k (by have:=h.size;omega) (by omega) (by omega)).trans (h.block k hk hn)⟩
theorem BT.below {B B':Nat} {T:Nat→Prop} {A C:World} (h:BT B T A C) (h1:B'≤B) (h2:∀k,k<B'→¬T k):Below B' A C:=⟨h.os,h.tape,h.output,h.size,fun k hk=>h.block k (by omega) (h2 k hk)⟩
structure ChI (B L:Nat) (w3:World) (t:Tr) (zs:List Zn) (s:Int) (l:List Pt) (W:World):Prop where
 bx:BX B L w3 W
 rl:Rw W L 4 #[.bool false]
 ps:∀p∈l,pass t zs s p
theorem ChI.own {B L:Nat} {w3:World} {t:Tr} {zs:List Zn} {s:Int} {β : Type} {f: β→List Pt} (hB:B≤w3.heap.size) (hL:L<B):OwnFrom w3.heap.size (fun b W=>ChI B L w3 t zs s (f b) W):=fun b X Y row hs hg hr=>
 ⟨hs.bx.turn hB hg (fun r e=>by have:=(hr r e).1;omega),rw_turn hs.rl hg (fun r e=>by have:=(hr r e).1;omega),hs.ps⟩
theorem ChI.gi {B L b2 ib:Nat} {w3 A C:World} {t:Tr} {zs:List Zn} {s:Int} {l:List Pt} (h:ChI B L w3 t zs s l A) (hB:B≤w3.heap.size) (hL:L<B) (hg:Gi b2 ib A C) (h1:B≤b2) (h2:B≤ib):ChI B L w3 t zs s l C:=
 ⟨h.bx.gi hB hg h1 h2,rw_gi h.rl hg (by omega) (by omega),h.ps⟩
theorem ChI.below {B L:Nat} {w3 A C:World} {t:Tr} {zs:List Zn} {s:Int} {l:List Pt} (h:ChI B L w3 t zs s l A) (hb:Below A.heap.size A C) (hB:B≤w3.heap.size):ChI B L w3 t zs s l C:=
 ⟨h.bx.trans (BX.of_below (hb.mono (by have:=h.bx.size;omega)) L),h.rl.below hb h.rl.lt,h.ps⟩
structure ChB (B L:Nat) (w3:World) (t:Tr) (zs:List Zn) (s:Int) (l:List Pt) (x:Pt) (G:Nat→Prop) (W:World):Prop where
 ci:ChI B L w3 t zs s l W
 yb:∃yb,Rw W yb 102 (fPt x).toArray∧G yb
theorem rw_turn2 {C D:World} {g:Nat} {t:TypeId} {cs:Array Value} {row:Option Nat} (h:Rw C g t cs) (hg:C.grownBy D row) (hr:∀r,row=some r→∃o:Obj,C.heap[r]? = some o∧o.isCells=false):Rw D g t cs:=
 rw_turn h hg fun r e e2=>by
  obtain⟨o,h1,h2⟩:=hr r e
  rw [e2,show C.heap[g]? = _ from h] at h1
  cases h1
  simp [Obj.isCells] at h2
theorem ChB.own {B L:Nat} {w3:World} {t:Tr} {zs:List Zn} {s:Int} {β : Type} {f: β→List Pt} {g: β→Pt} {G: β→Nat→Prop} (hB:B≤w3.heap.size) (hL:L<B):OwnFrom w3.heap.size (fun b W=>ChB B L w3 t zs s (f b) (g b) (G b) W):=fun b X Y row hs hg hr=>by
 obtain⟨hc,yb,hy,hG⟩:=hs
 exact⟨ChI.own (f:=f) hB hL b X Y row hc hg hr,yb,rw_turn2 hy hg (fun r e=>(hr r e).2),hG⟩
structure ChX (B L:Nat) (w3:World) (t:Tr) (zs:List Zn) (s:Int) (l:List Pt) (W:World):Prop where
 bx:BX B L w3 W
 rl:Rw W L 4 #[.bool false]
 no:∃l' p,l=l' ++ [p]∧(∀q∈l',pass t zs s q)∧(byd t s p || fstB t zs p)=true
structure ChR (B R:Nat) (w3:World) (t:Tr) (zs:List Zn) (s:Int) (c1 c2:Array Value) (l:List Pt) (W:World):Prop where
 bt:BT B (fun k=>R≤k∧k≤R+2) w3 W
 r1:Rw W R 87 c1
 r2:Rw W (R+1) 102 c2
 r3:Rw W (R+2) 4 #[.bool true]
 ok:∃l' p,l=l' ++ [p]∧(∀q∈l',pass t zs s q)∧byd t s p=false∧fstB t zs p=false∧p.m=0
def ChE (B R:Nat) (w3:World) (t:Tr) (zs:List Zn) (s:Int) (c1 c2:Array Value) (c:Code) (l:List Pt) (W:World):Prop:=(c=Code.exit 1∧ChX B (R+2) w3 t zs s l W)∨(c=Code.ret∧ChR B R w3 t zs s c1 c2 l W)
theorem ChE.own {B R:Nat} {w3:World} {t:Tr} {zs:List Zn} {s:Int} {c1 c2:Array Value} {β : Type} {f: β→List Pt} (hB:B≤w3.heap.size) (hR:R+2<B) (c:Code):OwnFrom w3.heap.size (fun b W=>ChE B R w3 t zs s c1 c2 c (f b) W):=fun b X Y row hs hg hr=>by
 rcases hs with⟨rfl,h⟩|⟨rfl,h⟩
 ·exact .inl ⟨rfl,h.bx.turn hB hg (fun r e=>by have:=(hr r e).1;omega),rw_turn h.rl hg (fun r e=>by have:=(hr r e).1;omega),h.no⟩
 ·exact .inr ⟨rfl,h.bt.turn hB hg (fun r e=>by have:=(hr r e).1;omega),rw_turn h.r1 hg (fun r e=>by have:=(hr r e).1;omega),rw_turn h.r2 hg (fun r e=>by have:=(hr r e).1;omega),rw_turn h.r3 hg (fun r e=>by have:=(hr r e).1;omega),h.ok⟩
theorem ChE.gi {B R b2 ib:Nat} {w3 A C:World} {t:Tr} {zs:List Zn} {s:Int} {c1 c2:Array Value} {c:Code} {l:List Pt} (h:ChE B R w3 t zs s c1 c2 c l A) (hB:B≤w3.heap.size) (hR:R+2<B) (hg:Gi b2 ib A C) (h1:B≤b2) (h2:B≤ib):ChE B R w3 t zs s c1 c2 c l C:=by
 rcases h with⟨rfl,h⟩|⟨rfl,h⟩
 ·exact .inl ⟨rfl,h.bx.gi hB hg h1 h2,rw_gi h.rl hg (by omega) (by omega),h.no⟩
 ·exact .inr ⟨rfl,h.bt.gi hB hg h1 h2,rw_gi h.r1 hg (by omega) (by omega),rw_gi h.r2 hg (by omega) (by omega),rw_gi h.r3 hg (by omega) (by omega),h.ok⟩
end Go.Proofs.YtfhkbbjddjddmaaGreat
