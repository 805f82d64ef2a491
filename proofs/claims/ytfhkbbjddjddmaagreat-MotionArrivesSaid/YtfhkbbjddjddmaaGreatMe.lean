/- Texts RX M24 M25. -/
import Derived.RangeFuncNested
import Derived.Test.YtfhkbbjddjddmaaGreatMd
import Derived.OwnWalkIn
import Derived.TacticsInMore
import Derived.LoopNIn
import Derived.LoopIn
import Derived.RangeFuncBound
import Derived.RangeFuncCalls
import Derived.RangeFuncLeaves
import Derived.BigFrameIn
import Derived.Shelf.RegionOpen
set_option linter.unusedVariables false
set_option linter.unusedSimpArgs false
open Go.Value renaming int→O
open Go.IntKind renaming i64→U
open Go.Lib renaming hid→Z
namespace Go.Proofs.YtfhkbbjddjddmaaGreat
open Go Go.RowKit
structure Gi (b2 ib:Nat) (A C:World):Prop where
 os:C.os=A.os
 tape:C.tape=A.tape
 output:C.output=A.output
 size:A.heap.size≤C.heap.size
 block:∀k,k<A.heap.size→k≠b2→k≠ib→C.heap[k]? = A.heap[k]?
theorem Gi.trans {b2 ib:Nat} {A C D:World} (h:Gi b2 ib A C) (k:Gi b2 ib C D):Gi b2 ib A D:=
 ⟨k.os.trans h.os,k.tape.trans h.tape,k.output.trans h.output,Nat.le_trans h.size k.size,fun i hi h1 h2=>(k.block i (Nat.lt_of_lt_of_le hi h.size) h1 h2).trans (h.block i hi h1 h2)⟩
theorem Gi.of_below {b2 ib:Nat} {A C:World} (h:Below A.heap.size A C):Gi b2 ib A C:=⟨h.os,h.tape,h.output,h.size,fun k hk _ _=>h.block k hk⟩
theorem Gi.setCell {b2 ib:Nat} (A:World) (p:Addr) (v:Value) (hp:p.block=b2∨p.block=ib):Gi b2 ib A (A.setCell p v):=
 ⟨rfl,rfl,rfl,by simp [World.setCell],fun k _ h1 h2=>Below.heap_setCell _ _ _ _ (fun e=>by rcases hp with h|h <;> omega)⟩
theorem Gi.below {B b2 ib:Nat} {a A C:World} (h:Below B a A) (g:Gi b2 ib A C) (hB:B≤A.heap.size) (h1:B≤b2) (h2:B≤ib):Below B a C:=
 h.trans ⟨g.os,g.tape,g.output,g.size,fun k hk=>g.block k (by omega) (by omega) (by omega)⟩
def SeqX {α : Type} (F:Fence) (n:Nat) (P:Program) (g:Nat) (lb:Array Value) (encs: α→Array Value) (Kp:World→World→Prop) (b2:Nat) (S Sp:List α→Prop) (N:Nat) (w:World):Prop:=
 ∀(l:Nat) (J Jx:List α→World→Prop) (W:World),Below w.heap.size w W→(∀s A C,J s A→Gi b2 W.heap.size A C→J s C)→(∀s A C,Jx s A→Gi b2 W.heap.size A C→Jx s C)→
  (∀pre x W1,J pre W1→pre.length<N→YieldAt F (n - 1) P l (encs x) W1 fun e W'=>(e= .returned (.bool true)∧J (pre ++ [x]) W'∧Kp W1 W')∨(e= .returned (.bool false)∧Jx (pre ++ [x]) W'))→
  J [] W→
  CallsIn F n P g (#[.func (.yield l) #[] #[]] ++ lb) W fun e W'=>(∃v,e= .returned v)∧((∃xs,S xs∧J xs W')∨(∃pre,Sp pre∧Jx pre W'))
section
variable {α : Type} {F:Fence} {n:Nat} {P:Program} {g:Operand} {ps:Array Tmp} {assign body:Code} {Q:Exit→Act→World→Prop} {a:Act} {w:World}
theorem wpIn_rangeX (hro:F.round=none) (h1:1≤n) {gf:Nat} {lb:Array Value} (hg:a.eval g= .func (.func gf) #[] lb) (hFg:F.fn gf) (eg:∀args w,(callFunc gf args).run P w= .ok (.enter gf args) w)
  {encs: α→Array Value} {Kp:World→World→Prop} {b2:Nat} {S Sp:List α→Prop} {N:Nat} {w0:World} (hseq:SeqX F (n - 1) P gf lb encs Kp b2 S Sp N w0)
  (hKt:∀{A B C:World},Kp A B→Kp B C→Kp A C)
  (hKb:∀(W:World) (l:Nat) (o o':Obj),w.heap.size≤l→W.heap[l]? = some o→o.isCells=false→o.isWalk=false→Kp W (W.putObj l o'))
  (hb0:Below w0.heap.size w0 w) (hb2:b2<w.heap.size) (hps:∀x,(encs x).size=ps.size)
  (I:List α→World→Prop) (Ix:Code→List α→World→Prop) (hI:OwnFrom w.heap.size I) (hIx:∀c,OwnFrom w.heap.size (Ix c)) (hIk:∀s A C,I s A→Gi b2 (w.heap.size+2) A C→I s C) (hIxk:∀c s A C,Ix c s A→Gi b2 (w.heap.size+2) A C→Ix c s C) (h0:I [] w)
  (B:List α × α × Act→World→Prop) (hB:OwnFrom w.heap.size B)
  (hassign:∀(l:Nat) (pre:List α) (x: α) (W:World) (K:Act→World→Prop),I pre W→pre.length<N→(∀a1 W1,KeepsOthers W W1→Kp W W1→B (pre,x,a1) W1→K a1 W1)→
   assign.wpIn (F.inRound l) (n - 1 - 1) P (Exit.then K (fun _ _ _=>False)) {tmps:=(ps.zip (encs x)).foldl (fun t (p,v)=>t.setIfInBounds p v) a.tmps,defers:= []} W)
  (hbody:∀(l:Nat) (pre:List α) (x: α) (a1:Act) (W:World),B (pre,x,a1) W→pre.length<N→
   body.wpIn (F.inRound l) (n - 1 - 1) P (ownPostK Kp I Ix (pre ++ [x]) W) a1 W)
  (hdone:∀(d:Nat) (xs:List α) (W:World),d=w.heap.size→S xs→I xs W→W.heap[d]? = some (.deferred (some []))→Q .normal {a with defers:={target:= .collected d,args:=#[]} :: a.defers} W)
  (hstop:∀(d:Nat) (c:Code) (pre:List α) (W:World),d=w.heap.size→Sp pre→Ix c pre W→W.heap[d]? = some (.deferred (some []))→c.wpIn F n P Q {a with defers:={target:= .collected d,args:=#[]} :: a.defers} W) :
  (Code.rangeFunc g ps assign body).wpIn F n P Q a w:=by
 refine wpIn_rangeFunc fun fn hfn=> ?_
 rw [hro]
 obtain⟨L,hL⟩:∃L:LoopState→Option Code→Loop,L=fun st pe=>{state:=st,pending:=pe,fn:=fn,tmps:=a.tmps,params:=ps,assign:=assign,body:=body,defers:=w.heap.size}:=⟨_,rfl⟩
 obtain⟨V,hV⟩:∃V,(w.alloc (.deferred (some []))).alloc (.loop (L .ready none))=V:=⟨_,rfl⟩
 obtain⟨q,hq⟩:∃q,w.heap.size+1=q:=⟨_,rfl⟩
 have hVl:V.heap[q]? = some (.loop (L .ready none)):=by
  rw [←hV,←hq];have:=World.alloc_heap_new (w.alloc (.deferred (some []))) (.loop (L .ready none));rwa [World.size_alloc] at this
 have hVd:V.heap[w.heap.size]? = some (.deferred (some [])):=by
  rw [←hV];exact (Below.heap_alloc _ _ _ (by simp)).trans (World.alloc_heap_new w _)
 have hVI:I [] V:=by rw [←hV];exact hI.alloc _ (hI.alloc _ h0)
 have hVb:Below w0.heap.size w0 V:=by
  rw [←hV];exact hb0.trans ((((Below.refl _ w).alloc (Nat.le_refl _) _).alloc (by simp) _).mono hb0.size)
 have hne:w.heap.size≠q:=by omega
 have hqw:w.heap.size≤q:=by omega
 have hVz:V.heap.size=w.heap.size+2:=by rw [←hV];simp
 have hkeep:∀{A C:World} {k:Nat} {o:Obj},A.heap[k]? = some o→w.heap.size≤k→k<w.heap.size+2→Gi b2 (w.heap.size+2) A C→C.heap[k]? = some o:=fun {A C k o} h hk hk2 hg=>
  (hg.block k (Array.getElem?_eq_some_iff.1 h).1 (by omega) (by omega)).trans h
 refine⟨q, [{target:= .collected w.heap.size,args:=#[]}],V,{target:= .fn (.func gf) lb,args:=#[.func (.yield q) #[] #[]]},V,gf,#[.func (.yield q) #[] #[]] ++ lb,V, ?_, ?_, ?_, ?_,fun _=>h1, ?_⟩
 ·rw [←hV,hL,←hq];exact run_enterLoop_outer _ _ _ _ _
 ·simp only [resolve,hg];simp [go_sem]
 ·intro f' hf';simp [Target.leads] at hf';subst hf';exact hFg
 ·simp [invoke,go_sem,eg]
 ·refine (hseq q (fun pre W=>I pre W∧W.heap[q]? = some (.loop (L .ready none))∧W.heap[w.heap.size]? = some (.deferred (some [])))
   (fun pre W=>∃c,Ix c pre W∧W.heap[q]? = some (.loop (L .done (some c)))∧W.heap[w.heap.size]? = some (.deferred (some []))) V hVb ?_ ?_ ?_ ⟨hVI,hVl,hVd⟩).mono ?_
  ·rintro pre A C ⟨hi,hl,hd⟩ hgr
   rw [hVz] at hgr
   exact⟨hIk _ _ _ hi hgr,hkeep hl hqw (by omega) hgr,hkeep hd (Nat.le_refl _) (by omega) hgr⟩
  ·rintro pre A C ⟨c,hi,hl,hd⟩ hgr
   rw [hVz] at hgr
   exact⟨c,hIxk _ _ _ _ hi hgr,hkeep hl hqw (by omega) hgr,hkeep hd (Nat.le_refl _) (by omega) hgr⟩
  ·rintro pre x W ⟨hi,hl,hd⟩ hlen
   refine⟨fn,_,assign,body,by have:=run_yield (P:=P) (args:=encs x) hl (by rw [hL];exact hps x);rw [hL] at this;exact this,roundIn_of_wpIn hfn (hassign q pre x W _ hi hlen fun a1 W1 hk1 hp1 hb1=> ?_)⟩
   have hl1:=hk1.same _ _ hl rfl
   have hd1:=hk1.same _ _ hd rfl
   have hq1:q<W1.heap.size:=(Array.getElem?_eq_some_iff.1 hl1).1
   refine⟨_,run_beginRound hl1 (by rw [hL]), ?_⟩
   have hl2:(W1.putObj q (.loop {L .ready none with state:= .busy})).heap[q]? = some (.loop {L .ready none with state:= .busy}):=World.putObj_heap_same hq1
   have hd2:(W1.putObj q (.loop {L .ready none with state:= .busy})).heap[w.heap.size]? = some (.deferred (some [])):=(World.putObj_heap_other hne).trans hd1
   have hp2:Kp W (W1.putObj q (.loop {L .ready none with state:= .busy})):=hKt hp1 (hKb _ _ _ _ (by omega) hl1 rfl rfl)
   refine wpIn_mono (hbody q pre x a1 _ (hB.putObj _ hb1 hqw hl1 rfl) hlen) ?_
   have fin:∀(jump:Option Code) (W3:World),KeepsOthers (W1.putObj q (.loop {L .ready none with state:= .busy})) W3→
     (Instr.endRound q jump).run P W3= .ok (.bool jump.isNone) (W3.putObj q (.loop (L (if jump.isNone then .ready else .done) jump)))∧
     W3.heap[q]? = some (.loop {L .ready none with state:= .busy})∧
     (W3.putObj q (.loop (L (if jump.isNone then .ready else .done) jump))).heap[q]? = some (.loop (L (if jump.isNone then .ready else .done) jump))∧
     (W3.putObj q (.loop (L (if jump.isNone then .ready else .done) jump))).heap[w.heap.size]? = some (.deferred (some [])):=fun jump W3 hk3=>by
    have hl3:=hk3.same _ _ hl2 rfl
    have hend:=run_endRound (P:=P) jump hl3
    rw [hL] at hend ⊢
    exact⟨hend,by rw [hL] at hl3;exact hl3,World.putObj_heap_same (Array.getElem?_eq_some_iff.1 hl3).1,(World.putObj_heap_other hne).trans (hk3.same _ _ hd2 rfl)⟩
   rintro e a3 W3 hp
   cases e with
   | normal=>
    obtain⟨hk3,hp3,hi3⟩:=hp
    obtain⟨hr,hl3,hl4,hd4⟩:=fin none W3 hk3
    exact⟨_,_,hr,.inl ⟨rfl,⟨hI.putObj _ hi3 hqw hl3 rfl,hl4,hd4⟩,hKt (hKt hp2 hp3) (hKb _ _ _ _ hqw hl3 rfl rfl)⟩⟩
   | ret=>
    obtain⟨hk3,hi3⟩:=hp
    obtain⟨hr,hl3,hl4,hd4⟩:=fin (some .ret) W3 hk3
    exact⟨_,_,hr,.inr ⟨rfl,.ret,(hIx _).putObj _ hi3 hqw hl3 rfl,hl4,hd4⟩⟩
   | exit id=>
    obtain⟨hk3,hi3⟩:=hp
    obtain⟨hr,hl3,hl4,hd4⟩:=fin (some (.exit id)) W3 hk3
    exact⟨_,_,hr,.inr ⟨rfl,.exit id,(hIx _).putObj _ hi3 hqw hl3 rfl,hl4,hd4⟩⟩
   | goto t=>
    obtain⟨hk3,hi3⟩:=hp
    obtain⟨hr,hl3,hl4,hd4⟩:=fin (some (.goto t)) W3 hk3
    exact⟨_,_,hr,.inr ⟨rfl,.goto t,(hIx _).putObj _ hi3 hqw hl3 rfl,hl4,hd4⟩⟩
   | panic ch=>exact hp.elim
   | outgrown=>exact hp.elim
  ·rintro e W2 ⟨⟨v,rfl⟩,(⟨xs,hS,hi,hl,hd⟩|⟨pre,hSp,c,hi,hl,hd⟩)⟩
   ·exact⟨none,_,by have:=run_endLoop (P:=P) hl (by rw [hL];simp);rw [hL] at this;exact this,hdone _ xs _ rfl hS (hI.putObj _ hi hqw hl rfl) ((World.putObj_heap_other hne).trans hd)⟩
   ·exact⟨some c,_,by have:=run_endLoop (P:=P) hl (by rw [hL];simp);rw [hL] at this;exact this,hstop _ c pre _ rfl hSp ((hIx c).putObj _ hi hqw hl rfl) ((World.putObj_heap_other hne).trans hd)⟩
end
open Go.RowKit
structure Pt where
 m:Int
 y:Int
 z:Nat
def fPt (x:Pt):List Value:= [O U x.m,O U x.y,O U (x.z:Int)]
def zslp (zs:List Zn) (z:Nat):Int:=match zs[z]? with|some g=>g.sl|none=>0
def zlim (zs:List Zn) (z:Nat):Int:=match zs[z]? with|some g=>g.lim|none=>0
def brkM (t:Tr) (a:Int) (zs:List Zn) (x:Pt):Int:=afterZ x.m (-(brakeZ t a (-4)) - dragZ t (x.m / t.mass) - hillZ t (zslp zs x.z))
def movP (t:Tr) (zs:List Zn) (x:Pt) (q:Int):Pt:=⟨q,x.y+q,zadv zs (10 * t.mass) (x.y+q) zs.length x.z⟩
def ptsL (t:Tr) (a:Int) (zs:List Zn):Nat→Pt→List Pt
 | 0,x=> [x]
 | n+1,x=>x :: (if x.m=0 then [] else if brkM t a zs x≤25000 * t.mass then ptsL t a zs n (movP t zs x (brkM t a zs x)) else [])
theorem ptsL_cons (t:Tr) (a:Int) (zs:List Zn) (n:Nat) (x:Pt):∃l,ptsL t a zs n x=x :: l:=by cases n <;> exact⟨_,rfl⟩
theorem ptsL_rest {t:Tr} {a:Int} {zs:List Zn} {n:Nat} {x:Pt} (h:x.m=0∨¬brkM t a zs x≤25000 * t.mass):ptsL t a zs (n+1) x= [x]:=by
 rw [ptsL]
 rcases h with h|h
 ·rw [if_pos h]
 ·by_cases h0:x.m=0
  ·rw [if_pos h0]
  ·rw [if_neg h0,if_neg h]
theorem ptsL_more {t:Tr} {a:Int} {zs:List Zn} {n:Nat} {x:Pt} (h:x.m≠0) (hq:brkM t a zs x≤25000 * t.mass):ptsL t a zs (n+1) x=x :: ptsL t a zs n (movP t zs x (brkM t a zs x)):=by
 rw [ptsL,if_neg h,if_pos hq]
theorem ptsL_zero {t:Tr} {a:Int} {zs:List Zn} {n:Nat} {x:Pt} (h:x.m=0):ptsL t a zs n x= [x]:=by
 cases n with
 | zero=>rfl
 | succ n=>exact ptsL_rest (.inl h)
theorem zadv_lt {zs:List Zn} {u y:Int}:∀{f z:Nat},z<zs.length→zadv zs u y f z<zs.length:=by
 intro f
 induction f with
 | zero=>exact fun h=>h
 | succ f ih=>
  intro z h
  unfold zadv
  cases hg:zs[z+1]? with
  | none=>exact h
  | some g=>
   have:=(List.getElem?_eq_some_iff.1 hg).1
   simp only
   split
   ·exact ih this
   ·exact h
structure PtOk (t:Tr) (zs:List Zn) (x:Pt):Prop where
 m0:0≤x.m
 m1:x.m≤25000 * t.mass
 y0:0≤x.y
 y1:x.y≤20000000000000000
 z:x.z<zs.length
structure ZsOk (zs:List Zn):Prop where
 fr:∀g∈zs, -1000000000≤g.fr∧g.fr≤3000000000000
 sl:∀g∈zs, -120≤g.sl∧g.sl≤120
 lm:∀g∈zs,0≤g.lim∧g.lim≤1000000000
 ln:zs.length≤1000000
theorem movP_ok {t:Tr} {zs:List Zn} {x:Pt} {q:Int} (hx:PtOk t zs x) (h0:0≤q) (h1:q≤25000 * t.mass) (hy:x.y+q≤20000000000000000):PtOk t zs (movP t zs x q):=
 ⟨h0,h1,by have:=hx.y0;show 0≤x.y+q;omega,hy,zadv_lt hx.z⟩
structure KF (T:Nat→Prop) (W W':World):Prop where
 size:W.heap.size≤W'.heap.size
 same:∀(k:Nat) (c:Array Value) (t:TypeId) (f:Nat × Nat),W.heap[k]? = some (.cells c t f)→¬T k→W'.heap[k]? = some (.cells c t f)
section
variable {T:Nat→Prop} {A C W W':World}
theorem KF.refl (W:World):KF T W W:=⟨Nat.le_refl _,fun _ _ _ _ h _=>h⟩
theorem KF.trans {D:World} (h:KF T A C) (k:KF T C D):KF T A D:=⟨Nat.le_trans h.size k.size,fun j c t f hj hn=>k.same j c t f (h.same j c t f hj hn) hn⟩
theorem KF.of_below (hb:Below W.heap.size W W'):KF T W W':=⟨hb.size,fun k c t f hk _=>(hb.block k (Array.getElem?_eq_some_iff.1 hk).1).trans hk⟩
theorem KF.setCell (W:World) (p:Addr) (v:Value) (hp:T p.block):KF T W (W.setCell p v):=
 ⟨by simp [World.setCell],fun k c t f hk hn=>(Below.heap_setCell _ _ _ _ (fun e=>hn (by rw [e];exact hp))).trans hk⟩
theorem KF.put {w:World} (W:World) (l:Nat) (o o':Obj) (hl:w.heap.size≤l) (h:W.heap[l]? = some o) (hc:o.isCells=false) (_:o.isWalk=false):KF T W (W.putObj l o'):=by
 refine⟨by simp,fun k c t f hk _=> ?_⟩
 by_cases e:k=l
 ·subst e;rw [h] at hk;cases hk;simp [Obj.isCells] at hc
 ·exact (World.putObj_heap_other e).trans hk
theorem KF.row {g:Nat} {t:TypeId} {cs:Array Value} (k:KF T W W') (h:Rw W g t cs) (hn:¬T g):Rw W' g t cs:=k.same _ _ _ _ h hn
theorem KF.cell (k:KF T W W') {q:Addr} {v:Value} (hq:W.cell? q=some v) (hn:¬T q.block):W'.cell? q=some v:=by
 unfold World.cell? at hq ⊢
 cases ho:W.heap[q.block]? with
 | none=>rw [ho] at hq;cases hq
 | some o=>
  rw [ho] at hq
  cases o with
  | cells c t f=>rw [k.same _ c t f ho hn];exact hq
  | _=>simp at hq
end
theorem slKF {α : Type} {w w':World} {B size:Nat} {C: α→List Value→Prop} {A:Option Addr} {l:List α} {T:Nat→Prop} (h:Sl w B size C A l) (k:KF T w w') (hn:∀ad,A=some ad→¬T ad.block):Sl w' B size C A l:=by
 intro hl
 obtain⟨b,off,e,hb,hc⟩:=h hl
 refine⟨b,off,e,hb,fun i x hx=> ?_⟩
 obtain⟨cs,h1,h2⟩:=hc i x hx
 exact⟨cs,h1,fun j u hu=>k.cell (h2 j u hu) (hn ⟨b,off,none⟩ e)⟩
theorem RunAt.keep {w w':World} {r k:Nat} {t:Tr} {a:Int} {A:Option Addr} {n c:Nat} {Az:Option Addr} {nz cz:Nat} {zs:List Zn} {T:Nat→Prop} (h:RunAt w r k t a A n c Az nz cz zs) (kf:KF T w w') (hr:¬T r) (hk:¬T k) (hz:∀ad,Az=some ad→¬T ad.block):RunAt w' r k t a A n c Az nz cz zs:=
 ⟨kf.row h.e hk,kf.row h.r hr,h.zl,(slKF h.z kf hz).more (fun _ _ h=>h) kf.size⟩
structure StopAt (L b1 b2 r k:Nat) (t:Tr) (a:Int) (A:Option Addr) (n c:Nat) (Az:Option Addr) (nz cz:Nat) (zs:List Zn) (x:Pt) (W:World):Prop where
 x1:Rw W b1 98 #[.pointer (some ⟨r,0,none⟩)]
 x2:Rw W b2 102 (fPt x).toArray
 run:RunAt W r k t a A n c Az nz cz zs
 h1:b1<b2
 hr:r<b1
 hk:k<b1
 hz:∀ad,Az=some ad→ad.block<b1
 l1:L≠b1
 l2:L≠b2
 lr:L≠r
 lk:L≠k
 lz:∀ad,Az=some ad→L≠ad.block
section
variable {L b1 b2 r k:Nat} {t:Tr} {a:Int} {A:Option Addr} {n c:Nat} {Az:Option Addr} {nz cz:Nat} {zs:List Zn} {x:Pt} {W W':World}
theorem StopAt.keep (h:StopAt L b1 b2 r k t a A n c Az nz cz zs x W) (kf:KF (· = L) W W'):StopAt L b1 b2 r k t a A n c Az nz cz zs x W':=
 {h with x1:=kf.row h.x1 (fun e=>h.l1 e.symm),x2:=kf.row h.x2 (fun e=>h.l2 e.symm),run:=h.run.keep kf (fun e=>h.lr e.symm) (fun e=>h.lk e.symm) (fun ad e h'=>h.lz ad e h'.symm)}
theorem StopAt.keepT {T:Nat→Prop} (h:StopAt L b1 b2 r k t a A n c Az nz cz zs x W) (kf:KF T W W') (n1:¬T b1) (n2:¬T b2) (n3:¬T r) (n4:¬T k) (n5:∀ad,Az=some ad→¬T ad.block):StopAt L b1 b2 r k t a A n c Az nz cz zs x W':=
 {h with x1:=kf.row h.x1 n1,x2:=kf.row h.x2 n2,run:=h.run.keep kf n3 n4 n5}
theorem StopAt.below (h:StopAt L b1 b2 r k t a A n c Az nz cz zs x W) (hb:Below W.heap.size W W'):StopAt L b1 b2 r k t a A n c Az nz cz zs x W':=h.keep (KF.of_below hb)
theorem StopAt.set (h:StopAt L b1 b2 r k t a A n c Az nz cz zs x W) (y:Pt):StopAt L b1 b2 r k t a A n c Az nz cz zs y (((W.setCell ⟨b2,0,none⟩ (O U y.m)).setCell ⟨b2,1,none⟩ (O U y.y)).setCell ⟨b2,2,none⟩ (O U (y.z:Int))):=by
 have kf:KF (· = b2) W (((W.setCell ⟨b2,0,none⟩ (O U y.m)).setCell ⟨b2,1,none⟩ (O U y.y)).setCell ⟨b2,2,none⟩ (O U (y.z:Int))):=
  ((KF.setCell (T:=(· = b2)) W ⟨b2,0,none⟩ (O U y.m) rfl).trans (KF.setCell (T:=(· = b2)) _ ⟨b2,1,none⟩ (O U y.y) rfl)).trans (KF.setCell (T:=(· = b2)) _ ⟨b2,2,none⟩ (O U (y.z:Int)) rfl)
 have h1:=h.h1;have h2:=h.hr;have h3:=h.hk
 exact {h with x1:=kf.row h.x1 (by omega),x2:=((h.x2.set 0 _).set 1 _).set 2 _,run:=h.run.keep kf (by omega) (by omega) (fun ad e=>by have:=h.hz ad e;omega)}
end
set_option maxRecDepth 100000 in
set_option maxHeartbeats 4000000 in
theorem stopping_any (r:Nat) (x:Pt) (w:World):Calls Tryz.prog 78 #[.pointer (some ⟨r,0,none⟩),.agg #[O U x.m,O U x.y,O U (x.z:Int)]] w fun e w'=>
  e= .returned (.func (.func 102) #[] #[.pointer (some ⟨w.heap.size,0,none⟩),.pointer (some ⟨w.heap.size+1,0,none⟩)])∧(w.alloc (.cells #[.pointer (some ⟨r,0,none⟩)] 98)).alloc (.cells (fPt x).toArray 102)=w':=by
 unfold fPt
 go_enter Tryz.func78,Tryz.ntmps78
 go_wp2
 go_ret
 exact⟨rfl,rfl⟩
theorem StopAt.made {L r k:Nat} {t:Tr} {a:Int} {A:Option Addr} {n c:Nat} {Az:Option Addr} {nz cz:Nat} {zs:List Zn} {w:World} (x:Pt) (h:RunAt w r k t a A n c Az nz cz zs) (hz:∀ad,Az=some ad→ad.block<w.heap.size) (hL:L<w.heap.size) (lr:L≠r) (lk:L≠k) (lz:∀ad,Az=some ad→L≠ad.block) :
  StopAt L w.heap.size (w.heap.size+1) r k t a A n c Az nz cz zs x ((w.alloc (.cells #[.pointer (some ⟨r,0,none⟩)] 98)).alloc (.cells (fPt x).toArray 102)):=by
 obtain⟨q1,q2⟩:=rows2 w #[.pointer (some ⟨r,0,none⟩)] (fPt x).toArray 98 102
 exact⟨q1,q2,h.below (((Below.refl _ _).alloc (Nat.le_refl _) _).alloc (by simp) _),by omega,h.r.lt,h.e.lt,hz,by omega,by omega,lr,lk,lz⟩
open Go.RowKit Go.Shelf Go.Lib Go.BigFrame
attribute [local go_sem] Oper.semAt_some
theorem brkM_next {t:Tr} {a:Int} {zs:List Zn} (x:Pt):brkM t a zs x=nextZ t a x.m (-4) (zslp zs x.z):=by
 unfold brkM nextZ fsZ Fs.sum sumZ pullZ
 simp only
 rw [if_pos (by omega)]
 congr 1
 omega
theorem brkM_ok {t:Tr} {a:Int} {zs:List Zn} {x:Pt} (ht:TrOk t) (ha:0≤a) (hz:ZsOk zs) (hx:PtOk t zs x):0≤brkM t a zs x∧brkM t a zs x≤2080000000:=by
 obtain⟨g,hg⟩:∃g,zs[x.z]? = some g:=⟨_,List.getElem?_eq_getElem hx.z⟩
 have hs:=hz.sl g (List.mem_of_getElem? hg)
 have hf:=fs_ok ht (d:= -4) (sl:=zslp zs x.z) ha hx.m0 hx.m1 (by omega) (by omega) (by unfold zslp;rw [hg];exact hs.1) (by unfold zslp;rw [hg];exact hs.2)
 rw [brkM_next]
 exact next_bd hf (by have:=hx.m1;have:=ht.m2;omega)
theorem drag_bd {t:Tr} (ht:TrOk t) {v:Int} (h0:0≤v) (h1:v≤25000):0≤dragZ t v∧dragZ t v≤350000:=by
 have h:=(fs_ok ht (a:=0) (m:=v * t.mass) (d:=0) (sl:=0) (by omega) (Int.mul_nonneg h0 (by have:=ht.m1;omega)) (Int.mul_le_mul_of_nonneg_right h1 (by have:=ht.m1;omega)) (by omega) (by omega) (by omega) (by omega))
 have e:v * t.mass / t.mass=v:=Int.mul_ediv_cancel _ (by have:=ht.m1;omega)
 have h1:=h.d1;have h2:=h.d2
 unfold fsZ at h1 h2
 rw [e] at h1 h2
 exact⟨h1,h2⟩
theorem hill_bd {t:Tr} (ht:TrOk t) {s:Int} (h0: -120≤s) (h1:s≤120): -94176≤hillZ t s∧hillZ t s≤94176:=by
 have h:=(fs_ok ht (a:=0) (m:=0) (d:=0) (sl:=s) (by omega) (by omega) (by have:=ht.m1;omega) (by omega) (by omega) h0 h1)
 exact⟨h.h1,h.h2⟩
theorem brake_bd {t:Tr} (ht:TrOk t) {a:Int} (ha:0≤a):0≤brakeZ t a (-4)∧brakeZ t a (-4)≤200000:=by
 have h:=(fs_ok ht (a:=a) (m:=0) (d:= -4) (sl:=0) ha (by omega) (by have:=ht.m1;omega) (by omega) (by omega) (by omega) (by omega))
 exact⟨h.b1,h.b2⟩
set_option maxRecDepth 100000 in
set_option maxHeartbeats 4000000 in
theorem stopping_seq (d:Nat) (hd:3≤d) (L b1 b2 r k:Nat) (t:Tr) (a:Int) (A:Option Addr) (n c:Nat) (Az:Option Addr) (nz cz:Nat) (zs:List Zn) (x0:Pt) (w:World) (hSt:StopAt L b1 b2 r k t a A n c Az nz cz zs x0 w) (ht:TrOk t) (ha:0≤a) (hz:ZsOk zs) (hx:PtOk t zs x0) (hy:x0.y≤10100000000000000) (hL:L<w.heap.size) :
  SeqX Fence.wide d Tryz.prog 102 #[.pointer (some ⟨b1,0,none⟩),.pointer (some ⟨b2,0,none⟩)] (fun x:{x:Pt // PtOk t zs x}=>#[.agg #[O U x.1.m,O U x.1.y,O U (x.1.z:Int)]]) (KF (· = L)) b2 (fun xs=>xs.map (·.1)=ptsL t a zs 36000 x0) (fun pre=>pre≠ []∧∃s,pre.map (·.1) ++ s=ptsL t a zs 36000 x0) 36001 w:=by
 intro l J Jx W hW hJ hJx hY h0
 dsimp only at hY
 have hSW:=hSt.below hW
 clear hSt
 refine callsIn_of_wp Tryz.func102 rfl trivial ?_ rfl
 simp only [Tryz.ntmps102,List.size_toArray,List.length_cons,List.length_nil,Nat.reduceAdd,Nat.reduceSub,Array.replicate_succ,Array.replicate_zero,List.push_toArray,List.append_toArray,List.nil_append,List.cons_append]
 obtain⟨ib,hib⟩:∃z,W.heap.size=z:=⟨_,rfl⟩
 have hi1:=Rw.new W #[O U 0,O U (-4),O U 0] 174
 have hbi:=(Below.refl W.heap.size W).alloc (Nat.le_refl _) (.cells #[O U 0,O U (-4),O U 0] 174)
 have hS1:=hSW.below hbi
 have hJ1:=hJ _ _ _ h0 (Gi.of_below hbi)
 have hW0:=hSW.x1.lt
 have hW00:=hSW.x2.lt
 have hrlt:=hSW.run.r.lt
 have hklt:=hSW.run.e.lt
 have hLlt:=Nat.lt_of_lt_of_le hL hW.size
 rw [hib] at hJ hJx
 rw [hib] at hi1 hbi hW0 hW00 hrlt hklt hLlt
 gi_wp2
 try rw [hib]
 obtain⟨W1,hW1⟩:∃z,W.alloc (.cells #[O U 0,O U (-4),O U 0] 174)=z:=⟨_,rfl⟩
 rw [hW1] at hi1 hbi hS1 hJ1 ⊢
 clear hW1 hSW h0
 have HS1:=Z hS1;have HI1:=Z hi1;have HJ1:=Z hJ1
 have HSK:=Z (show ∀wx,Below W1.heap.size W1 wx→Rw wx b1 98 #[.pointer (some ⟨r,0,none⟩)]∧Rw wx r 147 #[.pointer (some ⟨k,0,none⟩),O U (10 * t.mass),.slice Az nz cz]∧Rw wx ib 174 #[O U 0,O U (-4),O U 0]∧Rw wx k 139 #[O U t.mass,O U t.len,O U t.speed,O U t.effort,O U t.brake,O U t.power,O U t.resist,O U t.rise,O U t.back,.slice A n c,O U a,.func (.func 74) #[.pointer (some ⟨k,0,none⟩)] #[],.func (.func 75) #[.pointer (some ⟨k,0,none⟩)] #[],.func (.func 76) #[.pointer (some ⟨k,0,none⟩)] #[],.func (.func 77) #[.pointer (some ⟨k,0,none⟩)] #[]] from fun wx h=>⟨(hS1.below h).x1,(hS1.below h).run.r,hi1.below h hi1.lt,(hS1.below h).run.e⟩)
 clear hS1 hi1 hJ1
 refine wpIn_wide.2 ?_
 have hbq:Below W1.heap.size W1 W1.drew:=(Below.refl _ _).drew
 have HS:=Z (HSK.out _ hbq)
 refine wp_region_held_drew (S:=fun wx=>Rw wx b1 98 #[.pointer (some ⟨r,0,none⟩)]∧Rw wx r 147 #[.pointer (some ⟨k,0,none⟩),O U (10 * t.mass),.slice Az nz cz]∧Rw wx ib 174 #[O U 0,O U (-4),O U 0]∧Rw wx k 139 #[O U t.mass,O U t.len,O U t.speed,O U t.effort,O U t.brake,O U t.power,O U t.resist,O U t.rise,O U t.back,.slice A n c,O U a,.func (.func 74) #[.pointer (some ⟨k,0,none⟩)] #[],.func (.func 75) #[.pointer (some ⟨k,0,none⟩)] #[],.func (.func 76) #[.pointer (some ⟨k,0,none⟩)] #[],.func (.func 77) #[.pointer (some ⟨k,0,none⟩)] #[]]) (by kernel_rfl) HS.out (fun _=> ?_)
 refine hTk (i:=0) (d:=8) (v:= .pointer (some ⟨r,0,none⟩)) rfl rfl (Or.inl ⟨rfl,by rintro W' ⟨s0,s1,s2,s3⟩;have y0:=s0.cell 0;have z0:=s1.cell 0;have i0:=s2.cell 0;have i1:=s2.cell 1;have i2:=s2.cell 2;go_simp⟩) HS.out ?_
 simp only [Act.put,sB,sZ,sS]
 refine hTk (i:=1) (d:=9) (v:= .pointer (some ⟨r,0,none⟩)) rfl rfl (Or.inl ⟨rfl,by rintro W' ⟨s0,s1,s2,s3⟩;have y0:=s0.cell 0;have z0:=s1.cell 0;have i0:=s2.cell 0;have i1:=s2.cell 1;have i2:=s2.cell 2;go_simp⟩) HS.out ?_
 simp only [Act.put,sB,sZ,sS]
 refine hTk (i:=2) (d:=10) (v:= .pointer (some ⟨r,0,none⟩)) rfl rfl (Or.inl ⟨rfl,by rintro W' ⟨s0,s1,s2,s3⟩;have y0:=s0.cell 0;have z0:=s1.cell 0;have i0:=s2.cell 0;have i1:=s2.cell 1;have i2:=s2.cell 2;go_simp⟩) HS.out ?_
 simp only [Act.put,sB,sZ,sS]
 refine hTk (i:=3) (d:=11) (v:= .pointer (some ⟨k,0,none⟩)) rfl rfl (Or.inl ⟨rfl,by rintro W' ⟨s0,s1,s2,s3⟩;have y0:=s0.cell 0;have z0:=s1.cell 0;have i0:=s2.cell 0;have i1:=s2.cell 1;have i2:=s2.cell 2;go_simp⟩) HS.out ?_
 simp only [Act.put,sB,sZ,sS]
 refine hTk (i:=4) (d:=12) (v:= .agg #[O U 0,O U (-4),O U 0]) rfl rfl (Or.inl ⟨rfl,by rintro W' ⟨s0,s1,s2,s3⟩;have y0:=s0.cell 0;have z0:=s1.cell 0;have i0:=s2.cell 0;have i1:=s2.cell 1;have i2:=s2.cell 2;go_simp⟩) HS.out ?_
 simp only [Act.put,sB,sZ,sS]
 refine wpAnyH_ready (rs:= [5]) (by kernel_rfl) (by simp) ?_
 refine AllReadyH.cons rfl (fun K hK=> ?_) AllReadyH.nil
 rw [if_pos (by rfl)]
 go_simp
 go_at_call 75
 (with_reducible refine (brake_any A c n k t a 0 (-4) 0 _ (HSK.out _ hbq).2.2.2 ht (by omega) (by omega)).mono ?_)
 rintro e w2 ⟨rfl,hbn⟩
 replace hbq:=hbq.trans (hbn.mono hbq.size)
 clear hbn
 have HS:=Z (HSK.out _ hbq)
 refine hK.out _ _ HS.out (fun _=> ?_)
 clear hK K
 try simp only [Act.put,sB,sZ,sS]
 refine hTk (i:=6) (d:=5) (v:=O U (brakeZ t a (-4))) rfl rfl (Or.inl ⟨rfl,by rintro W' ⟨s0,s1,s2,s3⟩;have y0:=s0.cell 0;have z0:=s1.cell 0;have i0:=s2.cell 0;have i1:=s2.cell 1;have i2:=s2.cell 2;go_simp⟩) HS.out ?_
 simp only [Act.put,sB,sZ,sS]
 refine wpAnyH_done (by kernel_rfl) ?_ _
 have HB2:=Z hbq
 have hi2:=(HSK.out _ hbq).2.2.1
 have hS2:=HS1.out.below hbq
 have hJ2:=hJ _ _ _ HJ1.out (Gi.of_below hbq)
 clear hbq HS HSK HS1 HI1 HJ1
 obtain⟨st,hst⟩:∃z,brakeZ t a (-4)=z:=⟨_,rfl⟩
 rw [hst]
 have HST:=Z hst
 have hsb:=brake_bd ht ha
 rw [hst] at hsb
 clear hst
 gi_wp2
 gi_loopw [14] (fun i wr=>∃(j f:Nat) (xs:List {x:Pt // PtOk t zs x}) (X:{x:Pt // PtOk t zs x}) (sp sl:Int),i=O U (j:Int)∧j+f=36000∧xs.length=j∧J xs wr∧StopAt L b1 b2 r k t a A n c Az nz cz zs X.1 wr∧Rw wr ib 174 #[O U sp,O U (-4),O U sl]∧X.1.y≤10100000000000000+2000000000 * (j:Int)∧ptsL t a zs 36000 x0=xs.map (·.1) ++ ptsL t a zs f X.1) (fun i _=>36000 - (intOf i).toNat)
 case atStart=>exact⟨0,36000, [],⟨x0,hx⟩,0,0,rfl,rfl,rfl,hJ2,hS2,hi2,by show x0.y≤_;omega,rfl⟩
 case round=>
  obtain⟨j,f,xs,X,sp,sl,rfl,hjf,hxl,hJr,hSr,hir,hxy,hp⟩:=hrel
  clear hi2 hS2 hJ2 HB2
  have hlen:xs.length<36001:=by omega
  obtain⟨fn,tmps,assign,body,hyv,hRd⟩:=hY xs X wr hJr hlen
  have hxo:=X.2
  obtain⟨x,hX⟩:∃x,X.1=x:=⟨_,rfl⟩
  rw [hX] at hyv hxo hxy hp hSr
  replace hyv:(Instr.yield l #[.agg #[O U x.m,O U x.y,O U (x.z:Int)]]).run Tryz.prog wr= .ok (.round l fn tmps assign body) wr:=hyv
  have e0:=hSr.x2.cell 0;have e1:=hSr.x2.cell 1;have e2:=hSr.x2.cell 2
  simp only [fPt] at e0 e1 e2
  have HRD:=Z hRd;have HSr:=Z hSr;have HIR:=Z hir;have HXO:=Z hxo;have HP:=Z hp;have HXY:=Z hxy;have HX:=Z hX
  have HJF:=Z hjf;have HXL:=Z hxl
  clear hRd hSr hir hxo hp hxy hJr hX hjf hxl
  by_cases hlt:j<36000
  ·have hlt':(j:Int)<36000:=by omega
   gi_wp2
   refine⟨(fun h=>by cases h),HRD.out.mono ?_⟩
   rintro e W5 (⟨rfl,hJ5,hk5⟩|⟨rfl,hJ5⟩)
   ·have hs5:=HSr.out.keep hk5
    have hi5:=hk5.row HIR.out (by omega)
    have e0:=hs5.x2.cell 0;have e1:=hs5.x2.cell 1;have e2:=hs5.x2.cell 2
    simp only [fPt] at e0 e1 e2
    have HS5:=Z hs5;have HI5:=Z hi5;have HJ5:=Z hJ5
    clear hs5 hi5 hJ5 hk5
    by_cases hm0:x.m=0
    ·rw [hm0] at e0
     gi_wp2
     (try simp only [Exit.inBlock,Exit.then])
     refine bodyPost_ret (results_none rfl _ _ _) rfl ?_
     refine⟨⟨_,rfl⟩,.inl ⟨xs ++ [X], ?_,HJ5.out⟩⟩
     rw [HP.out,List.map_append,ptsL_zero hm0,List.map_cons,List.map_nil,HX.out]
    ·have hm0':(x.m == 0)=false:=by rw [beq_eq_false_iff_ne];exact hm0
     have HM0:=Z hm0
     clear hm0
     gi_wp2
     clear e0 e1 e2 hm0'
     obtain⟨f',rfl⟩:∃f',f=f'+1:=⟨f - 1,by have:=HJF.out;omega⟩
     have hxo:=HXO.out
     obtain⟨g,hg⟩:∃g,zs[x.z]'hxo.z=g:=⟨_,rfl⟩
     have hg? : zs[x.z]? = some g:=by rw [List.getElem?_eq_getElem hxo.z,hg]
     have hgs:=hz.sl g (List.mem_of_getElem? hg?)
     have hzsl:zslp zs x.z=g.sl:=by unfold zslp;rw [hg?]
     have hsp:=speed_bd ht hxo.m0 hxo.m1
     have hdr:=drag_bd ht hsp.1 hsp.2
     have hhl:=hill_bd ht hgs.1 hgs.2
     have hnb:=brkM_ok (a:=a) ht ha hz hxo
     have hbm:afterZ x.m (-st - dragZ t (x.m / t.mass) - hillZ t g.sl)=brkM t a zs x:=by unfold brkM;rw [HST.out,hzsl]
     have hm1:=ht.m1;have hm2:=ht.m2
     have hxm0:=hxo.m0;have hxm1:=hxo.m1
     have hmz:¬t.mass=0:=by omega
     have hq1:x.m.tdiv t.mass=x.m / t.mass:=Int.tdiv_eq_ediv_of_nonneg hxm0
     have hq2:=wrapDiv (y:=x.m) (u:=t.mass) hxm0 (by omega) (by omega)
     obtain⟨v,hv⟩:∃v,x.m / t.mass=v:=⟨_,rfl⟩
     rw [hv] at hsp hdr hbm hq1 hq2
     have hwv:IntKind.i64.wrap v=v:=by rw [IntKind.wrap_i64];omega
     have hw1:IntKind.i64.wrap (-st)= -st:=by rw [IntKind.wrap_i64];omega
     have hw2:IntKind.i64.wrap (-st - dragZ t v)= -st - dragZ t v:=by rw [IntKind.wrap_i64];omega
     have hw3:IntKind.i64.wrap (-st - dragZ t v - hillZ t g.sl)= -st - dragZ t v - hillZ t g.sl:=by rw [IntKind.wrap_i64];omega
     have HSL:=Z (show ∀wx,Below W5.heap.size W5 wx→Calls Tryz.prog 103 #[.pointer (some ⟨r,0,none⟩),.agg #[O U x.m,O U x.y,O U (x.z:Int)]] wx fun e w'=>e= .returned (O U g.sl)∧Below wx.heap.size wx w' from fun wx h=>slope_any wx r k t a A n c Az nz cz zs x.m x.y (x.z:Int) (HS5.out.below h).run ht x.z g rfl hxo.z hg (by have:=hz.ln;have:=HS5.out.run.zl;omega))
     have HSK:=Z (show ∀wx,Below W5.heap.size W5 wx→Rw wx b1 98 #[.pointer (some ⟨r,0,none⟩)]∧Rw wx b2 102 #[O U x.m,O U x.y,O U (x.z:Int)]∧Rw wx r 147 #[.pointer (some ⟨k,0,none⟩),O U (10 * t.mass),.slice Az nz cz]∧Rw wx ib 174 #[O U sp,O U (-4),O U sl]∧Rw wx k 139 #[O U t.mass,O U t.len,O U t.speed,O U t.effort,O U t.brake,O U t.power,O U t.resist,O U t.rise,O U t.back,.slice A n c,O U a,.func (.func 74) #[.pointer (some ⟨k,0,none⟩)] #[],.func (.func 75) #[.pointer (some ⟨k,0,none⟩)] #[],.func (.func 76) #[.pointer (some ⟨k,0,none⟩)] #[],.func (.func 77) #[.pointer (some ⟨k,0,none⟩)] #[]] from fun wx h=>⟨(HS5.out.below h).x1,(HS5.out.below h).x2,(HS5.out.below h).run.r,HI5.out.below h HI5.out.lt,(HS5.out.below h).run.e⟩)
     refine wpIn_wide.2 ?_
     have hbq:Below W5.heap.size W5 W5.drew:=(Below.refl _ _).drew
     have HS:=Z (HSK.out _ hbq)
     refine wp_region_held_drew (S:=fun wx=>Rw wx b1 98 #[.pointer (some ⟨r,0,none⟩)]∧Rw wx b2 102 #[O U x.m,O U x.y,O U (x.z:Int)]∧Rw wx r 147 #[.pointer (some ⟨k,0,none⟩),O U (10 * t.mass),.slice Az nz cz]∧(∃u0 u2,Rw wx ib 174 #[u0,O U (-4),u2])∧Rw wx k 139 #[O U t.mass,O U t.len,O U t.speed,O U t.effort,O U t.brake,O U t.power,O U t.resist,O U t.rise,O U t.back,.slice A n c,O U a,.func (.func 74) #[.pointer (some ⟨k,0,none⟩)] #[],.func (.func 75) #[.pointer (some ⟨k,0,none⟩)] #[],.func (.func 76) #[.pointer (some ⟨k,0,none⟩)] #[],.func (.func 77) #[.pointer (some ⟨k,0,none⟩)] #[]]) (by kernel_rfl) ⟨HS.out.1,HS.out.2.1,HS.out.2.2.1,⟨_,_,HS.out.2.2.2.1⟩,HS.out.2.2.2.2⟩ (fun _=> ?_)
     replace HS:=Z (show Rw W5.drew b1 98 #[.pointer (some ⟨r,0,none⟩)]∧Rw W5.drew b2 102 #[O U x.m,O U x.y,O U (x.z:Int)]∧Rw W5.drew r 147 #[.pointer (some ⟨k,0,none⟩),O U (10 * t.mass),.slice Az nz cz]∧(∃u0 u2,Rw W5.drew ib 174 #[u0,O U (-4),u2])∧Rw W5.drew k 139 #[O U t.mass,O U t.len,O U t.speed,O U t.effort,O U t.brake,O U t.power,O U t.resist,O U t.rise,O U t.back,.slice A n c,O U a,.func (.func 74) #[.pointer (some ⟨k,0,none⟩)] #[],.func (.func 75) #[.pointer (some ⟨k,0,none⟩)] #[],.func (.func 76) #[.pointer (some ⟨k,0,none⟩)] #[],.func (.func 77) #[.pointer (some ⟨k,0,none⟩)] #[]] from⟨HS.out.1,HS.out.2.1,HS.out.2.2.1,⟨_,_,HS.out.2.2.2.1⟩,HS.out.2.2.2.2⟩)
     refine hTk (i:=0) (d:=26) (v:= .pointer (some ⟨b2,0,none⟩)) rfl rfl (Or.inl ⟨rfl,by rintro W' ⟨s0,s1,s2,s3,s4⟩;have y0:=s0.cell 0;have x0:=s1.cell 0;have x1:=s1.cell 1;have x2:=s1.cell 2;have z0:=s2.cell 0;have k0:=s4.cell 0;go_simp⟩) HS.out ?_
     simp only [Act.put,sB,sZ,sS]
     refine hTk (i:=1) (d:=27) (v:= .pointer (some ⟨b2,0,none⟩)) rfl rfl (Or.inl ⟨rfl,by rintro W' ⟨s0,s1,s2,s3,s4⟩;have y0:=s0.cell 0;have x0:=s1.cell 0;have x1:=s1.cell 1;have x2:=s1.cell 2;have z0:=s2.cell 0;have k0:=s4.cell 0;go_simp⟩) HS.out ?_
     simp only [Act.put,sB,sZ,sS]
     refine hTk (i:=2) (d:=28) (v:=O U x.m) rfl rfl (Or.inl ⟨rfl,by rintro W' ⟨s0,s1,s2,s3,s4⟩;have y0:=s0.cell 0;have x0:=s1.cell 0;have x1:=s1.cell 1;have x2:=s1.cell 2;have z0:=s2.cell 0;have k0:=s4.cell 0;go_simp⟩) HS.out ?_
     simp only [Act.put,sB,sZ,sS]
     refine hTk (i:=3) (d:=29) (v:= .pointer (some ⟨r,0,none⟩)) rfl rfl (Or.inl ⟨rfl,by rintro W' ⟨s0,s1,s2,s3,s4⟩;have y0:=s0.cell 0;have x0:=s1.cell 0;have x1:=s1.cell 1;have x2:=s1.cell 2;have z0:=s2.cell 0;have k0:=s4.cell 0;go_simp⟩) HS.out ?_
     simp only [Act.put,sB,sZ,sS]
     refine hTk (i:=4) (d:=30) (v:= .pointer (some ⟨r,0,none⟩)) rfl rfl (Or.inl ⟨rfl,by rintro W' ⟨s0,s1,s2,s3,s4⟩;have y0:=s0.cell 0;have x0:=s1.cell 0;have x1:=s1.cell 1;have x2:=s1.cell 2;have z0:=s2.cell 0;have k0:=s4.cell 0;go_simp⟩) HS.out ?_
     simp only [Act.put,sB,sZ,sS]
     refine hTk (i:=5) (d:=31) (v:= .pointer (some ⟨r,0,none⟩)) rfl rfl (Or.inl ⟨rfl,by rintro W' ⟨s0,s1,s2,s3,s4⟩;have y0:=s0.cell 0;have x0:=s1.cell 0;have x1:=s1.cell 1;have x2:=s1.cell 2;have z0:=s2.cell 0;have k0:=s4.cell 0;go_simp⟩) HS.out ?_
     simp only [Act.put,sB,sZ,sS]
     refine hTk (i:=6) (d:=32) (v:= .pointer (some ⟨k,0,none⟩)) rfl rfl (Or.inl ⟨rfl,by rintro W' ⟨s0,s1,s2,s3,s4⟩;have y0:=s0.cell 0;have x0:=s1.cell 0;have x1:=s1.cell 1;have x2:=s1.cell 2;have z0:=s2.cell 0;have k0:=s4.cell 0;go_simp⟩) HS.out ?_
     simp only [Act.put,sB,sZ,sS]
     refine hTk (i:=7) (d:=33) (v:= .pointer (some ⟨k,0,none⟩)) rfl rfl (Or.inl ⟨rfl,by rintro W' ⟨s0,s1,s2,s3,s4⟩;have y0:=s0.cell 0;have x0:=s1.cell 0;have x1:=s1.cell 1;have x2:=s1.cell 2;have z0:=s2.cell 0;have k0:=s4.cell 0;go_simp⟩) HS.out ?_
     simp only [Act.put,sB,sZ,sS]
     refine hTk (i:=8) (d:=34) (v:= .pointer (some ⟨k,0,none⟩)) rfl rfl (Or.inl ⟨rfl,by rintro W' ⟨s0,s1,s2,s3,s4⟩;have y0:=s0.cell 0;have x0:=s1.cell 0;have x1:=s1.cell 1;have x2:=s1.cell 2;have z0:=s2.cell 0;have k0:=s4.cell 0;go_simp⟩) HS.out ?_
     simp only [Act.put,sB,sZ,sS]
     refine hTk (i:=9) (d:=35) (v:= .pointer (some ⟨k,0,none⟩)) rfl rfl (Or.inl ⟨rfl,by rintro W' ⟨s0,s1,s2,s3,s4⟩;have y0:=s0.cell 0;have x0:=s1.cell 0;have x1:=s1.cell 1;have x2:=s1.cell 2;have z0:=s2.cell 0;have k0:=s4.cell 0;go_simp⟩) HS.out ?_
     simp only [Act.put,sB,sZ,sS]
     refine hTk (i:=10) (d:=36) (v:=O U t.mass) rfl rfl (Or.inl ⟨rfl,by rintro W' ⟨s0,s1,s2,s3,s4⟩;have y0:=s0.cell 0;have x0:=s1.cell 0;have x1:=s1.cell 1;have x2:=s1.cell 2;have z0:=s2.cell 0;have k0:=s4.cell 0;go_simp⟩) HS.out ?_
     simp only [Act.put,sB,sZ,sS]
     refine hTk (i:=11) (d:=37) (v:=O U v) rfl rfl (Or.inl ⟨rfl,by rintro W' ⟨s0,s1,s2,s3,s4⟩;have y0:=s0.cell 0;have x0:=s1.cell 0;have x1:=s1.cell 1;have x2:=s1.cell 2;have z0:=s2.cell 0;have k0:=s4.cell 0;go_simp⟩) HS.out ?_
     simp only [Act.put,sB,sZ,sS]
     refine hTk (i:=12) (d:=38) (v:= .pointer (some ⟨r,0,none⟩)) rfl rfl (Or.inl ⟨rfl,by rintro W' ⟨s0,s1,s2,s3,s4⟩;have y0:=s0.cell 0;have x0:=s1.cell 0;have x1:=s1.cell 1;have x2:=s1.cell 2;have z0:=s2.cell 0;have k0:=s4.cell 0;go_simp⟩) HS.out ?_
     simp only [Act.put,sB,sZ,sS]
     refine hTk (i:=13) (d:=39) (v:= .agg #[O U x.m,O U x.y,O U (x.z:Int)]) rfl rfl (Or.inl ⟨rfl,by rintro W' ⟨s0,s1,s2,s3,s4⟩;have y0:=s0.cell 0;have x0:=s1.cell 0;have x1:=s1.cell 1;have x2:=s1.cell 2;have z0:=s2.cell 0;have k0:=s4.cell 0;go_simp⟩) HS.out ?_
     simp only [Act.put,sB,sZ,sS]
     refine hTk (i:=15) (d:=41) (v:= .pointer (some ⟨ib,0,none⟩)) rfl rfl (Or.inl ⟨rfl,by rintro W' ⟨s0,s1,s2,s3,s4⟩;have y0:=s0.cell 0;have x0:=s1.cell 0;have x1:=s1.cell 1;have x2:=s1.cell 2;have z0:=s2.cell 0;have k0:=s4.cell 0;go_simp⟩) HS.out ?_
     simp only [Act.put,sB,sZ,sS]
     refine wpAnyH_ready (rs:= [14]) (by kernel_rfl) (by simp) ?_
     refine AllReadyH.cons rfl (fun K hK=> ?_) AllReadyH.nil
     rw [if_pos (by rfl)]
     go_simp
     go_at_call 103
     (with_reducible refine (HSL.out _ hbq).mono ?_)
     rintro e w6 ⟨rfl,hbn⟩
     replace hbq:=hbq.trans (hbn.mono hbq.size)
     clear hbn
     have HS5b:=HSK.out _ hbq
     have hib5:=HS5b.2.2.2.1
     have HS:=Z (show Rw w6 b1 98 #[.pointer (some ⟨r,0,none⟩)]∧Rw w6 b2 102 #[O U x.m,O U x.y,O U (x.z:Int)]∧Rw w6 r 147 #[.pointer (some ⟨k,0,none⟩),O U (10 * t.mass),.slice Az nz cz]∧(∃u0 u2,Rw w6 ib 174 #[u0,O U (-4),u2])∧Rw w6 k 139 #[O U t.mass,O U t.len,O U t.speed,O U t.effort,O U t.brake,O U t.power,O U t.resist,O U t.rise,O U t.back,.slice A n c,O U a,.func (.func 74) #[.pointer (some ⟨k,0,none⟩)] #[],.func (.func 75) #[.pointer (some ⟨k,0,none⟩)] #[],.func (.func 76) #[.pointer (some ⟨k,0,none⟩)] #[],.func (.func 77) #[.pointer (some ⟨k,0,none⟩)] #[]] from⟨HS5b.1,HS5b.2.1,HS5b.2.2.1,⟨_,_,hib5⟩,HS5b.2.2.2.2⟩)
     have HBQ:=Z hbq
     refine hK.out _ _ HS.out (fun _=> ?_)
     clear hK K
     try simp only [Act.put,sB,sZ,sS]
     refine wpAnyH_ready (rs:= [16]) (by kernel_rfl) (by simp) ?_
     refine AllReadyH.cons rfl (fun K hK=> ?_) AllReadyH.nil
     rw [if_pos (by rfl)]
     have c0:=hib5.cell 0;have f0:=hib5.frozen 0
     go_simp
     have hib6:=hib5.set 0 (O U v)
     have HS6b:=(show Rw (w6.setCell ⟨ib,0,none⟩ (O U v)) b1 98 #[.pointer (some ⟨r,0,none⟩)]∧Rw (w6.setCell ⟨ib,0,none⟩ (O U v)) b2 102 #[O U x.m,O U x.y,O U (x.z:Int)]∧Rw (w6.setCell ⟨ib,0,none⟩ (O U v)) r 147 #[.pointer (some ⟨k,0,none⟩),O U (10 * t.mass),.slice Az nz cz]∧Rw (w6.setCell ⟨ib,0,none⟩ (O U v)) k 139 #[O U t.mass,O U t.len,O U t.speed,O U t.effort,O U t.brake,O U t.power,O U t.resist,O U t.rise,O U t.back,.slice A n c,O U a,.func (.func 74) #[.pointer (some ⟨k,0,none⟩)] #[],.func (.func 75) #[.pointer (some ⟨k,0,none⟩)] #[],.func (.func 76) #[.pointer (some ⟨k,0,none⟩)] #[],.func (.func 77) #[.pointer (some ⟨k,0,none⟩)] #[]] from⟨HS5b.1.far (k:=ib) 0 _ (by omega),HS5b.2.1.far (k:=ib) 0 _ (by omega),HS5b.2.2.1.far (k:=ib) 0 _ (by omega),HS5b.2.2.2.2.far (k:=ib) 0 _ (by omega)⟩)
     have HS:=Z (show Rw (w6.setCell ⟨ib,0,none⟩ (O U v)) b1 98 #[.pointer (some ⟨r,0,none⟩)]∧Rw (w6.setCell ⟨ib,0,none⟩ (O U v)) b2 102 #[O U x.m,O U x.y,O U (x.z:Int)]∧Rw (w6.setCell ⟨ib,0,none⟩ (O U v)) r 147 #[.pointer (some ⟨k,0,none⟩),O U (10 * t.mass),.slice Az nz cz]∧(∃u0 u2,Rw (w6.setCell ⟨ib,0,none⟩ (O U v)) ib 174 #[u0,O U (-4),u2])∧Rw (w6.setCell ⟨ib,0,none⟩ (O U v)) k 139 #[O U t.mass,O U t.len,O U t.speed,O U t.effort,O U t.brake,O U t.power,O U t.resist,O U t.rise,O U t.back,.slice A n c,O U a,.func (.func 74) #[.pointer (some ⟨k,0,none⟩)] #[],.func (.func 75) #[.pointer (some ⟨k,0,none⟩)] #[],.func (.func 76) #[.pointer (some ⟨k,0,none⟩)] #[],.func (.func 77) #[.pointer (some ⟨k,0,none⟩)] #[]] from⟨HS6b.1,HS6b.2.1,HS6b.2.2.1,⟨_,_,hib6⟩,HS6b.2.2.2⟩)
     refine hK.out _ _ HS.out (fun _=> ?_)
     clear hK K
     try simp only [Act.put,sB,sZ,sS]
     refine hTk (i:=17) (d:=42) (v:= .pointer (some ⟨ib,2,none⟩)) rfl rfl (Or.inl ⟨rfl,by rintro W' ⟨s0,s1,s2,s3,s4⟩;have y0:=s0.cell 0;have x0:=s1.cell 0;have x1:=s1.cell 1;have x2:=s1.cell 2;have z0:=s2.cell 0;have k0:=s4.cell 0;go_simp⟩) HS.out ?_
     simp only [Act.put,sB,sZ,sS]
     refine wpAnyH_ready (rs:= [18]) (by kernel_rfl) (by simp) ?_
     refine AllReadyH.cons rfl (fun K hK=> ?_) AllReadyH.nil
     rw [if_pos (by rfl)]
     have c2:=hib6.cell 2;have f2:=hib6.frozen 2
     go_simp
     have hib7:=hib6.set 2 (O U g.sl)
     have HS:=Z (show Rw ((w6.setCell ⟨ib,0,none⟩ (O U v)).setCell ⟨ib,2,none⟩ (O U g.sl)) b1 98 #[.pointer (some ⟨r,0,none⟩)]∧Rw ((w6.setCell ⟨ib,0,none⟩ (O U v)).setCell ⟨ib,2,none⟩ (O U g.sl)) b2 102 #[O U x.m,O U x.y,O U (x.z:Int)]∧Rw ((w6.setCell ⟨ib,0,none⟩ (O U v)).setCell ⟨ib,2,none⟩ (O U g.sl)) r 147 #[.pointer (some ⟨k,0,none⟩),O U (10 * t.mass),.slice Az nz cz]∧(∃u0 u2,Rw ((w6.setCell ⟨ib,0,none⟩ (O U v)).setCell ⟨ib,2,none⟩ (O U g.sl)) ib 174 #[u0,O U (-4),u2])∧Rw ((w6.setCell ⟨ib,0,none⟩ (O U v)).setCell ⟨ib,2,none⟩ (O U g.sl)) k 139 #[O U t.mass,O U t.len,O U t.speed,O U t.effort,O U t.brake,O U t.power,O U t.resist,O U t.rise,O U t.back,.slice A n c,O U a,.func (.func 74) #[.pointer (some ⟨k,0,none⟩)] #[],.func (.func 75) #[.pointer (some ⟨k,0,none⟩)] #[],.func (.func 76) #[.pointer (some ⟨k,0,none⟩)] #[],.func (.func 77) #[.pointer (some ⟨k,0,none⟩)] #[]] from⟨HS6b.1.far (k:=ib) 2 _ (by omega),HS6b.2.1.far (k:=ib) 2 _ (by omega),HS6b.2.2.1.far (k:=ib) 2 _ (by omega),⟨_,_,hib7⟩,HS6b.2.2.2.far (k:=ib) 2 _ (by omega)⟩)
     refine hK.out _ _ HS.out (fun _=> ?_)
     clear hK K
     try simp only [Act.put,sB,sZ,sS]
     refine wpAnyH_done (by kernel_rfl) ?_ _
     have hb7:=HBQ.out
     have hg7:Gi b2 ib W5 ((w6.setCell ⟨ib,0,none⟩ (O U v)).setCell ⟨ib,2,none⟩ (O U g.sl)):=
      ((Gi.of_below hb7).trans (Gi.setCell _ ⟨ib,0,none⟩ _ (.inr rfl))).trans (Gi.setCell _ ⟨ib,2,none⟩ _ (.inr rfl))
     have hk7:KF (· = ib) W5 ((w6.setCell ⟨ib,0,none⟩ (O U v)).setCell ⟨ib,2,none⟩ (O U g.sl)):=
      ((KF.of_below hb7).trans (KF.setCell (T:=(· = ib)) _ ⟨ib,0,none⟩ _ rfl)).trans (KF.setCell (T:=(· = ib)) _ ⟨ib,2,none⟩ _ rfl)
     obtain⟨W7,hW7⟩:∃z,(w6.setCell ⟨ib,0,none⟩ (O U v)).setCell ⟨ib,2,none⟩ (O U g.sl)=z:=⟨_,rfl⟩
     rw [hW7] at hg7 hk7 hib7 ⊢
     have hJ7:=hJ _ _ _ HJ5.out hg7
     have hS7:StopAt L b1 b2 r k t a A n c Az nz cz zs x W7:=HS5.out.keepT hk7 (by omega) (by omega) (by omega) (by omega) (fun ad e=>by have:=HS5.out.hz ad e;omega)
     have HS7:=Z hS7;have HI7:=Z hib7;have HJ7:=Z hJ7
     clear hg7 hk7 hib7 hW7 hJ7 hS7 hb7 HBQ HS HSK HSL HS5 HI5 HJ5 HS5b HS6b hib5 hib6 c0 c2 f0 f2 hbq
     gi_wp2
     have hb7r:b1<ib∧b2<ib:=⟨hW0,hW00⟩
     have HSL7:=Z (show ∀wx,Below W7.heap.size W7 wx→Rw wx b1 98 #[.pointer (some ⟨r,0,none⟩)]∧Rw wx b2 102 #[O U x.m,O U x.y,O U (x.z:Int)]∧Rw wx r 147 #[.pointer (some ⟨k,0,none⟩),O U (10 * t.mass),.slice Az nz cz]∧Rw wx ib 174 #[O U v,O U (-4),O U g.sl]∧Rw wx k 139 #[O U t.mass,O U t.len,O U t.speed,O U t.effort,O U t.brake,O U t.power,O U t.resist,O U t.rise,O U t.back,.slice A n c,O U a,.func (.func 74) #[.pointer (some ⟨k,0,none⟩)] #[],.func (.func 75) #[.pointer (some ⟨k,0,none⟩)] #[],.func (.func 76) #[.pointer (some ⟨k,0,none⟩)] #[],.func (.func 77) #[.pointer (some ⟨k,0,none⟩)] #[]] from fun wx h=>⟨(HS7.out.below h).x1,(HS7.out.below h).x2,(HS7.out.below h).run.r,HI7.out.below h HI7.out.lt,(HS7.out.below h).run.e⟩)
     refine wpIn_wide.2 ?_
     have hbq:Below W7.heap.size W7 W7.drew:=(Below.refl _ _).drew
     have HS:=Z (HSL7.out _ hbq)
     refine wp_region_held_drew (S:=fun wx=>Rw wx b1 98 #[.pointer (some ⟨r,0,none⟩)]∧Rw wx b2 102 #[O U x.m,O U x.y,O U (x.z:Int)]∧Rw wx r 147 #[.pointer (some ⟨k,0,none⟩),O U (10 * t.mass),.slice Az nz cz]∧Rw wx ib 174 #[O U v,O U (-4),O U g.sl]∧Rw wx k 139 #[O U t.mass,O U t.len,O U t.speed,O U t.effort,O U t.brake,O U t.power,O U t.resist,O U t.rise,O U t.back,.slice A n c,O U a,.func (.func 74) #[.pointer (some ⟨k,0,none⟩)] #[],.func (.func 75) #[.pointer (some ⟨k,0,none⟩)] #[],.func (.func 76) #[.pointer (some ⟨k,0,none⟩)] #[],.func (.func 77) #[.pointer (some ⟨k,0,none⟩)] #[]]) (by kernel_rfl) HS.out (fun _=> ?_)
     refine hTk (i:=0) (d:=43) (v:= .pointer (some ⟨b2,0,none⟩)) rfl rfl (Or.inl ⟨rfl,by rintro W' ⟨s0,s1,s2,s3,s4⟩;have y0:=s0.cell 0;have x0:=s1.cell 0;have z0:=s2.cell 0;have i0:=s3.cell 0;have i1:=s3.cell 1;have i2:=s3.cell 2;go_simp⟩) HS.out ?_
     simp only [Act.put,sB,sZ,sS]
     refine hTk (i:=1) (d:=44) (v:= .pointer (some ⟨b2,0,none⟩)) rfl rfl (Or.inl ⟨rfl,by rintro W' ⟨s0,s1,s2,s3,s4⟩;have y0:=s0.cell 0;have x0:=s1.cell 0;have z0:=s2.cell 0;have i0:=s3.cell 0;have i1:=s3.cell 1;have i2:=s3.cell 2;go_simp⟩) HS.out ?_
     simp only [Act.put,sB,sZ,sS]
     refine hTk (i:=2) (d:=45) (v:=O U x.m) rfl rfl (Or.inl ⟨rfl,by rintro W' ⟨s0,s1,s2,s3,s4⟩;have y0:=s0.cell 0;have x0:=s1.cell 0;have z0:=s2.cell 0;have i0:=s3.cell 0;have i1:=s3.cell 1;have i2:=s3.cell 2;go_simp⟩) HS.out ?_
     simp only [Act.put,sB,sZ,sS]
     refine hTk (i:=3) (d:=46) (v:=O U st) rfl rfl (Or.inl ⟨rfl,by rintro W' ⟨s0,s1,s2,s3,s4⟩;have y0:=s0.cell 0;have x0:=s1.cell 0;have z0:=s2.cell 0;have i0:=s3.cell 0;have i1:=s3.cell 1;have i2:=s3.cell 2;go_simp⟩) HS.out ?_
     simp only [Act.put,sB,sZ,sS]
     refine hTk (i:=4) (d:=47) (v:=O U (-st)) rfl rfl (Or.inl ⟨rfl,by rintro W' ⟨s0,s1,s2,s3,s4⟩;have y0:=s0.cell 0;have x0:=s1.cell 0;have z0:=s2.cell 0;have i0:=s3.cell 0;have i1:=s3.cell 1;have i2:=s3.cell 2;go_simp⟩) HS.out ?_
     simp only [Act.put,sB,sZ,sS]
     refine hTk (i:=5) (d:=48) (v:= .pointer (some ⟨r,0,none⟩)) rfl rfl (Or.inl ⟨rfl,by rintro W' ⟨s0,s1,s2,s3,s4⟩;have y0:=s0.cell 0;have x0:=s1.cell 0;have z0:=s2.cell 0;have i0:=s3.cell 0;have i1:=s3.cell 1;have i2:=s3.cell 2;go_simp⟩) HS.out ?_
     simp only [Act.put,sB,sZ,sS]
     refine hTk (i:=6) (d:=49) (v:= .pointer (some ⟨r,0,none⟩)) rfl rfl (Or.inl ⟨rfl,by rintro W' ⟨s0,s1,s2,s3,s4⟩;have y0:=s0.cell 0;have x0:=s1.cell 0;have z0:=s2.cell 0;have i0:=s3.cell 0;have i1:=s3.cell 1;have i2:=s3.cell 2;go_simp⟩) HS.out ?_
     simp only [Act.put,sB,sZ,sS]
     refine hTk (i:=7) (d:=50) (v:= .pointer (some ⟨r,0,none⟩)) rfl rfl (Or.inl ⟨rfl,by rintro W' ⟨s0,s1,s2,s3,s4⟩;have y0:=s0.cell 0;have x0:=s1.cell 0;have z0:=s2.cell 0;have i0:=s3.cell 0;have i1:=s3.cell 1;have i2:=s3.cell 2;go_simp⟩) HS.out ?_
     simp only [Act.put,sB,sZ,sS]
     refine hTk (i:=8) (d:=51) (v:= .pointer (some ⟨k,0,none⟩)) rfl rfl (Or.inl ⟨rfl,by rintro W' ⟨s0,s1,s2,s3,s4⟩;have y0:=s0.cell 0;have x0:=s1.cell 0;have z0:=s2.cell 0;have i0:=s3.cell 0;have i1:=s3.cell 1;have i2:=s3.cell 2;go_simp⟩) HS.out ?_
     simp only [Act.put,sB,sZ,sS]
     refine hTk (i:=9) (d:=52) (v:= .agg #[O U v,O U (-4),O U g.sl]) rfl rfl (Or.inl ⟨rfl,by rintro W' ⟨s0,s1,s2,s3,s4⟩;have y0:=s0.cell 0;have x0:=s1.cell 0;have z0:=s2.cell 0;have i0:=s3.cell 0;have i1:=s3.cell 1;have i2:=s3.cell 2;go_simp⟩) HS.out ?_
     simp only [Act.put,sB,sZ,sS]
     refine hTk (i:=12) (d:=55) (v:= .pointer (some ⟨r,0,none⟩)) rfl rfl (Or.inl ⟨rfl,by rintro W' ⟨s0,s1,s2,s3,s4⟩;have y0:=s0.cell 0;have x0:=s1.cell 0;have z0:=s2.cell 0;have i0:=s3.cell 0;have i1:=s3.cell 1;have i2:=s3.cell 2;go_simp⟩) HS.out ?_
     simp only [Act.put,sB,sZ,sS]
     refine hTk (i:=13) (d:=56) (v:= .pointer (some ⟨r,0,none⟩)) rfl rfl (Or.inl ⟨rfl,by rintro W' ⟨s0,s1,s2,s3,s4⟩;have y0:=s0.cell 0;have x0:=s1.cell 0;have z0:=s2.cell 0;have i0:=s3.cell 0;have i1:=s3.cell 1;have i2:=s3.cell 2;go_simp⟩) HS.out ?_
     simp only [Act.put,sB,sZ,sS]
     refine hTk (i:=14) (d:=57) (v:= .pointer (some ⟨r,0,none⟩)) rfl rfl (Or.inl ⟨rfl,by rintro W' ⟨s0,s1,s2,s3,s4⟩;have y0:=s0.cell 0;have x0:=s1.cell 0;have z0:=s2.cell 0;have i0:=s3.cell 0;have i1:=s3.cell 1;have i2:=s3.cell 2;go_simp⟩) HS.out ?_
     simp only [Act.put,sB,sZ,sS]
     refine hTk (i:=15) (d:=58) (v:= .pointer (some ⟨k,0,none⟩)) rfl rfl (Or.inl ⟨rfl,by rintro W' ⟨s0,s1,s2,s3,s4⟩;have y0:=s0.cell 0;have x0:=s1.cell 0;have z0:=s2.cell 0;have i0:=s3.cell 0;have i1:=s3.cell 1;have i2:=s3.cell 2;go_simp⟩) HS.out ?_
     simp only [Act.put,sB,sZ,sS]
     refine hTk (i:=16) (d:=59) (v:= .agg #[O U v,O U (-4),O U g.sl]) rfl rfl (Or.inl ⟨rfl,by rintro W' ⟨s0,s1,s2,s3,s4⟩;have y0:=s0.cell 0;have x0:=s1.cell 0;have z0:=s2.cell 0;have i0:=s3.cell 0;have i1:=s3.cell 1;have i2:=s3.cell 2;go_simp⟩) HS.out ?_
     simp only [Act.put,sB,sZ,sS]
     refine wpAnyH_ready (rs:= [10]) (by kernel_rfl) (by simp) ?_
     refine AllReadyH.cons rfl (fun K hK=> ?_) AllReadyH.nil
     rw [if_pos (by rfl)]
     go_simp
     go_at_call 76
     (with_reducible refine (drag_any A c n k t a v (-4) g.sl _ (HSL7.out _ hbq).2.2.2.2 ht (by omega) (by omega)).mono ?_)
     rintro e w8 ⟨rfl,hbn⟩
     replace hbq:=hbq.trans (hbn.mono hbq.size)
     clear hbn
     have HS:=Z (HSL7.out _ hbq)
     refine hK.out _ _ HS.out (fun _=> ?_)
     clear hK K
     try simp only [Act.put,sB,sZ,sS]
     refine hTk (i:=11) (d:=54) (v:=O U (-st - dragZ t v)) rfl rfl (Or.inl ⟨rfl,by rintro W' ⟨s0,s1,s2,s3,s4⟩;have y0:=s0.cell 0;have x0:=s1.cell 0;have z0:=s2.cell 0;have i0:=s3.cell 0;have i1:=s3.cell 1;have i2:=s3.cell 2;go_simp⟩) HS.out ?_
     simp only [Act.put,sB,sZ,sS]
     refine wpAnyH_ready (rs:= [17]) (by kernel_rfl) (by simp) ?_
     refine AllReadyH.cons rfl (fun K hK=> ?_) AllReadyH.nil
     rw [if_pos (by rfl)]
     go_simp
     go_at_call 77
     (with_reducible refine (hill_any A c n k t a v (-4) g.sl _ (HSL7.out _ hbq).2.2.2.2 ht (by omega) (by omega)).mono ?_)
     rintro e w8 ⟨rfl,hbn⟩
     replace hbq:=hbq.trans (hbn.mono hbq.size)
     clear hbn
     have HS:=Z (HSL7.out _ hbq)
     refine hK.out _ _ HS.out (fun _=> ?_)
     clear hK K
     try simp only [Act.put,sB,sZ,sS]
     refine hTk (i:=18) (d:=61) (v:=O U (-st - dragZ t v - hillZ t g.sl)) rfl rfl (Or.inl ⟨rfl,by rintro W' ⟨s0,s1,s2,s3,s4⟩;have y0:=s0.cell 0;have x0:=s1.cell 0;have z0:=s2.cell 0;have i0:=s3.cell 0;have i1:=s3.cell 1;have i2:=s3.cell 2;go_simp⟩) HS.out ?_
     simp only [Act.put,sB,sZ,sS]
     refine wpAnyH_ready (rs:= [19]) (by kernel_rfl) (by simp) ?_
     refine AllReadyH.cons rfl (fun K hK=> ?_) AllReadyH.nil
     rw [if_pos (by rfl)]
     go_simp
     go_at_call 101
     (with_reducible refine (after_any x.m (-st - dragZ t v - hillZ t g.sl) _ (by omega) (by omega)).mono ?_)
     rintro e w9 ⟨rfl,rfl⟩
     rw [hbm]
     refine hK.out _ _ HS.out (fun _=> ?_)
     clear hK K
     try simp only [Act.put,sB,sZ,sS]
     refine hTk (i:=20) (d:=6) (v:=O U (brkM t a zs x)) rfl rfl (Or.inl ⟨rfl,by rintro W' ⟨s0,s1,s2,s3,s4⟩;have y0:=s0.cell 0;have x0:=s1.cell 0;have z0:=s2.cell 0;have i0:=s3.cell 0;have i1:=s3.cell 1;have i2:=s3.cell 2;go_simp⟩) HS.out ?_
     simp only [Act.put,sB,sZ,sS]
     refine wpAnyH_done (by kernel_rfl) ?_ _
     obtain⟨q,hq⟩:∃z,brkM t a zs x=z:=⟨_,rfl⟩
     rw [hq] at hnb ⊢
     have HQ:=Z hq
     clear hq hbm
     have hS8:=HS7.out.below hbq
     have hJ8:=hJ _ _ _ HJ7.out (Gi.of_below hbq)
     have hi8:=HI7.out.below hbq HI7.out.lt
     have HS8:=Z hS8;have HI8:=Z hi8;have HJ8:=Z hJ8
     have e0:=hS8.x2.cell 0;have e1:=hS8.x2.cell 1;have e2:=hS8.x2.cell 2
     simp only [fPt] at e0 e1 e2
     have f0:=hS8.x2.frozen 0;have f1:=hS8.x2.frozen 1;have f2:=hS8.x2.frozen 2
     have a0:=hS8.x1.cell 0;have r0:=hS8.run.r.cell 0
     have HPO:=Z (possible_any A c n k t a q w8 hS8.run.e ht)
     have hnz:zs.length≤1000000:=hz.ln
     have hjj:(j:Int)+1≤36000:=by omega
     have hxy:=HXY.out
     have HMV:=Z (moved_any w8 r k t a A n c Az nz cz zs x.m x.y q x.z hS8.run ht hxo.z (by have:=hS8.run.zl;omega) hxo.y0 (by omega) (by omega) (by omega) hz.fr)
     clear hbq HS HSL7 hS8 hi8 hJ8 HS7 HI7 HJ7
     gi_wp2
     refine⟨trivial,(fun h=>by cases h),CallsIn.mono (callsIn_wide.2 HPO.out) ?_⟩
     rintro e w9 ⟨rfl,rfl⟩
     by_cases hqm:q≤25000 * t.mass
     ·have HQM:=Z hqm
      gi_wp2
      refine⟨trivial,(fun h=>by cases h),CallsIn.mono (callsIn_wide.2 HMV.out) ?_⟩
      rintro e w10 ⟨rfl,hb10⟩
      have hS10:=HS8.out.below hb10
      have hJ10:=hJ _ _ _ HJ8.out (Gi.of_below hb10)
      have hi10:=HI8.out.below hb10 HI8.out.lt
      have HS10:=Z hS10;have HI10:=Z hi10;have HJ10:=Z hJ10
      clear e0 e1 e2 f0 f1 f2 a0 r0
      have e0:=hS10.x2.cell 0;have e1:=hS10.x2.cell 1;have e2:=hS10.x2.cell 2
      simp only [fPt] at e0 e1 e2
      have f0:=hS10.x2.frozen 0;have f1:=hS10.x2.frozen 1;have f2:=hS10.x2.frozen 2
      clear hb10 hS10 hJ10 hi10
      have HNB:=Z hnb.1;have HNB2:=Z (show q≤2000000000∧(j:Int)+1≤36000 from⟨by have:=hqm;omega,hjj⟩)
      have hwj:IntKind.i64.wrap ((j:Int)+1)=(j:Int)+1:=by rw [IntKind.wrap_i64];omega
      gi_wp2
      refine⟨⟨j+1,f',xs ++ [X],⟨movP t zs x q,movP_ok HXO.out HNB.out HQM.out (by have:=HXY.out;have:=HNB2.out;omega)⟩,v,g.sl,rfl,by have:=HJF.out;omega,by rw [List.length_append,HXL.out];rfl, ?_,HS10.out.set (movP t zs x q), ?_, ?_, ?_⟩, ?_⟩
      ·exact hJ _ _ _ HJ10.out (((Gi.setCell _ ⟨b2,0,none⟩ _ (.inl rfl)).trans (Gi.setCell _ ⟨b2,1,none⟩ _ (.inl rfl))).trans (Gi.setCell _ ⟨b2,2,none⟩ _ (.inl rfl)))
      ·exact (((HI10.out.far (k:=b2) 0 _ (by omega)).far (k:=b2) 1 _ (by omega)).far (k:=b2) 2 _ (by omega))
      ·show x.y+q≤_;have:=HXY.out;have:=HNB2.out;omega
      ·rw [HP.out,List.map_append,ptsL_more HM0.out (by rw [HQ.out];exact HQM.out),HQ.out,List.map_cons,List.map_nil,HX.out,List.append_assoc];rfl
      ·simp [intOf];omega
     ·have HQM:=Z hqm
      rw [show decide (q≤25000 * t.mass)=false from decide_eq_false hqm]
      clear hqm hnb hxy
      gi_wp2
      (try simp only [Exit.inBlock,Exit.then])
      refine bodyPost_ret (results_none rfl _ _ _) rfl ?_
      refine⟨⟨_,rfl⟩,.inl ⟨xs ++ [X], ?_,HJ8.out⟩⟩
      rw [HP.out,List.map_append,ptsL_rest (.inr (by rw [HQ.out];have:=HQM.out;omega)),List.map_cons,List.map_nil,HX.out]
   ·gi_wp2
    (try simp only [Exit.inBlock,Exit.then])
    refine bodyPost_ret (results_none rfl _ _ _) rfl ?_
    refine⟨⟨_,rfl⟩,.inr ⟨xs ++ [X],⟨by simp, ?_⟩,hJ5⟩⟩
    obtain⟨s,hs⟩:=ptsL_cons t a zs f x
    exact⟨s,by rw [HP.out,hs,List.map_append,List.map_cons,List.map_nil,HX.out,List.append_assoc];rfl⟩
  ·obtain rfl:j=36000:=by have:=HJF.out;omega
   obtain rfl:f=0:=by have:=HJF.out;omega
   gi_wp2
   refine⟨(fun h=>by cases h),HRD.out.mono ?_⟩
   have hpe:=HP.out
   rintro e W5 (⟨rfl,hJ5,hk5⟩|⟨rfl,hJ5⟩)
   ·gi_wp2
    go_end0
    refine⟨⟨_,rfl⟩,.inl ⟨xs ++ [X], ?_,hJ5⟩⟩
    rw [HP.out,List.map_append,List.map_cons,List.map_nil,HX.out];rfl
   ·gi_wp2
    go_end0
    refine⟨⟨_,rfl⟩,.inr ⟨xs ++ [X],⟨by simp, [], ?_⟩,hJ5⟩⟩
    rw [HP.out,List.map_append,List.map_cons,List.map_nil,HX.out];simp [ptsL]
end Go.Proofs.YtfhkbbjddjddmaaGreat
