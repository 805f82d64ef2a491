/- Words for the reference's Drive. -/
import Derived.Test.YtfhkbbjddjddmaaGreatM58
set_option linter.unusedVariables false
set_option linter.unusedSimpArgs false
open Go.Value renaming int→O
open Go.IntKind renaming i64→U
open Go.Lib renaming hid→Z
namespace Go.Proofs.YtfhkbbjddjddmaaGreat
open Go.RowKit Go.Shelf Go.Lib Go.BigFrame
set_option maxRecDepth 100000 in
set_option maxHeartbeats 4000000 in
theorem rPlaceB_any (A:Option Addr) (c n:Nat) (t:Tr) (m y:Int) (w:World) (ht:TrOk t) (y0:0≤y) (y1:y≤9000000000000000000):Calls Tryz.prog 53 #[.agg #[O U t.mass,O U t.len,O U t.speed,O U t.effort,O U t.brake,O U t.power,O U t.resist,O U t.rise,O U t.back,.slice A n c],.agg #[O U m,O U y]] w fun e w'=>e= .returned (O U (y / (10 * t.mass)))∧Below w.heap.size w w':=by
 have hb1:=((Below.refl w.heap.size w).alloc (Nat.le_refl _) (.cells #[O U t.mass,O U t.len,O U t.speed,O U t.effort,O U t.brake,O U t.power,O U t.resist,O U t.rise,O U t.back,.slice A n c] 24)).alloc (by simp) (.cells #[O U m,O U y] 35)
 obtain⟨q1,q2⟩:=rows2 w #[O U t.mass,O U t.len,O U t.speed,O U t.effort,O U t.brake,O U t.power,O U t.resist,O U t.rise,O U t.back,.slice A n c] #[O U m,O U y] 24 35
 obtain⟨W1,hW1⟩:∃z,((w.alloc (.cells #[O U t.mass,O U t.len,O U t.speed,O U t.effort,O U t.brake,O U t.power,O U t.resist,O U t.rise,O U t.back,.slice A n c] 24)).alloc (.cells #[O U m,O U y] 35))=z:=⟨_,rfl⟩
 rw [hW1] at hb1 q1 q2
 have HB1:=Z hb1
 have e0:=q1.cell 0;have x1:=q2.cell 1
 have m1:=ht.m1;have m2:=ht.m2
 have v1:IntKind.i64.wrap (10 * t.mass)=10 * t.mass:=by rw [IntKind.wrap_i64];omega
 have HV:=Z (Eq.refl (y / (10 * t.mass)))
 obtain⟨u,hu⟩:∃z,10 * t.mass=z:=⟨_,rfl⟩
 rw [hu] at HV ⊢
 replace v1:IntKind.i64.wrap (10 * t.mass)=u:=v1.trans hu
 have u1:10000≤u:=by omega
 have HD:=Z (wrapDiv (u:=u) y0 (by omega) (by omega))
 clear hb1 q1 q2 ht hu m1 m2
 go_enter Tryz.func53,Tryz.ntmps53
 go_wp2
 go_ret
 exact⟨by first|rfl|(simp;exact HD.out),HB1.out⟩
theorem BT.refl (B:Nat) (T:Nat→Prop) (A:World):BT B T A A:=⟨rfl,rfl,rfl,Nat.le_refl _,fun _ _ _=>rfl⟩
theorem BT.go {B:Nat} {T:Nat→Prop} {A C D:World} (h:BT B T A C) (hA:B≤A.heap.size) (hb:Below C.heap.size C D):BT B T A D:=
 ⟨hb.os.trans h.os,hb.tape.trans h.tape,hb.output.trans h.output,Nat.le_trans h.size hb.size,fun k hk hn=>(hb.block k (by have:=h.size;omega)).trans (h.block k hk hn)⟩
theorem BT.set {B:Nat} {T:Nat→Prop} {A C:World} (h:BT B T A C) {k:Nat} (i:Nat) (v:Value) (hk:T k∨B≤k):BT B T A (C.setCell ⟨k,i,none⟩ v):=
 ⟨h.os,h.tape,h.output,by rw [World.size_setCell];exact h.size,fun q hq hn=>(Below.heap_setCell _ _ _ q (by
  show q≠k
  rintro rfl
  rcases hk with hk|hk
  ·exact hn hk
  ·omega)).trans (h.block q hq hn)⟩
theorem BT.trans {B B':Nat} {T:Nat→Prop} {A C D:World} (h:BT B T A C) (k:BT B' T C D) (hB:B≤B'):BT B T A D:=
 ⟨k.os.trans h.os,k.tape.trans h.tape,k.output.trans h.output,Nat.le_trans h.size k.size,fun q hq hn=>(k.block q (by omega) hn).trans (h.block q hq hn)⟩
theorem BT.rw {B:Nat} {T:Nat→Prop} {A C:World} (h:BT B T A C) {g:Nat} {t:TypeId} {cs:Array Value} (hr:Rw A g t cs) (hg:g<B) (hn:¬T g):Rw C g t cs:=(h.block g hg hn).trans hr
theorem BT.own {B base:Nat} {T:Nat→Prop} {A C:World} {α : Type} {f: α→List Value} {size:Nat} {e:TypeId} {v:Value} {l:List α} (h:BT B T A C) (ho:Own A base e size f v l) (hB:A.heap.size≤B) (hT:∀k,base≤k→¬T k):Own C base e size f v l:=
 ho.of_blocks fun k hk=>h.block k (by have:=(ho.lt k hk).2;omega) (hT k (ho.lt k hk).1)
theorem BT.cellk {B:Nat} {T:Nat→Prop} {A C:World} (h:BT B T A C) {p:Addr} (hp:p.block<B) (hn:¬T p.block):C.cell? p=A.cell? p:=by unfold World.cell?;rw [h.block p.block hp hn]
theorem BT.weak {B B':Nat} {T T':Nat→Prop} {A C:World} (h:BT B T A C) (hB:B'≤B) (hT:∀k,k<B'→T k→T' k):BT B' T' A C:=⟨h.os,h.tape,h.output,h.size,fun k hk hn=>h.block k (by omega) (fun ht=>hn (hT k hk ht))⟩
theorem BT.of {B:Nat} {A C:World} (T:Nat→Prop) (h:Below B A C):BT B T A C:=⟨h.os,h.tape,h.output,h.size,fun k hk _=>h.block k hk⟩
def RDPost (R:Option (List LegP × Int)) (w:World) (e:Ending) (w':World):Prop:=
 ((R=none∧e= .returned (.tuple #[.slice none 0 0,.bool false]))∨(∃L y v,R=some (L,y)∧e= .returned (.tuple #[v,.bool (decide (y≤10000000000000000))])∧Own w' w.heap.size 72 10 fLl v L))∧Below w.heap.size w w'
section
variable {t:Tr} {a:Int} {sl lim:Int→Int} {s:Int} {f:Nat} {l:LegP} {m y:Int}
theorem legR_arr (h:arrR t s m y=true):legR t a sl lim s f l m y=some ({l with at_:=y / (10 * t.mass)},y):=by cases f <;> rw [legR,if_pos h]
theorem legR_late (h:arrR t s m y=false):legR t a sl lim s 0 l m y=none:=by rw [legR,if_neg (by rw [h];simp)]
theorem legR_over (h:arrR t s m y=false) (hy:10000000000000000<y):legR t a sl lim s f l m y=none:=by
 cases f with
 | zero=>exact legR_late h
 | succ f=>rw [legR,if_neg (by rw [h];simp),if_pos hy]
theorem legR_no (h:arrR t s m y=false) (hn:drvN t a sl lim s m y 9=none):legR t a sl lim s f l m y=none:=by
 cases f with
 | zero=>exact legR_late h
 | succ f=>
  rw [legR,if_neg (by rw [h];simp),hn]
  split <;> rfl
theorem legR_go {n:Nat} (h:arrR t s m y=false) (hy:¬10000000000000000<y) (hn:drvN t a sl lim s m y 9=some n):legR t a sl lim s (f+1) l m y=legR t a sl lim s f (legNextR t a sl m y n l) (drvQ t a sl m y n) (y+drvQ t a sl m y n):=by
 rw [legR,if_neg (by rw [h];simp),if_neg hy,hn]
end
end Go.Proofs.YtfhkbbjddjddmaaGreat
