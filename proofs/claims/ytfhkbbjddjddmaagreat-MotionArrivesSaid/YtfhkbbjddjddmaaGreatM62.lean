/- Words for the reference's Drive. -/
import Derived.Test.YtfhkbbjddjddmaaGreatM58
set_option linter.unusedVariables false
set_option linter.unusedSimpArgs false
namespace Go.Proofs.YtfhkbbjddjddmaaGreat
open Go.RowKit Go.Shelf Go.Lib Go.BigFrame
theorem BT.refl (B:Nat) (T:Nat→Prop) (A:World):BT B T A A:=⟨rfl,rfl,rfl,Nat.le_refl _,fun _ _ _=>rfl⟩
theorem BT.go {B:Nat} {T:Nat→Prop} {A C D:World} (h:BT B T A C) (hA:B≤A.heap.size) (hb:Below C.heap.size C D):BT B T A D:=
 ⟨hb.os.trans h.os,hb.tape.trans h.tape,hb.output.trans h.output,Nat.le_trans h.size hb.size,fun k hk hn=>(hb.block k (by have:=h.size;omega)).trans (h.block k hk hn)⟩
theorem BT.set {B:Nat} {T:Nat→Prop} {A C:World} (h:BT B T A C) {k:Nat} (i:Nat) (v:Value) (hk:T k∨B≤k):BT B T A (C.setCell ⟨k,i,none⟩ v):=
 ⟨h.os,h.tape,h.output,by rw [World.size_setCell];exact h.size,fun q hq hn=>(Below.heap_setCell _ _ _ q (by
  show q≠k
  rintro rfl
  rcases hk with hk|hk
  ·exact hn hk
  ·omega)).trans (h.block q hq hn)⟩
theorem BT.trans {B B':Nat} {T:Nat→Prop} {A C D:World} (h:BT B T A C) (k:BT B' T C D) (hB:B≤B'):BT B T A D:=
 ⟨k.os.trans h.os,k.tape.trans h.tape,k.output.trans h.output,Nat.le_trans h.size k.size,fun q hq hn=>(k.block q (by omega) hn).trans (h.block q hq hn)⟩
theorem BT.rw {B:Nat} {T:Nat→Prop} {A C:World} (h:BT B T A C) {g:Nat} {t:TypeId} {cs:Array Value} (hr:Rw A g t cs) (hg:g<B) (hn:¬T g):Rw C g t cs:=(h.block g hg hn).trans hr
theorem BT.own {B base:Nat} {T:Nat→Prop} {A C:World} {α : Type} {f: α→List Value} {size:Nat} {e:TypeId} {v:Value} {l:List α} (h:BT B T A C) (ho:Own A base e size f v l) (hB:A.heap.size≤B) (hT:∀k,base≤k→¬T k):Own C base e size f v l:=
 ho.of_blocks fun k hk=>h.block k (by have:=(ho.lt k hk).2;omega) (hT k (ho.lt k hk).1)
theorem BT.of {B:Nat} {A C:World} (T:Nat→Prop) (h:Below B A C):BT B T A C:=⟨h.os,h.tape,h.output,h.size,fun k hk _=>h.block k hk⟩
section
variable {t:Tr} {a:Int} {sl lim:Int→Int} {s:Int} {f:Nat} {l:LegP} {m y:Int}
end
end Go.Proofs.YtfhkbbjddjddmaaGreat
