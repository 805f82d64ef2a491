/- Words: rows of ints in a block of the call's own; a network whose fields are stored. -/
import Derived.Test.YtekambdnmaompaaGreatC3
namespace Go.Proofs.YtekambdnmaompaaGreat
set_option linter.unusedVariables false
set_option linter.unusedSimpArgs false
open Go.RowKit

/-- Block b is just these ints. -/
def IRow (w : World) (b : Nat) (l : List Int) : Prop := w.heap[b]? = some (.cells (l.map (Value.int .i64)).toArray 3 (0, 0))

theorem heap_set_same {w : World} {b i : Nat} {cs : Array Value} {t : TypeId} {f : Nat × Nat} (u : Value) (h : w.heap[b]? = some (.cells cs t f)) :
    (w.setCell ⟨b, i, none⟩ u).heap[b]? = some (.cells (cs.setIfInBounds i u) t f) := by
  simp [World.setCell, Array.getElem?_modify, h]

section
variable {w w' : World} {b : Nat} {l : List Int}
theorem IRow.lt (h : IRow w b l) : b < w.heap.size := (Array.getElem?_eq_some_iff.1 h).1
theorem IRow.cell (h : IRow w b l) {i : Nat} (hi : i < l.length) : w.cell? ⟨b, i, none⟩ = some (.int .i64 l[i]) := by
  rw [cell_of_row _ b i _ 3 (0, 0) h]
  simp [hi]
theorem IRow.frozen (h : IRow w b l) (j : Nat) : w.frozen? ⟨b, j, none⟩ = false := by
  unfold IRow at h
  simp [World.frozen?, h]
theorem IRow.of (h : IRow w b l) (e : w'.heap[b]? = w.heap[b]?) : IRow w' b l := e.trans h
theorem IRow.below {B : Nat} (h : IRow w b l) (hb : Below B w w') (hB : b < B) : IRow w' b l := h.of (hb.block b hB)
theorem IRow.other (h : IRow w b l) {p : Addr} (u : Value) (hp : b ≠ p.block) : IRow (w.setCell p u) b l := h.of (Below.heap_setCell w p u b hp)
theorem IRow.alloc (h : IRow w b l) (o : Obj) : IRow (w.alloc o) b l := h.of (Below.heap_alloc w o b h.lt)
theorem IRow.set (h : IRow w b l) (i : Nat) (x : Int) : IRow (w.setCell ⟨b, i, none⟩ (.int .i64 x)) b (l.set i x) := by
  unfold IRow
  rw [heap_set_same _ h]
  simp [List.map_set]
theorem IRow.sl (h : IRow w b l) : Sl w (b + 1) 1 CI (some ⟨b, 0, none⟩) l := by
  intro _
  refine ⟨b, 0, rfl, by omega, fun i x hx => ⟨_, rfl, fun j u hu => ?_⟩⟩
  obtain ⟨hi, rfl⟩ := List.getElem?_eq_some_iff.1 hx
  cases j with
  | succ j => simp at hu
  | zero =>
    obtain rfl : _ = u := Option.some.inj hu
    have := h.cell hi
    simpa using this
theorem IRow.made (w : World) (m : Nat) : IRow (w.alloc (.cells (madeCells #[.int .i64 0] m) 3)) w.heap.size (List.replicate m 0) := by
  unfold IRow
  rw [heap_alloc_new]
  congr 2
  apply Array.ext
  · simp [madeCells]
  · intro i h1 h2
    simp [madeCells, Nat.mod_one]
end

/-- Apart from the network's own block g, all that was there is as it was. -/
def Gr (g : Nat) (w w' : World) : Prop := w.grownBy w' (some g)
section
variable {w w' w'' : World} {g B : Nat}
theorem Gr.refl (g : Nat) (w : World) : Gr g w w := ⟨rfl, rfl, rfl, Nat.le_refl _, fun _ _ _ => rfl⟩
theorem Gr.trans (h : Gr g w w') (k : Gr g w' w'') : Gr g w w'' :=
  ⟨k.os.trans h.os, k.tape.trans h.tape, k.output.trans h.output, Nat.le_trans h.size k.size, fun i hi hr => (k.block i (Nat.lt_of_lt_of_le hi h.size) hr).trans (h.block i hi hr)⟩
theorem Gr.below (h : Gr g w w') (k : Below B w' w'') (hB : w.heap.size ≤ B) : Gr g w w'' :=
  ⟨k.os.trans h.os, k.tape.trans h.tape, k.output.trans h.output, Nat.le_trans h.size k.size, fun i hi hr => (k.block i (by omega)).trans (h.block i hi hr)⟩
theorem Gr.of_below (k : Below B w w') (hB : w.heap.size ≤ B) (g : Nat) : Gr g w w' := (Gr.refl g w).below k hB
theorem Gr.alloc (h : Gr g w w') (o : Obj) : Gr g w (w'.alloc o) := h.trans ⟨rfl, rfl, rfl, by simp, fun k hk _ => Below.heap_alloc _ _ _ hk⟩
theorem Gr.drew (h : Gr g w w') : Gr g w w'.drew := ⟨h.os, h.tape, h.output, h.size, h.block⟩
theorem Gr.drewN (h : Gr g w w') (n : Nat) : Gr g w (w'.drewN n) := ⟨h.os, h.tape, h.output, h.size, h.block⟩
theorem Gr.set (h : Gr g w w') {p : Addr} (u : Value) (hp : p.block = g ∨ w.heap.size ≤ p.block) : Gr g w (w'.setCell p u) :=
  ⟨h.os, h.tape, h.output, by simpa [World.setCell] using h.size, fun i hi hr => (Below.heap_setCell _ _ _ _ (by rintro rfl; rcases hp with e | e; exact hr (by rw [e]); omega)).trans (h.block i hi hr)⟩
theorem Gr.grown {row : Option Nat} (h : Gr g w w') (k : w'.grownBy w'' row) (hr : ∀ j, row = some j → w.heap.size ≤ j) : Gr g w w'' :=
  ⟨k.os.trans h.os, k.tape.trans h.tape, k.output.trans h.output, Nat.le_trans h.size k.size, fun i hi hn => (k.block i (Nat.lt_of_lt_of_le hi h.size) (fun e => by have := hr i e.symm; omega)).trans (h.block i hi hn)⟩
/-- below the network's block all is as it was -/
theorem Gr.toBelow (h : Gr g w w') (hg : g ≤ w.heap.size) : Below g w w' :=
  ⟨h.os, h.tape, h.output, h.size, fun k hk => h.block k (by omega) (by simp; omega)⟩
end

section
variable {w w' : World} {g : Nat} {A A2 : Option Addr} {c c2 : Nat} {p : Pl} {Lv Sv Nv Bv : Value}
theorem Net.of (h : Net w g A c A2 c2 p Lv Sv Nv Bv) (hb : Below g w w') (e : w'.heap[g]? = w.heap[g]?) : Net w' g A c A2 c2 p Lv Sv Nv Bv :=
  ⟨e.trans h.blk, h.pl.below hb⟩
theorem Net.alloc (h : Net w g A c A2 c2 p Lv Sv Nv Bv) (o : Obj) : Net (w.alloc o) g A c A2 c2 p Lv Sv Nv Bv :=
  h.of ((Below.refl g w).alloc (Nat.le_of_lt h.lt) o) (Below.heap_alloc w o g h.lt)
theorem Net.other (h : Net w g A c A2 c2 p Lv Sv Nv Bv) {q : Addr} (u : Value) (hq : g < q.block) : Net (w.setCell q u) g A c A2 c2 p Lv Sv Nv Bv :=
  h.of ((Below.refl g w).setCell (Nat.le_of_lt hq) u) (Below.heap_setCell w q u g (Nat.ne_of_lt hq))
theorem Net.drewN (h : Net w g A c A2 c2 p Lv Sv Nv Bv) (n : Nat) : Net (w.drewN n) g A c A2 c2 p Lv Sv Nv Bv := h.of (bDrewN (Below.refl g w) n) rfl
theorem Net.set2 (h : Net w g A c A2 c2 p Lv Sv Nv Bv) (u : Value) : Net (w.setCell ⟨g, 2, none⟩ u) g A c A2 c2 p u Sv Nv Bv :=
  ⟨by rw [heap_set_same _ h.blk]; rfl, h.pl.below ((Below.refl g w).setCell (p := ⟨g, 2, none⟩) (Nat.le_refl _) u)⟩
theorem Net.set3 (h : Net w g A c A2 c2 p Lv Sv Nv Bv) (u : Value) : Net (w.setCell ⟨g, 3, none⟩ u) g A c A2 c2 p Lv u Nv Bv :=
  ⟨by rw [heap_set_same _ h.blk]; rfl, h.pl.below ((Below.refl g w).setCell (p := ⟨g, 3, none⟩) (Nat.le_refl _) u)⟩
theorem Net.set4 (h : Net w g A c A2 c2 p Lv Sv Nv Bv) (u : Value) : Net (w.setCell ⟨g, 4, none⟩ u) g A c A2 c2 p Lv Sv u Bv :=
  ⟨by rw [heap_set_same _ h.blk]; rfl, h.pl.below ((Below.refl g w).setCell (p := ⟨g, 4, none⟩) (Nat.le_refl _) u)⟩
theorem Net.set5 (h : Net w g A c A2 c2 p Lv Sv Nv Bv) (u : Value) : Net (w.setCell ⟨g, 5, none⟩ u) g A c A2 c2 p Lv Sv Nv u :=
  ⟨by rw [heap_set_same _ h.blk]; rfl, h.pl.below ((Below.refl g w).setCell (p := ⟨g, 5, none⟩) (Nat.le_refl _) u)⟩
end
end Go.Proofs.YtekambdnmaompaaGreat
