/- What the rounds of link turn, and what they keep; the iterator of the moves that follow a move. -/
import Derived.Test.YtekambdnmaompaaGreatLeave
import Derived.Test.YtekambdnmaompaaGreatC6
import Derived.RangeFuncNested
import Derived.RangeFuncBound
import Derived.RangeFuncCalls
import Derived.RangeFuncLeaves
import Derived.Shelf.Abstract
import Derived.Shelf.RegionOpen
import Derived.OwnWalkIn
import Derived.TacticsInMore
import Derived.LoopNIn
import Derived.LoopIn
namespace Go.Proofs.YtekambdnmaompaaGreat
set_option linter.unusedVariables false
set_option linter.unusedSimpArgs false
open Go.RowKit

/-- the blocks that the rounds may turn: two rows of slices, and what these slices lie in -/
def Tch (nb bb : Nat) (W : World) (k : Nat) : Prop := k = nb ∨ k = bb ∨ ∃ (b i : Nat) (v : Value), (b = nb ∨ b = bb) ∧ W.cell? ⟨b, i, none⟩ = some v ∧ v.ownBlock = some k
structure KT (nb bb : Nat) (W W' : World) : Prop where
  size : W.heap.size ≤ W'.heap.size
  same : ∀ (k : Nat) (c : Array Value) (t : TypeId) (f : Nat × Nat), W.heap[k]? = some (.cells c t f) → ¬ Tch nb bb W k → W'.heap[k]? = some (.cells c t f)
  tch : ∀ k, Tch nb bb W' k → Tch nb bb W k ∨ W.heap.size ≤ k
  bd : (∀ k, Tch nb bb W k → k < W.heap.size) → ∀ k, Tch nb bb W' k → k < W'.heap.size

section
variable {nb bb : Nat} {W W' W'' : World}
theorem KT.trans (h : KT nb bb W W') (k : KT nb bb W' W'') : KT nb bb W W'' where
  size := Nat.le_trans h.size k.size
  same := fun j c t f hj hn => k.same j c t f (h.same j c t f hj hn) fun ht => by
    rcases h.tch j ht with h1 | h1
    · exact hn h1
    · have := (Array.getElem?_eq_some_iff.1 hj).1; omega
  tch := fun j ht => by
    rcases k.tch j ht with h1 | h1
    · exact h.tch j h1
    · have := h.size; exact .inr (by omega)
  bd := fun hb => k.bd (h.bd hb)
theorem Tch.of_cells (h : ∀ i, W'.cell? ⟨nb, i, none⟩ = W.cell? ⟨nb, i, none⟩) (h' : ∀ i, W'.cell? ⟨bb, i, none⟩ = W.cell? ⟨bb, i, none⟩) {k : Nat} (ht : Tch nb bb W' k) : Tch nb bb W k := by
  rcases ht with e | e | ⟨b, i, v, e, hc, hv⟩
  · exact .inl e
  · exact .inr (.inl e)
  · rcases e with rfl | rfl
    · exact .inr (.inr ⟨b, i, v, .inl rfl, by rw [← h]; exact hc, hv⟩)
    · exact .inr (.inr ⟨b, i, v, .inr rfl, by rw [← h']; exact hc, hv⟩)
theorem KT.of_below {B : Nat} (hb : Below B W W') (hB : W.heap.size ≤ B) (h1 : nb < W.heap.size) (h2 : bb < W.heap.size) : KT nb bb W W' where
  size := hb.size
  same := fun k c t f hk _ => (hb.block k (by have := (Array.getElem?_eq_some_iff.1 hk).1; omega)).trans hk
  tch := fun k ht => .inl (Tch.of_cells (fun i => hb.cell (p := ⟨nb, i, none⟩) (by simp; omega)) (fun i => hb.cell (p := ⟨bb, i, none⟩) (by simp; omega)) ht)
  bd := fun hbd k ht => by
    have := hbd k (Tch.of_cells (fun i => hb.cell (p := ⟨nb, i, none⟩) (by simp; omega)) (fun i => hb.cell (p := ⟨bb, i, none⟩) (by simp; omega)) ht)
    have := hb.size; omega
theorem kt_t {A B C : World} (h : KT nb bb A B) (k : KT nb bb B C) : KT nb bb A C := h.trans k
theorem kt_b {w : World} (h1 : nb < w.heap.size) (h2 : bb < w.heap.size) (W : World) (l : Nat) (o o' : Obj) (hl : w.heap.size ≤ l) (h : W.heap[l]? = some o) (hc : o.isCells = false) (_ : o.isWalk = false) : KT nb bb W (W.putObj l o') := by
  have hother : ∀ k, k ≠ l → (W.putObj l o').heap[k]? = W.heap[k]? := fun k hk => World.putObj_heap_other hk
  have c1 : ∀ i, (W.putObj l o').cell? ⟨nb, i, none⟩ = W.cell? ⟨nb, i, none⟩ := fun i => World.cell?_of_block (hother nb (by omega))
  have c2 : ∀ i, (W.putObj l o').cell? ⟨bb, i, none⟩ = W.cell? ⟨bb, i, none⟩ := fun i => World.cell?_of_block (hother bb (by omega))
  refine ⟨by simp, fun k c t f hk _ => ?_, fun k ht => .inl (Tch.of_cells c1 c2 ht), fun hbd k ht => ?_⟩
  · by_cases e : k = l
    · subst e; rw [h] at hk; cases hk; simp [Obj.isCells] at hc
    · exact (hother k e).trans hk
  · have := hbd k (Tch.of_cells c1 c2 ht)
    simp; omega
theorem KT.cell (h : KT nb bb W W') {q : Addr} {v : Value} (hq : W.cell? q = some v) (hn : ¬ Tch nb bb W q.block) : W'.cell? q = some v := by
  unfold World.cell? at hq ⊢
  cases ho : W.heap[q.block]? with
  | none => rw [ho] at hq; cases hq
  | some o =>
    rw [ho] at hq
    cases o with
    | cells c t f => rw [h.same _ c t f ho hn]; exact hq
    | _ => simp at hq
theorem KT.keepsN (h : KT nb bb W W') {k : Nat} (hk : k < W.heap.size) (hn : ¬ Tch nb bb W k) : ¬ Tch nb bb W' k := fun ht => by
  rcases h.tch k ht with h1 | h1
  · exact hn h1
  · omega
end

section
variable {α : Type} {w w' : World} {B size : Nat} {C C' : α → List Value → Prop} {A : Option Addr} {l : List α}
theorem Sl.keepS (h : Sl w B size C A l) (hC : ∀ x cs, C x cs → C' x cs) (hk : ∀ (p : Addr) (v : Value), p.block < B → w.cell? p = some v → w'.cell? p = some v) : Sl w' B size C' A l := by
  intro hl
  obtain ⟨b, off, e, hb, hc⟩ := h hl
  refine ⟨b, off, e, hb, fun i x hx => ?_⟩
  obtain ⟨cs, h1, h2⟩ := hc i x hx
  exact ⟨cs, hC _ _ h1, fun j u hu => hk _ _ hb (h2 j u hu)⟩
end
theorem PlAt.keepS {w w' : World} {B : Nat} {A A2 : Option Addr} {c c2 : Nat} {p : Pl} (h : PlAt w B A c A2 c2 p) (hk : ∀ (q : Addr) (v : Value), q.block < B → w.cell? q = some v → w'.cell? q = some v) : PlAt w' B A c A2 c2 p :=
  ⟨h.ns.keepS (fun _ _ ⟨A, c, h1, h2, h3⟩ => ⟨A, c, h1, h2.keepS (fun _ _ h => h) hk, h3⟩) hk, h.nc, h.nm, h.rs.keepS (fun _ _ ⟨A, c, h1, h2, h3⟩ => ⟨A, c, h1, h2.keepS (fun _ _ h => h) hk, h3⟩) hk, h.rc, h.rm⟩

/-- What the iterator reads: its two boxes, the network, the slots; none of it is turned by the rounds. -/
structure LvAt (nb bb b1 b2 g sb : Nat) (A : Option Addr) (c : Nat) (A2 : Option Addr) (c2 : Nat) (p : Pl) (Lv Nv Bv : Value) (m : Nat) (W : World) : Prop where
  x1 : W.cell? ⟨b1, 0, none⟩ = some (.pointer (some ⟨g, 0, none⟩))
  x2 : W.cell? ⟨b2, 0, none⟩ = some (.int .i64 (m : Int))
  net : Net W g A c A2 c2 p Lv (.slice (some ⟨sb, 0, none⟩) (2 * p.rails.length) (2 * p.rails.length)) Nv Bv
  row : IRow W sb (slotsOf p)
  n1 : ¬ Tch nb bb W b1
  n2 : ¬ Tch nb bb W b2
  ns : ¬ Tch nb bb W sb
  ng : ∀ k, k ≤ g → ¬ Tch nb bb W k
  bd : ∀ k, Tch nb bb W k → k < W.heap.size
section
variable {nb bb b1 b2 g sb : Nat} {A A2 : Option Addr} {c c2 : Nat} {p : Pl} {Lv Nv Bv : Value} {m : Nat} {W W' : World}
theorem LvAt.lt (h : LvAt nb bb b1 b2 g sb A c A2 c2 p Lv Nv Bv m W) : b1 < W.heap.size ∧ b2 < W.heap.size ∧ sb < W.heap.size ∧ g < W.heap.size ∧ nb < W.heap.size ∧ bb < W.heap.size :=
  ⟨World.block_lt_of_cell? W _ h.x1, World.block_lt_of_cell? W _ h.x2, h.row.lt, h.net.lt, h.bd nb (.inl rfl), h.bd bb (.inr (.inl rfl))⟩
theorem LvAt.keep (h : LvAt nb bb b1 b2 g sb A c A2 c2 p Lv Nv Bv m W) (k : KT nb bb W W') : LvAt nb bb b1 b2 g sb A c A2 c2 p Lv Nv Bv m W' where
  x1 := k.cell h.x1 h.n1
  x2 := k.cell h.x2 h.n2
  net := ⟨k.same g _ _ _ h.net.blk (h.ng g (Nat.le_refl _)), h.net.pl.keepS fun q v hq hv => k.cell hv (h.ng _ (Nat.le_of_lt hq))⟩
  row := k.same sb _ _ _ h.row h.ns
  n1 := k.keepsN h.lt.1 h.n1
  n2 := k.keepsN h.lt.2.1 h.n2
  ns := k.keepsN h.lt.2.2.1 h.ns
  ng := fun j hj => k.keepsN (by have := h.lt.2.2.2.1; omega) (h.ng j hj)
  bd := k.bd h.bd
theorem LvAt.below {B : Nat} (h : LvAt nb bb b1 b2 g sb A c A2 c2 p Lv Nv Bv m W) (k : Below B W W') (hB : W.heap.size ≤ B) : LvAt nb bb b1 b2 g sb A c A2 c2 p Lv Nv Bv m W' :=
  h.keep (KT.of_below k hB h.lt.2.2.2.2.1 h.lt.2.2.2.2.2)
end
end Go.Proofs.YtekambdnmaompaaGreat
