/- Contracts: Check, Length, Line, Next, Follows, Between. -/
import Derived.Test.YtekambdnmaompaaGreatG1
import Derived.Test.YtekambdnmaompaaGreatG2
import Derived.Deep.RegionHeld3
namespace Go.Proofs.YtekambdnmaompaaGreat
set_option linter.unusedVariables false
set_option linter.unusedSimpArgs false
open Go.RowKit

theorem PlAt.box {w : World} {A A2 : Option Addr} {c c2 : Nat} {p : Pl} (h : PlAt w w.heap.size A c A2 c2 p) (o : Obj) : PlAt (w.alloc o) (w.alloc o).heap.size A c A2 c2 p :=
  (h.below ((Below.refl _ _).alloc (Nat.le_refl _) _)).more (by simp)

theorem cell_keep1 {w : World} {b i : Nat} {o : Obj} {v : Option Value} (h : w.cell? ⟨b, i, none⟩ = v) (hb : b < w.heap.size) : (w.alloc o).cell? ⟨b, i, none⟩ = v :=
  (((Below.refl w.heap.size w).alloc (Nat.le_refl _) o).cell (p := ⟨b, i, none⟩) hb).trans h
theorem cell_new1 (w : World) (cs : Array Value) (t : TypeId) (i : Nat) : (w.alloc (.cells cs t)).cell? ⟨w.heap.size, i, none⟩ = cs[i]? :=
  cell_of_row _ w.heap.size i _ t (0, 0) (heap_alloc_new w _)
theorem box_cells3 (w : World) (a b c : Array Value) (t1 t2 t3 : TypeId) (i : Nat) :
    (((w.alloc (.cells a t1)).alloc (.cells b t2)).alloc (.cells c t3)).cell? ⟨w.heap.size + 1, i, none⟩ = b[i]? ∧ (((w.alloc (.cells a t1)).alloc (.cells b t2)).alloc (.cells c t3)).cell? ⟨w.heap.size + 1 + 1, i, none⟩ = c[i]? := by
  have h1 := cell_new1 (w.alloc (.cells a t1)) b t2 i
  have h2 := cell_new1 ((w.alloc (.cells a t1)).alloc (.cells b t2)) c t3 i
  rw [show (w.alloc (.cells a t1)).heap.size = w.heap.size + 1 by simp] at h1
  rw [show ((w.alloc (.cells a t1)).alloc (.cells b t2)).heap.size = w.heap.size + 1 + 1 by simp] at h2
  exact ⟨cell_keep1 h1 (by simp), h2⟩

theorem frozen_new1 (w : World) (cs : Array Value) (t : TypeId) (i : Nat) : (w.alloc (.cells cs t)).frozen? ⟨w.heap.size, i, none⟩ = false := by
  unfold World.frozen?; rw [heap_alloc_new]; simp
theorem box_cells4 (w : World) (a b c d : Array Value) (t1 t2 t3 t4 : TypeId) (i : Nat) :
    ((((w.alloc (.cells a t1)).alloc (.cells b t2)).alloc (.cells c t3)).alloc (.cells d t4)).cell? ⟨w.heap.size + 1, i, none⟩ = b[i]? ∧ ((((w.alloc (.cells a t1)).alloc (.cells b t2)).alloc (.cells c t3)).alloc (.cells d t4)).cell? ⟨w.heap.size + 1 + 1, i, none⟩ = c[i]? ∧
    ((((w.alloc (.cells a t1)).alloc (.cells b t2)).alloc (.cells c t3)).alloc (.cells d t4)).cell? ⟨w.heap.size + 1 + 1 + 1, i, none⟩ = d[i]? ∧ ((((w.alloc (.cells a t1)).alloc (.cells b t2)).alloc (.cells c t3)).alloc (.cells d t4)).frozen? ⟨w.heap.size + 1 + 1 + 1, i, none⟩ = false := by
  obtain ⟨h1, h2⟩ := box_cells3 w a b c t1 t2 t3 i
  have h3 := cell_new1 (((w.alloc (.cells a t1)).alloc (.cells b t2)).alloc (.cells c t3)) d t4 i
  have h4 := frozen_new1 (((w.alloc (.cells a t1)).alloc (.cells b t2)).alloc (.cells c t3)) d t4 i
  rw [show (((w.alloc (.cells a t1)).alloc (.cells b t2)).alloc (.cells c t3)).heap.size = w.heap.size + 1 + 1 + 1 by simp] at h3 h4
  exact ⟨cell_keep1 h1 (by simp), cell_keep1 h2 (by simp), h3, h4⟩

theorem row2 {w : World} {K : Nat} {x y : Value} {t : TypeId} (h : w.heap[K]? = some (.cells #[x, y] t)) :
    w.cell? ⟨K, 0, none⟩ = some x ∧ w.cell? ⟨K, 1, none⟩ = some y ∧ w.frozen? ⟨K, 0, none⟩ = false ∧ w.frozen? ⟨K, 1, none⟩ = false :=
  ⟨cell_of_row _ _ 0 _ _ _ h, cell_of_row _ _ 1 _ _ _ h, by unfold World.frozen?; rw [h]; simp, by unfold World.frozen?; rw [h]; simp⟩

def CheckPost (p : Pl) (w : World) (e : Ending) (w' : World) : Prop := ((Vld p ∧ e = .returned (.int .i64 0)) ∨ (¬ Vld p ∧ e = .returned (.int .i64 2))) ∧ Below w.heap.size w w'
def R0 : R := ⟨0, 0, [], 0, 0⟩
theorem Vld.rail {p : Pl} (h : Vld p) {k : Nat} (hk : k < p.rails.length) : railB p.nodes.length p.rails[k] = true ∧ okL (lineOf p p.rails[k]) = true := by
  have := List.all_eq_true.1 h.rails _ (List.getElem_mem hk)
  simpa [railOk] using this
end Go.Proofs.YtekambdnmaompaaGreat
