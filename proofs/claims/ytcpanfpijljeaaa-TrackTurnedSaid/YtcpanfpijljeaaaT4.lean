/- Words for statements about a plan and a way: what stands in memory, what Valid and Way answer, how a way is read. -/
import Derived.Test.YtcpanfpijljeaaaT2
import Derived.Test.YtcpanfpijljeaaaX2
import Derived.Test.YtcpanfpijljeaaaW3
import Derived.Test.YtcpanfpijljeaaaV1
namespace Go.Proofs.Ytcpanfpijljeaaa
set_option linter.unusedVariables false
set_option linter.unusedSimpArgs false
open Go.RowKit

theorem mem_befL {p : Pl} {k y x : Nat} (hx : x < k) (h : (y : Int) ∈ leaveL p x) : (x : Int) ∈ befL p k y := by
  unfold befL
  rw [List.mem_flatMap]
  exact ⟨x, List.mem_range.2 hx, List.mem_map.2 ⟨(y : Int), List.mem_filter.2 ⟨h, by simp⟩, rfl⟩⟩
theorem mem_nextL {p : Pl} {x : Nat} {z : Int} : z ∈ nextL p x ↔ z ∈ leaveL p x := by unfold nextL; exact List.mem_mergeSort
theorem small_rails {p : Pl} (hv : Vld p) (hs : smallB p = true) : p.rails.length ≤ 14 := by
  have h := of_decide_eq_true hv.sizes
  simp only [smallB, smallN, Bool.and_eq_true] at hs
  have h2 := hs.1.1
  simp at h2
  omega
/-- a plan at block K and a way, in a world that is later -/
structure Pst (w wr : World) (K : Nat) (A : Option Addr) (c : Nat) (A2 : Option Addr) (c2 : Nat) (p : Pl) (A3 : Option Addr) (l : List E) : Prop where
  k0 : wr.cell? ⟨K, 0, none⟩ = some (.slice A p.nodes.length c)
  k1 : wr.cell? ⟨K, 1, none⟩ = some (.slice A2 p.rails.length c2)
  pl : PlAt wr wr.heap.size A c A2 c2 p
  sl : Sl wr wr.heap.size 2 CE A3 l
  be : Below w.heap.size w wr
  lt : K < wr.heap.size
theorem Pst.next {w wr w' : World} {K c c2 : Nat} {A A2 A3 : Option Addr} {p : Pl} {l : List E} (h : Pst w wr K A c A2 c2 p A3 l) (hb : Below wr.heap.size wr w') : Pst w w' K A c A2 c2 p A3 l :=
  ⟨(hb.cell (p := ⟨K, 0, none⟩) h.lt).trans h.k0, (hb.cell (p := ⟨K, 1, none⟩) h.lt).trans h.k1, (h.pl.below hb).more hb.size, (h.sl.below hb).more (fun _ _ h => h) hb.size, h.be.trans (hb.mono h.be.size), Nat.lt_of_lt_of_le h.lt hb.size⟩
theorem Pst.start {w : World} {c c2 : Nat} {A A2 A3 : Option Addr} {p : Pl} {l : List E} (h : PlAt w w.heap.size A c A2 c2 p) (hA : Sl w w.heap.size 2 CE A3 l) :
    Pst w (w.alloc (.cells #[.slice A p.nodes.length c, .slice A2 p.rails.length c2] 25)) w.heap.size A c A2 c2 p A3 l :=
  ⟨cell_of_row _ _ 0 _ _ _ (heap_alloc_new w _), cell_of_row _ _ 1 _ _ _ (heap_alloc_new w _), h.box _, (hA.below ((Below.refl _ w).alloc (Nat.le_refl _) _)).more (fun _ _ h => h) (by simp), (Below.refl _ w).alloc (Nat.le_refl _) _, by simp⟩

def ValB (p : Pl) (v : Bool) : Prop := ∀ (A A2 : Option Addr) (c c2 : Nat) (w : World), PlAt w w.heap.size A c A2 c2 p → Calls Try.prog 11 #[.agg #[.slice A p.nodes.length c, .slice A2 p.rails.length c2]] w fun e w' => e = .returned (.bool v) ∧ Below w.heap.size w w'
theorem valB_yes {p : Pl} (h : Vld p) : ValB p true := fun A A2 c c2 w hP => (Valid_any A A2 c c2 p w hP).mono fun e w' ⟨⟨b, h1, h2⟩, h3⟩ => ⟨by rw [h1, h2.2 h], h3⟩
theorem valB_no {p : Pl} (h : ¬ Vld p) : ValB p false := fun A A2 c c2 w hP => (Valid_any A A2 c c2 p w hP).mono fun e w' ⟨⟨b, h1, h2⟩, h3⟩ => by
  cases b
  · exact ⟨h1, h3⟩
  · exact absurd (h2.1 rfl) h
section
variable (A A2 A3 : Option Addr) (c c2 c3 : Nat) (p : Pl) (l : List E) (w : World)
theorem wayB (hP : PlAt w w.heap.size A c A2 c2 p) (hA : Sl w w.heap.size 2 CE A3 l) (hv : Vld p) (hl : l.length ≤ 30) (b : Bool) (hb : b = true ↔ wayOk p l) :
    Calls Try.prog 27 #[.agg #[.slice A p.nodes.length c, .slice A2 p.rails.length c2], .slice A3 l.length c3] w fun e w' => e = .returned (.bool b) ∧ Below w.heap.size w w' :=
  (rWay_any A A2 A3 c c2 c3 p l w hP hv hA (by omega)).mono fun e w' ⟨⟨b', h1, h2⟩, h3⟩ => by
    have : b' = b := by rw [Bool.eq_iff_iff]; exact h2.trans hb.symm
    exact ⟨by rw [h1, this], h3⟩
end
theorem two_boxes (w : World) (a0 a1 b0 b1 : Value) (t : TypeId) :
    (((w.alloc (.cells #[a0, a1] t)).alloc (.cells #[b0, b1] t)).drew).cell? ⟨w.heap.size, 0, none⟩ = some a0 ∧ (((w.alloc (.cells #[a0, a1] t)).alloc (.cells #[b0, b1] t)).drew).cell? ⟨w.heap.size, 1, none⟩ = some a1 ∧
    (((w.alloc (.cells #[a0, a1] t)).alloc (.cells #[b0, b1] t)).drew).cell? ⟨w.heap.size + 1, 0, none⟩ = some b0 ∧ (((w.alloc (.cells #[a0, a1] t)).alloc (.cells #[b0, b1] t)).drew).cell? ⟨w.heap.size + 1, 1, none⟩ = some b1 ∧
    w.heap.size < (((w.alloc (.cells #[a0, a1] t)).alloc (.cells #[b0, b1] t)).drew).heap.size ∧ w.heap.size + 1 < (((w.alloc (.cells #[a0, a1] t)).alloc (.cells #[b0, b1] t)).drew).heap.size ∧
    Below w.heap.size w (((w.alloc (.cells #[a0, a1] t)).alloc (.cells #[b0, b1] t)).drew) := by
  have h2 : ∀ i, ((w.alloc (.cells #[a0, a1] t)).alloc (.cells #[b0, b1] t)).cell? ⟨w.heap.size + 1, i, none⟩ = #[b0, b1][i]? := fun i => by
    have := cell_new1 (w.alloc (.cells #[a0, a1] t)) #[b0, b1] t i
    rwa [show (w.alloc (.cells #[a0, a1] t)).heap.size = w.heap.size + 1 by simp] at this
  have hz : (((w.alloc (.cells #[a0, a1] t)).alloc (.cells #[b0, b1] t)).drew).heap.size = w.heap.size + 1 + 1 := by
    show ((w.alloc (.cells #[a0, a1] t)).alloc (.cells #[b0, b1] t)).heap.size = _
    simp
  exact ⟨cell_keep1 (cell_new1 w _ t 0) (by simp), cell_keep1 (cell_new1 w _ t 1) (by simp), h2 0, h2 1, by omega, by omega, (((Below.refl _ w).alloc (Nat.le_refl _) _).alloc (by simp) _).drew⟩
section row
open Go.ChangeShapes Go.WideShapes Go.ChangeAt Go.Deep
theorem Try.c40p : Try.prog.cellsOf 40 = 2 := by kernel_rfl
theorem Try.b40p : 1 ≤ Try.prog.bytesOf 40 := by rw [show Try.prog.bytesOf 40 = 16 by kernel_rfl]; omega
section
variable {H : Type} {enc : TypeId × Value → H} {w : World} {fuel : Nat} {cs : List Value} {x : DataW H × List MemPlace}
set_option maxRecDepth 100000 in
theorem read_Mp (h : DataW.trod enc Try.prog w 0 (fun _ => true) true fuel 40 cs = some x) (hl : InReach Try.prog 40 x.1) : ∃ z : E, CE z cs := by
  have hn := read_len Try.underlying40 h
  rw [Try.c40p] at hn
  obtain ⟨n1, y1, h1, _⟩ := read_at Try.underlying40 h hl 0 rfl Try.c3
  obtain ⟨n2, y2, h2, _⟩ := read_at Try.underlying40 h hl 1 rfl Try.c4
  obtain ⟨a, ha, _, _⟩ := DataW.trod_int Try.underlying3 h1
  obtain ⟨b, hb, _⟩ := DataW.trod_bool Try.underlying4 h2
  match cs, hn with
  | [u, v], _ =>
    simp at ha hb
    subst ha; subst hb
    exact ⟨⟨a, b⟩, rfl⟩
theorem read_Ms (h : DataW.trod enc Try.prog w 0 (fun _ => true) true fuel 42 cs = some x) (hl : InReach Try.prog 42 x.1) :
    ∃ (A : Option Addr) (l : List E) (c : Nat), cs = [.slice A l.length c] ∧ Sl w w.heap.size 2 CE A l ∧ l.length ≤ c ∧ c ≤ 9223372036854775807 :=
  read_slice (C := CE) Try.underlying42 Try.c40p (by omega) Try.b40p h hl fun n cs' y h hl => read_Mp h hl
end

end row
end Go.Proofs.Ytcpanfpijljeaaa
