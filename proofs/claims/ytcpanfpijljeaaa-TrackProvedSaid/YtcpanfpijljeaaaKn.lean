/- Plain: the plan of the examples, and what the network finds on it. -/
import Derived.Test.YtcpanfpijljeaaaG5
namespace Go.Proofs.Ytcpanfpijljeaaa
set_option linter.unusedVariables false
set_option linter.unusedSimpArgs false

def exP : Pl := ⟨[⟨⟨0, 0⟩, 1, [⟨0, false⟩], 0⟩, ⟨⟨1000, 0⟩, 4, [⟨0, true⟩, ⟨1, false⟩, ⟨2, false⟩], 0⟩, ⟨⟨2000, 0⟩, 1, [⟨1, true⟩], 0⟩, ⟨⟨2000, 500⟩, 1, [⟨2, true⟩], 0⟩],
  [⟨0, 1, [], 8000, 0⟩, ⟨1, 2, [], 8000, 0⟩, ⟨1, 3, [⟨1600, 0⟩], 8000, 0⟩]⟩
theorem ex_sizes : sizesB exP = true := by decide
theorem ex_nodes : exP.nodes.all nodeB = true := by decide
theorem ex_rails : railsB exP = true := by decide +kernel
theorem ex_lens : lensOf exP = [1000, 1000, 1240] := by decide +kernel
theorem ex_ends : okEnds exP := by
  refine ⟨fun i hi e he => ?_, ?_, rfl⟩
  · have hi' : i < 4 := hi
    rcases (show i = 0 ∨ i = 1 ∨ i = 2 ∨ i = 3 by omega) with rfl | rfl | rfl | rfl <;> simp [exP] at he <;> (try rcases he with rfl | rfl | rfl) <;> (try subst he) <;> exact ⟨by decide, by decide, by decide⟩
  · simp [flatE, exP]
theorem ex_valid : Vld exP := ⟨ex_sizes, ex_nodes, ex_rails, ex_ends⟩
theorem ex_leave : (List.range 6).map (leaveL exP) = [[2, 4], [], [], [1], [], [1]] := by decide +kernel
theorem ex_bef4 : befL exP 6 4 = [0] := by decide +kernel
theorem ex_bef0 : befL exP 6 0 = [] := by decide +kernel
theorem ex_len2 : lenAt exP 2 = 1240 := by simp [lenAt, ex_lens]
theorem ex_len0 : lenAt exP 0 = 1000 := by simp [lenAt, ex_lens]
theorem next_sorted {p : Pl} {x : Nat} {l : List Int} (h : leaveL p x = l) (hs : l.Pairwise fun a b => decide (a ≤ b) = true) : nextL p x = l := by
  unfold nextL; rw [h]; exact List.mergeSort_of_pairwise hs
theorem ex_next0 : nextL exP 0 = [2, 4] := next_sorted (by decide +kernel) (by decide)
theorem ex_next5 : nextL exP 5 = [1] := next_sorted (by decide +kernel) (by decide)
theorem ex_fol04 : folB exP 0 4 = true := by simp [folB, ex_next0]
theorem ex_fol51 : folB exP 5 1 = true := by simp [folB, ex_next5]
theorem ex_kind : (atN exP (flip 0)).kind = 4 := by decide +kernel
theorem ex_at : nodeAtZ exP (flip 0 : Nat) = 1 := by decide +kernel
theorem ex_set : setZ exP 0 4 = 2 := by decide +kernel
theorem ex_cov : covL exP [5, 1] 700 1500 = [⟨2, 0, 540⟩, ⟨0, 740, 1000⟩] := by
  simp [covL, covTo, covOne, wlen, lenAt, ex_lens, List.range_succ, Int.min_def, Int.max_def]
end Go.Proofs.Ytcpanfpijljeaaa
/- Contract: Example: the plan of the examples in memory. -/
namespace Go.Proofs.Ytcpanfpijljeaaa
open Go.RowKit

theorem Sl.blk {α : Type} {C : α → List Value → Prop} {w : World} {B b size : Nat} {arr : Array Value} {t : TypeId} {l : List α} (h : w.heap[b]? = some (.cells arr t)) (hb : b < B)
    (hc : ∀ i x, l[i]? = some x → ∃ cs, C x cs ∧ ∀ j u, cs[j]? = some u → arr[i * size + j]? = some u) : Sl w B size C (some ⟨b, 0, none⟩) l := fun _ =>
  ⟨b, 0, rfl, hb, fun i x hx => by
    obtain ⟨cs, h1, h2⟩ := hc i x hx
    exact ⟨cs, h1, fun j u hu => by rw [cell_of_row _ _ _ _ _ _ h, Nat.zero_add]; exact h2 j u hu⟩⟩
theorem allocs_get : ∀ (os : List Obj) (w : World) (j : Nat) (o : Obj), os[j]? = some o → (os.foldl World.alloc w).heap[w.heap.size + j]? = some o ∧ w.heap.size + os.length = (os.foldl World.alloc w).heap.size
  | [], w, j, o, h => by simp at h
  | p :: os, w, 0, o, h => by
    obtain rfl : p = o := by simpa using h
    have key : ∀ (os : List Obj) (w : World) (k : Nat), k < w.heap.size → (os.foldl World.alloc w).heap[k]? = w.heap[k]? ∧ (os.foldl World.alloc w).heap.size = w.heap.size + os.length := fun os => by
      induction os with
      | nil => intro w k hk; exact ⟨rfl, rfl⟩
      | cons q os ih =>
        intro w k hk
        obtain ⟨h1, h2⟩ := ih (w.alloc q) k (by simp; omega)
        exact ⟨h1.trans (Below.heap_alloc w q k hk), by rw [List.foldl_cons, h2]; simp; omega⟩
    obtain ⟨h1, h2⟩ := key os (w.alloc p) w.heap.size (by simp)
    exact ⟨h1.trans (heap_alloc_new w p), by rw [List.foldl_cons, h2]; simp; omega⟩
  | p :: os, w, j + 1, o, h => by
    obtain ⟨h1, h2⟩ := allocs_get os (w.alloc p) j o (by simpa using h)
    rw [show (w.alloc p).heap.size = w.heap.size + 1 by simp] at h1 h2
    exact ⟨by rw [show w.heap.size + (j + 1) = w.heap.size + 1 + j by omega]; exact h1, by rw [List.foldl_cons, ← h2]; simp; omega⟩

def exO (N : Nat) : List Obj := [.cells #[.slice (some ⟨N + 1 + 1 + 1 + 1 + 1, 0, none⟩) 4 4, .slice (some ⟨N + 1 + 1 + 1 + 1 + 1 + 1 + 1, 0, none⟩) 3 3] 25, .cells #[.int .i64 0, .bool false] 89,
  .cells #[.int .i64 0, .bool true, .int .i64 1, .bool false, .int .i64 2, .bool false] 89, .cells #[.int .i64 1, .bool true] 89, .cells #[.int .i64 2, .bool true] 89,
  .cells #[.int .i64 0, .int .i64 0, .int .i64 1, .slice (some ⟨N + 1, 0, none⟩) 1 1, .int .i64 0, .int .i64 1000, .int .i64 0, .int .i64 4, .slice (some ⟨N + 1 + 1, 0, none⟩) 3 3, .int .i64 0,
    .int .i64 2000, .int .i64 0, .int .i64 1, .slice (some ⟨N + 1 + 1 + 1, 0, none⟩) 1 1, .int .i64 0, .int .i64 2000, .int .i64 500, .int .i64 1, .slice (some ⟨N + 1 + 1 + 1 + 1, 0, none⟩) 1 1, .int .i64 0] 63,
  .cells #[.int .i64 1600, .int .i64 0] 59,
  .cells #[.int .i64 0, .int .i64 1, .slice none 0 0, .int .i64 8000, .int .i64 0, .int .i64 1, .int .i64 2, .slice none 0 0, .int .i64 8000, .int .i64 0, .int .i64 1, .int .i64 3, .slice (some ⟨N + 1 + 1 + 1 + 1 + 1 + 1, 0, none⟩) 1 1, .int .i64 8000, .int .i64 0] 57]
theorem exO_plan (w : World) : PlAt ((exO w.heap.size).foldl World.alloc w) ((exO w.heap.size).foldl World.alloc w).heap.size (some ⟨w.heap.size + 1 + 1 + 1 + 1 + 1, 0, none⟩) 4 (some ⟨w.heap.size + 1 + 1 + 1 + 1 + 1 + 1 + 1, 0, none⟩) 3 exP := by
  have g := fun j o h => allocs_get (exO w.heap.size) w j o h
  have hz : w.heap.size + 8 = ((exO w.heap.size).foldl World.alloc w).heap.size := (g 0 _ rfl).2
  have h1 := (g 1 _ rfl).1; have h2 := (g 2 _ rfl).1; have h3 := (g 3 _ rfl).1; have h4 := (g 4 _ rfl).1
  have h5 := (g 5 _ rfl).1; have h6 := (g 6 _ rfl).1; have h7 := (g 7 _ rfl).1
  generalize (exO w.heap.size).foldl World.alloc w = W at *
  have e1 : Sl W W.heap.size 2 CE (some ⟨w.heap.size + 1, 0, none⟩) [⟨0, false⟩] := Sl.blk h1 (by omega) fun i x hx => by
    rcases i with _ | i
    · obtain rfl : _ = x := by simpa using hx
      exact ⟨_, rfl, fun j u hu => by rcases j with _ | _ | j <;> simp_all⟩
    · simp at hx
  have e2 : Sl W W.heap.size 2 CE (some ⟨w.heap.size + 1 + 1, 0, none⟩) [⟨0, true⟩, ⟨1, false⟩, ⟨2, false⟩] := Sl.blk h2 (by omega) fun i x hx => by
    rcases i with _ | _ | _ | i
    · obtain rfl : _ = x := by simpa using hx
      exact ⟨_, rfl, fun j u hu => by rcases j with _ | _ | j <;> simp_all⟩
    · obtain rfl : _ = x := by simpa using hx
      exact ⟨_, rfl, fun j u hu => by rcases j with _ | _ | j <;> simp_all⟩
    · obtain rfl : _ = x := by simpa using hx
      exact ⟨_, rfl, fun j u hu => by rcases j with _ | _ | j <;> simp_all⟩
    · simp at hx
  have e3 : Sl W W.heap.size 2 CE (some ⟨w.heap.size + 1 + 1 + 1, 0, none⟩) [⟨1, true⟩] := Sl.blk h3 (by omega) fun i x hx => by
    rcases i with _ | i
    · obtain rfl : _ = x := by simpa using hx
      exact ⟨_, rfl, fun j u hu => by rcases j with _ | _ | j <;> simp_all⟩
    · simp at hx
  have e4 : Sl W W.heap.size 2 CE (some ⟨w.heap.size + 1 + 1 + 1 + 1, 0, none⟩) [⟨2, true⟩] := Sl.blk h4 (by omega) fun i x hx => by
    rcases i with _ | i
    · obtain rfl : _ = x := by simpa using hx
      exact ⟨_, rfl, fun j u hu => by rcases j with _ | _ | j <;> simp_all⟩
    · simp at hx
  have e6 : Sl W W.heap.size 2 CS (some ⟨w.heap.size + 1 + 1 + 1 + 1 + 1 + 1, 0, none⟩) [⟨1600, 0⟩] := Sl.blk h6 (by omega) fun i x hx => by
    rcases i with _ | i
    · obtain rfl : _ = x := by simpa using hx
      exact ⟨_, rfl, fun j u hu => by rcases j with _ | _ | j <;> simp_all⟩
    · simp at hx
  refine ⟨Sl.blk h5 (by omega) fun i x hx => ?_, by decide, by omega, Sl.blk h7 (by omega) fun i x hx => ?_, by decide, by omega⟩
  · rcases i with _ | _ | _ | _ | i
    · obtain rfl : _ = x := by simpa [exP] using hx
      exact ⟨_, ⟨_, 1, rfl, e1, by simp, by omega⟩, fun j u hu => by rcases j with _ | _ | _ | _ | _ | j <;> simp_all⟩
    · obtain rfl : _ = x := by simpa [exP] using hx
      exact ⟨_, ⟨_, 3, rfl, e2, by simp, by omega⟩, fun j u hu => by rcases j with _ | _ | _ | _ | _ | j <;> simp_all⟩
    · obtain rfl : _ = x := by simpa [exP] using hx
      exact ⟨_, ⟨_, 1, rfl, e3, by simp, by omega⟩, fun j u hu => by rcases j with _ | _ | _ | _ | _ | j <;> simp_all⟩
    · obtain rfl : _ = x := by simpa [exP] using hx
      exact ⟨_, ⟨_, 1, rfl, e4, by simp, by omega⟩, fun j u hu => by rcases j with _ | _ | _ | _ | _ | j <;> simp_all⟩
    · simp [exP] at hx
  · rcases i with _ | _ | _ | i
    · obtain rfl : _ = x := by simpa [exP] using hx
      exact ⟨_, ⟨none, 0, rfl, Sl.nil, by simp, by omega⟩, fun j u hu => by rcases j with _ | _ | _ | _ | _ | j <;> simp_all⟩
    · obtain rfl : _ = x := by simpa [exP] using hx
      exact ⟨_, ⟨none, 0, rfl, Sl.nil, by simp, by omega⟩, fun j u hu => by rcases j with _ | _ | _ | _ | _ | j <;> simp_all⟩
    · obtain rfl : _ = x := by simpa [exP] using hx
      exact ⟨_, ⟨_, 1, rfl, e6, by simp, by omega⟩, fun j u hu => by rcases j with _ | _ | _ | _ | _ | j <;> simp_all⟩
    · simp [exP] at hx

def ExPost (w : World) (e : Ending) (w' : World) : Prop :=
  (∃ (A A2 : Option Addr), e = .returned (.agg #[.slice A 4 4, .slice A2 3 3]) ∧ PlAt w' w'.heap.size A 4 A2 3 exP) ∧ Below w.heap.size w w'
theorem exO_below (w : World) : Below w.heap.size w ((exO w.heap.size).foldl World.alloc w) := by
  simp only [exO, List.foldl_cons, List.foldl_nil]
  exact ((((((((Below.refl _ w).alloc (Nat.le_refl _) _).alloc (by simp) _).alloc (by simp; omega) _).alloc (by simp; omega) _).alloc (by simp; omega) _).alloc (by simp; omega) _).alloc (by simp; omega) _).alloc (by simp; omega) _
set_option maxRecDepth 100000 in
set_option maxHeartbeats 4000000 in
theorem Example_any (w : World) : Calls Try.prog 35 #[] w (ExPost w) := by
  have HP := Lib.hid (exO_plan w); have HB := Lib.hid (exO_below w)
  go_enter Try.func35, Try.ntmps35
  go_wp2
  exact bodyPost_ret (v := .agg #[.slice (some ⟨w.heap.size + 1 + 1 + 1 + 1 + 1, 0, none⟩) 4 4, .slice (some ⟨w.heap.size + 1 + 1 + 1 + 1 + 1 + 1 + 1, 0, none⟩) 3 3]) (by simp [results, Try.results35, go_sem]) rfl ⟨⟨_, _, rfl, HP.out⟩, HB.out⟩
end Go.Proofs.Ytcpanfpijljeaaa
