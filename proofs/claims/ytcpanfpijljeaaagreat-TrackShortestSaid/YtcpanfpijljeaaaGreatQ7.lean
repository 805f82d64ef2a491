/- Plain functions: the search for what it costs to get to a move; costs in memory. -/
import Derived.Test.YtcpanfpijljeaaaGreatQ1
namespace Go.Proofs.YtcpanfpijljeaaaGreat
set_option linter.unusedVariables false
set_option linter.unusedSimpArgs false
open Go.RowKit

/-- costs of moves: length and number of moves; -1 if there is no way -/
abbrev C2 := Int × Int
def cmpC (a b : C2) : Int := if cmpI a.1 b.1 = 0 then cmpI a.2 b.2 else cmpI a.1 b.1
def costAt (cs : List C2) (x : Int) : C2 := cs.getD x.toNat (0, 0)
def shutAt (cl : List Bool) (x : Int) : Bool := cl.getD x.toNat false
/-- one that comes before: it is put into the pile if its cost has got less -/
def relax (cl : List Bool) (c : C2) (s : List C2 × List V3) (b : Int) : List C2 × List V3 :=
  if shutAt cl b = false ∧ ((costAt s.1 b).1 < 0 ∨ cmpC c (costAt s.1 b) < 0) then (s.1.set b.toNat c, putL s.2 ⟨c.1, c.2, b⟩) else s
/-- the search, as long as there is something in the pile -/
def search (ln : Int → Int) (bef : Nat → List Int) (cl : List Bool) : Nat → List C2 → List V3 → Option (List C2)
  | 0, _, _ => none
  | _ + 1, cs, [] => some cs
  | n + 1, cs, x :: r =>
    if 1000000 < r.length then none
    else if (x.l, x.m) = costAt cs x.v then
      (if 1000000000000000 < x.l + ln (x.v / 2) ∨ 1000000000000000 < x.m + 1 then none
       else search ln bef cl n ((bef x.v.toNat).foldl (relax cl (x.l + ln (x.v / 2), x.m + 1)) (cs, restL x r)).1 ((bef x.v.toNat).foldl (relax cl (x.l + ln (x.v / 2), x.m + 1)) (cs, restL x r)).2)
    else search ln bef cl n cs (restL x r)
def costsL (ln : Int → Int) (bef : Nat → List Int) (cl : List Bool) (M t n : Nat) : Option (List C2) :=
  if cl.getD t false = true then some (List.replicate M (-1, 0)) else search ln bef cl n ((List.replicate M (-1, 0)).set t (0, 0)) [⟨0, 0, t⟩]

theorem mem_swapL {l : List V3} {i j : Nat} {y : V3} (h : y ∈ swapL l i j) : y ∈ l := by
  unfold swapL at h
  split at h
  · rename_i a b ha hb
    rcases List.mem_or_eq_of_mem_set h with h | rfl
    · rcases List.mem_or_eq_of_mem_set h with h | rfl
      · exact h
      · exact List.mem_of_getElem? hb
    · exact List.mem_of_getElem? ha
  · exact h
theorem mem_upF {y : V3} : ∀ (n : Nat) (l : List V3) (i : Nat), y ∈ upF n l i → y ∈ l := by
  intro n
  induction n with
  | zero => exact fun l i h => h
  | succ n ih =>
    intro l i h
    rw [upF] at h
    split at h
    · exact mem_swapL (ih _ _ h)
    · exact h
theorem mem_downF {y : V3} : ∀ (n : Nat) (l : List V3) (i : Nat), y ∈ downF n l i → y ∈ l := by
  intro n
  induction n with
  | zero => exact fun l i h => h
  | succ n ih =>
    intro l i h
    rw [downF] at h
    split at h
    · exact mem_swapL (ih _ _ h)
    · exact h
theorem mem_putL {l : List V3} {x y : V3} (h : y ∈ putL l x) : y ∈ l ∨ y = x := by
  have := mem_upF _ _ _ h
  simpa using this
theorem mem_restL {x y : V3} {r : List V3} (h : y ∈ restL x r) : y ∈ x :: r := by
  have h1 := List.mem_of_mem_take (mem_downF _ _ _ h)
  rcases List.mem_or_eq_of_mem_set h1 with h | rfl
  · exact h
  · exact List.getLast_mem _

/-- an item that names a move -/
def OkV (M : Nat) (y : V3) : Prop := (∃ t : Nat, y.v = t ∧ t < M) ∧ 0 ≤ y.l ∧ 0 ≤ y.m
theorem relax_ok {M : Nat} {cl : List Bool} {c : C2} {s : List C2 × List V3} {b : Int} (hs : s.1.length = M) (hi : ∀ y ∈ s.2, OkV M y) (hb : ∃ t : Nat, b = t ∧ t < M) (h0 : 0 ≤ c.1) (h1 : 0 ≤ c.2) :
    (relax cl c s b).1.length = M ∧ (∀ y ∈ (relax cl c s b).2, OkV M y) ∧ (relax cl c s b).2.length ≤ s.2.length + 1 := by
  unfold relax
  split
  · refine ⟨by simpa using hs, fun y hy => ?_, by rw [putL_len]; omega⟩
    rcases mem_putL hy with h | rfl
    · exact hi y h
    · exact ⟨hb, h0, h1⟩
  · exact ⟨hs, hi, by omega⟩
theorem relaxes_ok {M : Nat} {cl : List Bool} {c : C2} (h0 : 0 ≤ c.1) (h1 : 0 ≤ c.2) : ∀ (L : List Int) (s : List C2 × List V3), s.1.length = M → (∀ y ∈ s.2, OkV M y) → (∀ b ∈ L, ∃ t : Nat, b = t ∧ t < M) →
    (L.foldl (relax cl c) s).1.length = M ∧ (∀ y ∈ (L.foldl (relax cl c) s).2, OkV M y) ∧ (L.foldl (relax cl c) s).2.length ≤ s.2.length + L.length := by
  intro L
  induction L with
  | nil => exact fun s hs hi _ => ⟨hs, hi, by simp⟩
  | cons b L ih =>
    intro s hs hi hb
    obtain ⟨a1, a2, a3⟩ := relax_ok (cl := cl) (c := c) hs hi (hb b (by simp)) h0 h1
    obtain ⟨b1, b2, b3⟩ := ih (relax cl c s b) a1 a2 fun z hz => hb z (by simp [hz])
    exact ⟨b1, b2, by simp only [List.foldl_cons, List.length_cons]; omega⟩
theorem foldl_take {α β : Type} (f : α → β → α) (s : α) (L : List β) {j : Nat} (hj : j < L.length) : (L.take (j + 1)).foldl f s = f ((L.take j).foldl f s) L[j] := by
  rw [List.take_succ_eq_append_getElem hj, List.foldl_append]; rfl

def fC2 (c : C2) : List Value := [.int .i64 c.1, .int .i64 c.2]
theorem fC2_len (c : C2) : (fC2 c).length = 2 := rfl
/-- Block b is just these costs. -/
def CRow (w : World) (b : Nat) (l : List C2) : Prop := w.heap[b]? = some (.cells (l.flatMap fC2).toArray 118)
/-- Block b is just these bools. -/
def BRow (w : World) (b : Nat) (l : List Bool) : Prop := w.heap[b]? = some (.cells (l.map Value.bool).toArray 4)
theorem flat_set2 (x : C2) : ∀ (l : List C2) (i : Nat), i < l.length →
    ((l.flatMap fC2).set (i * 2) (.int .i64 x.1)).set (i * 2 + 1) (.int .i64 x.2) = (l.set i x).flatMap fC2 := by
  intro l
  induction l with
  | nil => intro i hi; simp at hi
  | cons y r ih =>
    intro i hi
    cases i with
    | zero => simp [fC2]
    | succ i =>
      have := ih i (by simpa using hi)
      rw [List.set_cons_succ, List.flatMap_cons, List.flatMap_cons, ← this]
      rw [show (i + 1) * 2 = i * 2 + 2 by omega]
      simp [fC2]
theorem flat_set1 (u : Int) : ∀ (l : List C2) (i : Nat) (h : i < l.length),
    (l.flatMap fC2).set (i * 2) (.int .i64 u) = (l.set i (u, l[i].2)).flatMap fC2 := by
  intro l
  induction l with
  | nil => intro i hi; simp at hi
  | cons y r ih =>
    intro i hi
    cases i with
    | zero => simp [fC2]
    | succ i =>
      have := ih i (by simpa using hi)
      rw [List.set_cons_succ, List.flatMap_cons, List.flatMap_cons, List.getElem_cons_succ, ← this]
      rw [show (i + 1) * 2 = i * 2 + 2 by omega]
      simp [fC2]
section
variable {w w' : World} {b B : Nat} {l : List C2}
theorem CRow.lt (h : CRow w b l) : b < w.heap.size := (Array.getElem?_eq_some_iff.1 h).1
theorem CRow.of (h : CRow w b l) (e : w'.heap[b]? = w.heap[b]?) : CRow w' b l := e.trans h
theorem CRow.below (h : CRow w b l) (hb : Below B w w') (hB : b < B) : CRow w' b l := h.of (hb.block b hB)
theorem CRow.alloc (h : CRow w b l) (o : Obj) : CRow (w.alloc o) b l := h.of (Below.heap_alloc w o b h.lt)
theorem CRow.fp {pb g : Nat} (h : CRow w b l) (hf : Fp pb g w w') (h1 : b ≠ pb) (h2 : b ≠ g) : CRow w' b l := h.of (hf.block b h.lt h1 h2)
theorem CRow.fro (h : CRow w b l) (j : Nat) : w.frozen? ⟨b, j, none⟩ = false := fro_row h j
theorem CRow.cell (h : CRow w b l) {i : Nat} (hi : i < l.length) : w.cell? ⟨b, i * 2, none⟩ = some (.int .i64 l[i].1) ∧ w.cell? ⟨b, i * 2 + 1, none⟩ = some (.int .i64 l[i].2) := by
  have key : ∀ j, j < 2 → w.cell? ⟨b, i * 2 + j, none⟩ = (fC2 l[i])[j]? := by
    intro j hj
    rw [cell_of_row _ b (i * 2 + j) _ 118 (0, 0) h]
    have e := flat_get fC2_len hj l i
    rw [List.getElem?_eq_getElem hi] at e
    rw [List.getElem?_toArray]
    exact e
  exact ⟨key 0 (by omega), key 1 (by omega)⟩
theorem CRow.set (h : CRow w b l) {i : Nat} (hi : i < l.length) (x : C2) : CRow ((w.setCell ⟨b, i * 2, none⟩ (.int .i64 x.1)).setCell ⟨b, i * 2 + 1, none⟩ (.int .i64 x.2)) b (l.set i x) := by
  unfold CRow
  rw [heap_set_same _ (heap_set_same _ h), ← flat_set2 x l i hi]
  simp
theorem CRow.set1 (h : CRow w b l) {i : Nat} (hi : i < l.length) (u : Int) : CRow (w.setCell ⟨b, i * 2, none⟩ (.int .i64 u)) b (l.set i (u, l[i].2)) := by
  unfold CRow
  rw [heap_set_same _ h, ← flat_set1 u l i hi]
  simp
theorem flat_zeros (m : Nat) : (List.replicate m ((0, 0) : C2)).flatMap fC2 = List.replicate (m * 2) (Value.int .i64 0) := by
  induction m with
  | zero => rfl
  | succ m ih =>
    rw [List.replicate_succ, List.flatMap_cons, ih, show (m + 1) * 2 = m * 2 + 1 + 1 by omega, List.replicate_succ, List.replicate_succ]
    rfl
theorem CRow.made (w : World) (m : Nat) : CRow (w.alloc (.cells (madeCells #[.int .i64 0, .int .i64 0] (m * 2)) 118)) w.heap.size (List.replicate m (0, 0)) := by
  unfold CRow
  rw [heap_alloc_new, flat_zeros]
  congr 2
  apply Array.ext
  · simp [madeCells]
  · intro i h1 h2
    rcases Nat.mod_two_eq_zero_or_one i with h | h <;> simp [madeCells, h]
theorem BRow.cell {l : List Bool} (h : BRow w b l) {i : Nat} (hi : i < l.length) : w.cell? ⟨b, i, none⟩ = some (.bool l[i]) := by
  rw [cell_of_row _ b i _ 4 (0, 0) h]
  simp [hi]
theorem BRow.lt {l : List Bool} (h : BRow w b l) : b < w.heap.size := (Array.getElem?_eq_some_iff.1 h).1
end
end Go.Proofs.YtcpanfpijljeaaaGreat
