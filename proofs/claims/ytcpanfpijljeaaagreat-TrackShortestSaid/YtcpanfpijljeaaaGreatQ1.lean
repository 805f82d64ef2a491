/- Plain functions: a pile, as lists; what it costs to get to a move. -/
import Derived.Below
import Derived.Test.YtcpanfpijljeaaaGreatBlk
import Derived.Test.YtcpanfpijljeaaaGreatOwn
namespace Go.Proofs.YtcpanfpijljeaaaGreat
set_option linter.unusedVariables false
set_option linter.unusedSimpArgs false

/-- a move of which it is known what it costs -/
structure V3 where
  l : Int
  m : Int
  v : Int

def cmpI (a b : Int) : Int := if a < b then -1 else if b < a then 1 else 0
def cmpV (a b : V3) : Int := if cmpI a.l b.l = 0 then cmpI a.m b.m else cmpI a.l b.l
def ltV (a b : V3) : Bool := decide (cmpV a b < 0)
def ltAt (l : List V3) (i j : Nat) : Bool :=
  match l[i]?, l[j]? with
  | some x, some y => ltV x y
  | _, _ => false
def swapL (l : List V3) (i j : Nat) : List V3 :=
  match l[i]?, l[j]? with
  | some x, some y => (l.set i y).set j x
  | _, _ => l
theorem swapL_len (l : List V3) (i j : Nat) : (swapL l i j).length = l.length := by
  unfold swapL; split <;> simp
theorem swapL_at {l : List V3} {i j : Nat} (hi : i < l.length) (hj : j < l.length) : swapL l i j = (l.set i l[j]).set j l[i] := by
  unfold swapL; simp [hi, hj]
theorem ltAt_at {l : List V3} {i j : Nat} (hi : i < l.length) (hj : j < l.length) : ltAt l i j = ltV l[i] l[j] := by
  unfold ltAt; simp [hi, hj]

/-- an item goes up to where it belongs -/
def upF : Nat → List V3 → Nat → List V3
  | 0, l, _ => l
  | n + 1, l, i => if 0 < i ∧ ltAt l i ((i - 1) / 2) = true then upF n (swapL l i ((i - 1) / 2)) ((i - 1) / 2) else l
theorem upF_more : ∀ (n m : Nat) (l : List V3) (i : Nat), i ≤ n → i ≤ m → upF n l i = upF m l i := by
  intro n
  induction n with
  | zero =>
    intro m l i h1 h2
    obtain rfl : i = 0 := by omega
    cases m with
    | zero => rfl
    | succ m => simp [upF]
  | succ n ih =>
    intro m l i h1 h2
    cases m with
    | zero =>
      obtain rfl : i = 0 := by omega
      simp [upF]
    | succ m =>
      simp only [upF]
      by_cases h : 0 < i ∧ ltAt l i ((i - 1) / 2) = true
      · rw [if_pos h, if_pos h]
        exact ih m _ _ (by omega) (by omega)
      · rw [if_neg h, if_neg h]
def upL (l : List V3) (i : Nat) : List V3 := upF i l i
theorem upL_go {l : List V3} {i : Nat} (h0 : 0 < i) (h : ltAt l i ((i - 1) / 2) = true) : upL l i = upL (swapL l i ((i - 1) / 2)) ((i - 1) / 2) := by
  unfold upL
  obtain ⟨n, rfl⟩ : ∃ n, i = n + 1 := ⟨i - 1, by omega⟩
  rw [upF, if_pos ⟨h0, h⟩]
  exact upF_more _ _ _ _ (by omega) (by omega)
theorem upL_end {l : List V3} {i : Nat} (h : i = 0 ∨ ltAt l i ((i - 1) / 2) = false) : upL l i = l := by
  unfold upL
  cases i with
  | zero => rfl
  | succ n =>
    rw [upF, if_neg]
    rintro ⟨h1, h2⟩
    rcases h with h | h
    · omega
    · rw [h] at h2; cases h2
theorem upF_len : ∀ (n : Nat) (l : List V3) (i : Nat), (upF n l i).length = l.length := by
  intro n
  induction n with
  | zero => intro l i; rfl
  | succ n ih =>
    intro l i
    rw [upF]
    split
    · rw [ih, swapL_len]
    · rfl
theorem upL_len (l : List V3) (i : Nat) : (upL l i).length = l.length := upF_len _ _ _
def putL (l : List V3) (x : V3) : List V3 := upL (l ++ [x]) l.length
theorem putL_len (l : List V3) (x : V3) : (putL l x).length = l.length + 1 := by simp [putL, upL_len]

/-- the lesser one of the two items below an item -/
def childL (l : List V3) (i : Nat) : Nat := if 2 * i + 2 < l.length ∧ ltAt l (2 * i + 2) (2 * i + 1) = true then 2 * i + 2 else 2 * i + 1
/-- an item goes down to where it belongs -/
def downF : Nat → List V3 → Nat → List V3
  | 0, l, _ => l
  | n + 1, l, i => if 2 * i + 1 < l.length ∧ ltAt l (childL l i) i = true then downF n (swapL l i (childL l i)) (childL l i) else l
theorem childL_lt {l : List V3} {i : Nat} (h : 2 * i + 1 < l.length) : childL l i < l.length ∧ i < childL l i := by
  unfold childL; split <;> omega
theorem downF_more : ∀ (n m : Nat) (l : List V3) (i : Nat), l.length ≤ n + i → l.length ≤ m + i → downF n l i = downF m l i := by
  intro n
  induction n with
  | zero =>
    intro m l i h1 h2
    cases m with
    | zero => rfl
    | succ m => rw [downF, downF, if_neg (by omega)]
  | succ n ih =>
    intro m l i h1 h2
    cases m with
    | zero => rw [downF, downF, if_neg (by omega)]
    | succ m =>
      simp only [downF]
      by_cases h : 2 * i + 1 < l.length ∧ ltAt l (childL l i) i = true
      · rw [if_pos h, if_pos h]
        have := childL_lt h.1
        exact ih m _ _ (by rw [swapL_len]; omega) (by rw [swapL_len]; omega)
      · rw [if_neg h, if_neg h]
def downL (l : List V3) (i : Nat) : List V3 := downF l.length l i
theorem downL_go {l : List V3} {i : Nat} (h0 : 2 * i + 1 < l.length) (h : ltAt l (childL l i) i = true) : downL l i = downL (swapL l i (childL l i)) (childL l i) := by
  unfold downL
  rw [swapL_len]
  obtain ⟨n, hn⟩ : ∃ n, l.length = n + 1 := ⟨l.length - 1, by omega⟩
  rw [hn, downF, if_pos ⟨h0, h⟩]
  have := childL_lt h0
  exact downF_more _ _ _ _ (by rw [swapL_len]; omega) (by rw [swapL_len]; omega)
theorem downL_end {l : List V3} {i : Nat} (h : l.length ≤ 2 * i + 1 ∨ ltAt l (childL l i) i = false) : downL l i = l := by
  unfold downL
  rcases Nat.eq_zero_or_pos l.length with hz | hp
  · rw [hz]; rfl
  · obtain ⟨n, hn⟩ : ∃ n, l.length = n + 1 := ⟨l.length - 1, by omega⟩
    rw [hn, downF, if_neg]
    rintro ⟨h1, h2⟩
    rcases h with h | h
    · omega
    · rw [h] at h2; cases h2
theorem downF_len : ∀ (n : Nat) (l : List V3) (i : Nat), (downF n l i).length = l.length := by
  intro n
  induction n with
  | zero => intro l i; rfl
  | succ n ih =>
    intro l i
    rw [downF]
    split
    · rw [ih, swapL_len]
    · rfl
theorem downL_len (l : List V3) (i : Nat) : (downL l i).length = l.length := downF_len _ _ _
/-- what is left when the least is taken -/
def restL (x : V3) (r : List V3) : List V3 := downL (((x :: r).set 0 ((x :: r).getLast (by simp))).take r.length) 0
theorem restL_len (x : V3) (r : List V3) : (restL x r).length = r.length := by simp [restL, downL_len]

end Go.Proofs.YtcpanfpijljeaaaGreat
/- Words: a pile in memory. -/
namespace Go.Proofs.YtcpanfpijljeaaaGreat
open Go.RowKit

def fV (x : V3) : List Value := [.int .i64 x.l, .int .i64 x.m, .int .i64 x.v]
theorem fV_len (x : V3) : (fV x).length = 3 := rfl
theorem fV_one (x : V3) : ∀ u ∈ fV x, u.oneCell' = true := by simp [fV, Value.oneCell']

theorem flat_set3 (x : V3) : ∀ (l : List V3) (i : Nat), i < l.length →
    (((l.flatMap fV).set (i * 3) (.int .i64 x.l)).set (i * 3 + 1) (.int .i64 x.m)).set (i * 3 + 2) (.int .i64 x.v) = (l.set i x).flatMap fV := by
  intro l
  induction l with
  | nil => intro i hi; simp at hi
  | cons y r ih =>
    intro i hi
    cases i with
    | zero => simp [fV]
    | succ i =>
      have := ih i (by simpa using hi)
      rw [List.set_cons_succ, List.flatMap_cons, List.flatMap_cons, ← this]
      rw [show (i + 1) * 3 = i * 3 + 3 by omega]
      simp [fV]
theorem flat_take3 (l : List V3) (n : Nat) : (l.take n).flatMap fV = (l.flatMap fV).take (n * 3) := by
  induction l generalizing n with
  | nil => simp
  | cons y r ih =>
    cases n with
    | zero => simp
    | succ n =>
      rw [List.take_succ_cons, List.flatMap_cons, List.flatMap_cons, ih, show (n + 1) * 3 = n * 3 + 3 by omega]
      simp [fV]

/-- blocks pb and g alone may have changed -/
structure Fp (pb g : Nat) (w w' : World) : Prop where
  os : w'.os = w.os
  tape : w'.tape = w.tape
  output : w'.output = w.output
  size : w.heap.size ≤ w'.heap.size
  block : ∀ k, k < w.heap.size → k ≠ pb → k ≠ g → w'.heap[k]? = w.heap[k]?
section
variable {pb g g2 B : Nat} {w w' w'' : World}
theorem Fp.refl (pb g : Nat) (w : World) : Fp pb g w w := ⟨rfl, rfl, rfl, Nat.le_refl _, fun _ _ _ _ => rfl⟩
theorem Fp.alloc (h : Fp pb g w w') (o : Obj) : Fp pb g w (w'.alloc o) :=
  ⟨h.os, h.tape, h.output, by have := h.size; simp; omega, fun k hk h1 h2 => (Below.heap_alloc _ _ _ (Nat.lt_of_lt_of_le hk h.size)).trans (h.block k hk h1 h2)⟩
theorem Fp.drew (h : Fp pb g w w') : Fp pb g w w'.drew := ⟨h.os, h.tape, h.output, h.size, h.block⟩
theorem Fp.drewN (h : Fp pb g w w') (n : Nat) : Fp pb g w (w'.drewN n) := ⟨h.os, h.tape, h.output, h.size, h.block⟩
theorem Fp.set (h : Fp pb g w w') {p : Addr} (u : Value) (hp : p.block = pb ∨ p.block = g ∨ w.heap.size ≤ p.block) : Fp pb g w (w'.setCell p u) :=
  ⟨h.os, h.tape, h.output, by simpa [World.setCell] using h.size, fun i hi h1 h2 => (Below.heap_setCell _ _ _ _ (by rintro rfl; omega)).trans (h.block i hi h1 h2)⟩
theorem Fp.trans (h : Fp pb g w w') (k : Fp pb g2 w' w'') (hg : g2 = g ∨ w.heap.size ≤ g2) : Fp pb g w w'' :=
  ⟨k.os.trans h.os, k.tape.trans h.tape, k.output.trans h.output, Nat.le_trans h.size k.size, fun i hi h1 h2 => (k.block i (Nat.lt_of_lt_of_le hi h.size) h1 (by rintro rfl; omega)).trans (h.block i hi h1 h2)⟩
theorem Fp.below (h : Fp pb g w w') (k : Below B w' w'') (hB : w.heap.size ≤ B) : Fp pb g w w'' :=
  ⟨k.os.trans h.os, k.tape.trans h.tape, k.output.trans h.output, Nat.le_trans h.size k.size, fun i hi h1 h2 => (k.block i (by omega)).trans (h.block i hi h1 h2)⟩
theorem Fp.grown (h : Fp pb g w w') {row : Option Nat} (k : w'.grownBy w'' row) (hr : ∀ j, row = some j → j = g ∨ w.heap.size ≤ j) : Fp pb g w w'' :=
  ⟨k.os.trans h.os, k.tape.trans h.tape, k.output.trans h.output, Nat.le_trans h.size k.size, fun i hi h1 h2 => (k.block i (Nat.lt_of_lt_of_le hi h.size) (fun e => by have := hr i e.symm; omega)).trans (h.block i hi h1 h2)⟩
theorem Fp.toBelow (h : Fp pb g w w') (h1 : B ≤ pb) (h2 : B ≤ g) (hB : B ≤ w.heap.size) : Below B w w' :=
  ⟨h.os, h.tape, h.output, h.size, fun k hk => h.block k (by omega) (by omega) (by omega)⟩
end

/-- A pile at block pb: its items at block g, its function of comparison. -/
structure Pile (w : World) (base pb : Nat) (F : Value) (l : List V3) (g c : Nat) : Prop where
  pl : base ≤ pb
  gl : base ≤ g
  ne : pb ≠ g
  blk : w.heap[pb]? = some (.cells #[.slice (some ⟨g, 0, none⟩) l.length c, F] 141)
  cur : ∃ cur, w.heap[g]? = some (.cells cur 136) ∧ cur.size = c * 3 ∧ cur.toList.take (l.length * 3) = l.flatMap fV
  lc : l.length ≤ c
  cm : c ≤ maxLen

theorem fro_row {w : World} {b : Nat} {cs : Array Value} {t : TypeId} (h : w.heap[b]? = some (.cells cs t)) (i : Nat) : w.frozen? ⟨b, i, none⟩ = false := by
  unfold World.frozen?; rw [h]; simp

section
variable {w w' : World} {base pb : Nat} {F : Value} {l : List V3} {g c : Nat}
theorem Pile.plt (h : Pile w base pb F l g c) : pb < w.heap.size := (Array.getElem?_eq_some_iff.1 h.blk).1
theorem Pile.glt (h : Pile w base pb F l g c) : g < w.heap.size := by
  obtain ⟨cur, hg, _⟩ := h.cur
  exact (Array.getElem?_eq_some_iff.1 hg).1
theorem Pile.head (h : Pile w base pb F l g c) : w.cell? ⟨pb, 0, none⟩ = some (.slice (some ⟨g, 0, none⟩) l.length c) ∧ w.cell? ⟨pb, 1, none⟩ = some F ∧ w.frozen? ⟨pb, 0, none⟩ = false :=
  ⟨cell_of_row _ _ 0 _ _ _ h.blk, cell_of_row _ _ 1 _ _ _ h.blk, fro_row h.blk 0⟩
theorem Pile.at_ (h : Pile w base pb F l g c) {i : Nat} (hi : i < l.length) :
    w.cell? ⟨g, i * 3, none⟩ = some (.int .i64 l[i].l) ∧ w.cell? ⟨g, i * 3 + 1, none⟩ = some (.int .i64 l[i].m) ∧ w.cell? ⟨g, i * 3 + 2, none⟩ = some (.int .i64 l[i].v) := by
  obtain ⟨cur, hg, hs, ht⟩ := h.cur
  have key : ∀ j, j < 3 → w.cell? ⟨g, i * 3 + j, none⟩ = (fV l[i])[j]? := by
    intro j hj
    rw [cell_of_row _ g (i * 3 + j) _ 136 (0, 0) hg]
    have e := flat_get fV_len hj l i
    rw [← ht, List.getElem?_take_of_lt (by omega), List.getElem?_eq_getElem hi] at e
    rw [← Array.getElem?_toList]
    exact e
  exact ⟨key 0 (by omega), key 1 (by omega), key 2 (by omega)⟩
theorem Pile.fro (h : Pile w base pb F l g c) (j : Nat) : w.frozen? ⟨g, j, none⟩ = false := by
  obtain ⟨cur, hg, _⟩ := h.cur
  exact fro_row hg j
theorem Pile.of (h : Pile w base pb F l g c) (h1 : w'.heap[pb]? = w.heap[pb]?) (h2 : w'.heap[g]? = w.heap[g]?) : Pile w' base pb F l g c := by
  obtain ⟨cur, hg, hc⟩ := h.cur
  exact ⟨h.pl, h.gl, h.ne, h1.trans h.blk, ⟨cur, h2.trans hg, hc⟩, h.lc, h.cm⟩
theorem Pile.alloc (h : Pile w base pb F l g c) (o : Obj) : Pile (w.alloc o) base pb F l g c :=
  h.of (Below.heap_alloc w o pb h.plt) (Below.heap_alloc w o g h.glt)
theorem Pile.drew (h : Pile w base pb F l g c) : Pile w.drew base pb F l g c := h.of rfl rfl
theorem Pile.drewN (h : Pile w base pb F l g c) (n : Nat) : Pile (w.drewN n) base pb F l g c := h.of rfl rfl
theorem Pile.other (h : Pile w base pb F l g c) {p : Addr} (u : Value) (h1 : pb ≠ p.block) (h2 : g ≠ p.block) : Pile (w.setCell p u) base pb F l g c :=
  h.of (Below.heap_setCell w p u pb h1) (Below.heap_setCell w p u g h2)
theorem Pile.below {B : Nat} (h : Pile w base pb F l g c) (hb : Below B w w') (h1 : pb < B) (h2 : g < B) : Pile w' base pb F l g c := h.of (hb.block pb h1) (hb.block g h2)
/-- an item is stored -/
theorem Pile.set (h : Pile w base pb F l g c) {i : Nat} (hi : i < l.length) (x : V3) :
    Pile (((w.setCell ⟨g, i * 3, none⟩ (.int .i64 x.l)).setCell ⟨g, i * 3 + 1, none⟩ (.int .i64 x.m)).setCell ⟨g, i * 3 + 2, none⟩ (.int .i64 x.v)) base pb F (l.set i x) g c := by
  obtain ⟨cur, hg, hs, ht⟩ := h.cur
  refine ⟨h.pl, h.gl, h.ne, ?_, ⟨_, heap_set_same _ (heap_set_same _ (heap_set_same _ hg)), by simpa using hs, ?_⟩, by rw [List.length_set]; exact h.lc, h.cm⟩
  · rw [Below.heap_setCell _ _ _ _ h.ne, Below.heap_setCell _ _ _ _ h.ne, Below.heap_setCell _ _ _ _ h.ne, List.length_set]
    exact h.blk
  · rw [List.length_set, ← flat_set3 x l i hi, ← ht]
    simp only [Array.toList_setIfInBounds, List.take_set]
theorem Pile.set0 (h : Pile w base pb F l g c) (h0 : 0 < l.length) (x : V3) :
    Pile (((w.setCell ⟨g, 0, none⟩ (.int .i64 x.l)).setCell ⟨g, 1, none⟩ (.int .i64 x.m)).setCell ⟨g, 2, none⟩ (.int .i64 x.v)) base pb F (l.set 0 x) g c := by
  have := h.set h0 x
  simp only [Nat.zero_mul, Nat.zero_add] at this
  exact this
theorem Pile.at0 (h : Pile w base pb F l g c) (h0 : 0 < l.length) :
    w.cell? ⟨g, 0, none⟩ = some (.int .i64 l[0].l) ∧ w.cell? ⟨g, 1, none⟩ = some (.int .i64 l[0].m) ∧ w.cell? ⟨g, 2, none⟩ = some (.int .i64 l[0].v) := by
  have := h.at_ h0
  simp only [Nat.zero_mul, Nat.zero_add] at this
  exact this
/-- the pile is cut short -/
theorem Pile.cut (h : Pile w base pb F l g c) (n : Nat) (hn : n ≤ l.length) : Pile (w.setCell ⟨pb, 0, none⟩ (.slice (some ⟨g, 0, none⟩) n c)) base pb F (l.take n) g c := by
  obtain ⟨cur, hg, hs, ht⟩ := h.cur
  have hl : (l.take n).length = n := by simp; omega
  refine ⟨h.pl, h.gl, h.ne, ?_, ⟨cur, ?_, hs, ?_⟩, by rw [hl]; have := h.lc; omega, h.cm⟩
  · rw [hl, heap_set_same _ h.blk]; rfl
  · rw [Below.heap_setCell _ _ _ _ (Ne.symm h.ne)]; exact hg
  · rw [hl, flat_take3, ← ht, List.take_take, Nat.min_eq_left (by omega)]
/-- the items as a slice of the call's own -/
theorem Pile.own (h : Pile w base pb F l g c) : Own w base 136 3 fV (.slice (some ⟨g, 0, none⟩) l.length c) l := by
  obtain ⟨cur, hg, hs, ht⟩ := h.cur
  exact ⟨by rw [flat_len fV_len], .inr ⟨g, c, cur, rfl, h.gl, hg, h.lc, h.cm, hs, by rw [ht]⟩⟩
/-- an item more, in the same block or in a new one -/
theorem Pile.grown {w2 : World} {g2 c2 : Nat} (h : Pile w base pb F l g c) (x : V3) (ho : w2.ownsRow base 136 3 (.slice (some ⟨g2, 0, none⟩) (l.length + 1) c2) (l.length + 1) (l.flatMap fV ++ fV x))
    (hb : w2.heap[pb]? = w.heap[pb]?) (hg : pb ≠ g2) : Pile (w2.setCell ⟨pb, 0, none⟩ (.slice (some ⟨g2, 0, none⟩) (l.length + 1) c2)) base pb F (l ++ [x]) g2 c2 := by
  have hl : (l ++ [x]).length = l.length + 1 := by simp
  rcases ho.2 with ⟨_, h0⟩ | ⟨g', cap, cur, hv, hb', hg', hnc, hm, hs, ht⟩
  · omega
  · injection hv with e1 _ e3
    injection e1 with e1
    injection e1 with e1 _ _
    subst e1; subst e3
    refine ⟨h.pl, hb', hg, ?_, ⟨cur, ?_, hs, ?_⟩, by rw [hl]; exact hnc, hm⟩
    · rw [hl, heap_set_same _ (hb.trans h.blk)]; rfl
    · rw [Below.heap_setCell _ _ _ _ (Ne.symm hg)]; exact hg'
    · rw [hl, ht, List.flatMap_append]; simp
end
end Go.Proofs.YtcpanfpijljeaaaGreat
