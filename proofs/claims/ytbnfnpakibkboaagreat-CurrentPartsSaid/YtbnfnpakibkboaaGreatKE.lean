/- Texts RY C7. -/
import Derived.RangeFuncNested
import Derived.Test.YtbnfnpakibkboaaGreatKD
import Derived.OwnWalkIn
import Derived.TacticsInMore
import Derived.LoopNIn
import Derived.LoopIn
import Derived.RangeFuncBound
import Derived.RangeFuncCalls
import Derived.RangeFuncLeaves
import Derived.BigFrameIn
import Derived.Shelf.RegionOpen
namespace Go.Proofs.YtbnfnpakibkboaaGreat
set_option linter.unusedVariables false
open Go Go.RowKit

/-- what an iterator turns between two rounds: a box that it has captured, a block that it has made; it may lay new blocks -/
structure Gi (b2 ib : Nat) (A C : World) : Prop where
  os : C.os = A.os
  tape : C.tape = A.tape
  output : C.output = A.output
  size : A.heap.size ≤ C.heap.size
  block : ∀ k, k < A.heap.size → k ≠ b2 → k ≠ ib → C.heap[k]? = A.heap[k]?
theorem Gi.trans {b2 ib : Nat} {A C D : World} (h : Gi b2 ib A C) (k : Gi b2 ib C D) : Gi b2 ib A D :=
  ⟨k.os.trans h.os, k.tape.trans h.tape, k.output.trans h.output, Nat.le_trans h.size k.size, fun i hi h1 h2 => (k.block i (Nat.lt_of_lt_of_le hi h.size) h1 h2).trans (h.block i hi h1 h2)⟩
theorem Gi.of_below {b2 ib : Nat} {A C : World} (h : Below A.heap.size A C) : Gi b2 ib A C := ⟨h.os, h.tape, h.output, h.size, fun k hk _ _ => h.block k hk⟩
theorem Gi.setCell {b2 ib : Nat} (A : World) (p : Addr) (v : Value) (hp : p.block = b2 ∨ p.block = ib) : Gi b2 ib A (A.setCell p v) :=
  ⟨rfl, rfl, rfl, by simp [World.setCell], fun k _ h1 h2 => Below.heap_setCell _ _ _ _ (fun e => by rcases hp with h | h <;> omega)⟩
theorem Gi.below {B b2 ib : Nat} {a A C : World} (h : Below B a A) (g : Gi b2 ib A C) (hB : B ≤ A.heap.size) (h1 : B ≤ b2) (h2 : B ≤ ib) : Below B a C :=
  h.trans ⟨g.os, g.tape, g.output, g.size, fun k hk => g.block k (by omega) (by omega) (by omega)⟩

/-- An iterator that may write the block b2 (a variable that it has captured); a round may end it early. -/
def SeqY {α : Type} (F : Fence) (n : Nat) (P : Program) (g : Nat) (lb : Array Value) (encs : α → Array Value) (D : α → World → Prop) (Kp : World → World → Prop) (b2 : Nat) (S Sp : List α → Prop) (N H : Nat) (w : World) : Prop :=
  ∀ (l : Nat) (J Jx : List α → World → Prop) (W : World), Below w.heap.size w W → W.heap.size = H → (∀ s A C, J s A → Gi b2 H A C → J s C) → (∀ s A C, Jx s A → Gi b2 H A C → Jx s C) →
    (∀ pre x W1, J pre W1 → D x W1 → pre.length < N → YieldAt F (n - 1) P l (encs x) W1 fun e W' => (e = .returned (.bool true) ∧ J (pre ++ [x]) W' ∧ Kp W1 W') ∨ (e = .returned (.bool false) ∧ Jx (pre ++ [x]) W')) →
    J [] W →
    CallsIn F n P g (#[.func (.yield l) #[] #[]] ++ lb) W fun e W' => (∃ v, e = .returned v) ∧ ((∃ xs, S xs ∧ J xs W') ∨ (∃ pre, Sp pre ∧ Jx pre W'))

section
variable {α : Type} {F : Fence} {n : Nat} {P : Program} {g : Operand} {ps : Array Tmp} {assign body : Code} {Q : Exit → Act → World → Prop} {a : Act} {w : World}
theorem wpIn_rangeY (hro : F.round = none) (h1 : 1 ≤ n) {gf : Nat} {lb : Array Value} (hg : a.eval g = .func (.func gf) #[] lb) (hFg : F.fn gf) (eg : ∀ args w, (callFunc gf args).run P w = .ok (.enter gf args) w)
    {encs : α → Array Value} {D : α → World → Prop} {Kp : World → World → Prop} {b2 : Nat} {S Sp : List α → Prop} {N : Nat} {w0 : World} (hseq : SeqY F (n - 1) P gf lb encs D Kp b2 S Sp N (w.heap.size + 2) w0)
    (hKt : ∀ {A B C : World}, Kp A B → Kp B C → Kp A C)
    (hKb : ∀ (W : World) (l : Nat) (o o' : Obj), w.heap.size ≤ l → W.heap[l]? = some o → o.isCells = false → o.isWalk = false → Kp W (W.putObj l o'))
    (hb0 : Below w0.heap.size w0 w) (hb2 : b2 < w.heap.size ∨ b2 = w.heap.size + 2) (hps : ∀ x, (encs x).size = ps.size)
    (I : List α → World → Prop) (Ix : Code → List α → World → Prop) (hI : OwnFrom w.heap.size I) (hIx : ∀ c, OwnFrom w.heap.size (Ix c)) (hIk : ∀ s A C, I s A → Gi b2 (w.heap.size + 2) A C → I s C) (hIxk : ∀ c s A C, Ix c s A → Gi b2 (w.heap.size + 2) A C → Ix c s C) (h0 : I [] w)
    (B : List α × α × Act → World → Prop) (hB : OwnFrom w.heap.size B)
    (hassign : ∀ (l : Nat) (pre : List α) (x : α) (W : World) (K : Act → World → Prop), I pre W → D x W → pre.length < N → (∀ a1 W1, KeepsOthers W W1 → Kp W W1 → B (pre, x, a1) W1 → K a1 W1) →
      assign.wpIn (F.inRound l) (n - 1 - 1) P (Exit.then K (fun _ _ _ => False)) { tmps := (ps.zip (encs x)).foldl (fun t (p, v) => t.setIfInBounds p v) a.tmps, defers := [] } W)
    (hbody : ∀ (l : Nat) (pre : List α) (x : α) (a1 : Act) (W : World), B (pre, x, a1) W → pre.length < N →
      body.wpIn (F.inRound l) (n - 1 - 1) P (ownPostK Kp I Ix (pre ++ [x]) W) a1 W)
    (hdone : ∀ (d : Nat) (xs : List α) (W : World), d = w.heap.size → S xs → I xs W → W.heap[d]? = some (.deferred (some [])) → Q .normal { a with defers := { target := .collected d, args := #[] } :: a.defers } W)
    (hstop : ∀ (d : Nat) (c : Code) (pre : List α) (W : World), d = w.heap.size → Sp pre → Ix c pre W → W.heap[d]? = some (.deferred (some [])) → c.wpIn F n P Q { a with defers := { target := .collected d, args := #[] } :: a.defers } W) :
    (Code.rangeFunc g ps assign body).wpIn F n P Q a w := by
  refine wpIn_rangeFunc fun fn hfn => ?_
  rw [hro]
  obtain ⟨L, hL⟩ : ∃ L : LoopState → Option Code → Loop, L = fun st pe => { state := st, pending := pe, fn := fn, tmps := a.tmps, params := ps, assign := assign, body := body, defers := w.heap.size } := ⟨_, rfl⟩
  obtain ⟨V, hV⟩ : ∃ V, (w.alloc (.deferred (some []))).alloc (.loop (L .ready none)) = V := ⟨_, rfl⟩
  obtain ⟨q, hq⟩ : ∃ q, w.heap.size + 1 = q := ⟨_, rfl⟩
  have hVl : V.heap[q]? = some (.loop (L .ready none)) := by
    rw [← hV, ← hq]; have := World.alloc_heap_new (w.alloc (.deferred (some []))) (.loop (L .ready none)); rwa [World.size_alloc] at this
  have hVd : V.heap[w.heap.size]? = some (.deferred (some [])) := by
    rw [← hV]; exact (Below.heap_alloc _ _ _ (by simp)).trans (World.alloc_heap_new w _)
  have hVI : I [] V := by rw [← hV]; exact hI.alloc _ (hI.alloc _ h0)
  have hVb : Below w0.heap.size w0 V := by
    rw [← hV]; exact hb0.trans ((((Below.refl _ w).alloc (Nat.le_refl _) _).alloc (by simp) _).mono hb0.size)
  have hne : w.heap.size ≠ q := by omega
  have hqw : w.heap.size ≤ q := by omega
  have hVz : V.heap.size = w.heap.size + 2 := by rw [← hV]; simp
  have hkeep : ∀ {A C : World} {k : Nat} {o : Obj}, A.heap[k]? = some o → w.heap.size ≤ k → k < w.heap.size + 2 → Gi b2 (w.heap.size + 2) A C → C.heap[k]? = some o := fun {A C k o} h hk hk2 hg =>
    (hg.block k (Array.getElem?_eq_some_iff.1 h).1 (by omega) (by omega)).trans h
  refine ⟨q, [{ target := .collected w.heap.size, args := #[] }], V, { target := .fn (.func gf) lb, args := #[.func (.yield q) #[] #[]] }, V, gf, #[.func (.yield q) #[] #[]] ++ lb, V, ?_, ?_, ?_, ?_, fun _ => h1, ?_⟩
  · rw [← hV, hL, ← hq]; exact run_enterLoop_outer _ _ _ _ _
  · simp only [resolve, hg]; simp [go_sem]
  · intro f' hf'; simp [Target.leads] at hf'; subst hf'; exact hFg
  · simp [invoke, go_sem, eg]
  · refine (hseq q (fun pre W => I pre W ∧ W.heap[q]? = some (.loop (L .ready none)) ∧ W.heap[w.heap.size]? = some (.deferred (some [])))
      (fun pre W => ∃ c, Ix c pre W ∧ W.heap[q]? = some (.loop (L .done (some c))) ∧ W.heap[w.heap.size]? = some (.deferred (some []))) V hVb hVz ?_ ?_ ?_ ⟨hVI, hVl, hVd⟩).mono ?_
    · rintro pre A C ⟨hi, hl, hd⟩ hgr
      exact ⟨hIk _ _ _ hi hgr, hkeep hl hqw (by omega) hgr, hkeep hd (Nat.le_refl _) (by omega) hgr⟩
    · rintro pre A C ⟨c, hi, hl, hd⟩ hgr
      exact ⟨c, hIxk _ _ _ _ hi hgr, hkeep hl hqw (by omega) hgr, hkeep hd (Nat.le_refl _) (by omega) hgr⟩
    · rintro pre x W ⟨hi, hl, hd⟩ hdx hlen
      refine ⟨fn, _, assign, body, by have := run_yield (P := P) (args := encs x) hl (by rw [hL]; exact hps x); rw [hL] at this; exact this, roundIn_of_wpIn hfn (hassign q pre x W _ hi hdx hlen fun a1 W1 hk1 hp1 hb1 => ?_)⟩
      have hl1 := hk1.same _ _ hl rfl
      have hd1 := hk1.same _ _ hd rfl
      have hq1 : q < W1.heap.size := (Array.getElem?_eq_some_iff.1 hl1).1
      refine ⟨_, run_beginRound hl1 (by rw [hL]), ?_⟩
      have hl2 : (W1.putObj q (.loop { L .ready none with state := .busy })).heap[q]? = some (.loop { L .ready none with state := .busy }) := World.putObj_heap_same hq1
      have hd2 : (W1.putObj q (.loop { L .ready none with state := .busy })).heap[w.heap.size]? = some (.deferred (some [])) := (World.putObj_heap_other hne).trans hd1
      have hp2 : Kp W (W1.putObj q (.loop { L .ready none with state := .busy })) := hKt hp1 (hKb _ _ _ _ (by omega) hl1 rfl rfl)
      refine wpIn_mono (hbody q pre x a1 _ (hB.putObj _ hb1 hqw hl1 rfl) hlen) ?_
      have fin : ∀ (jump : Option Code) (W3 : World), KeepsOthers (W1.putObj q (.loop { L .ready none with state := .busy })) W3 →
          (Instr.endRound q jump).run P W3 = .ok (.bool jump.isNone) (W3.putObj q (.loop (L (if jump.isNone then .ready else .done) jump))) ∧
          W3.heap[q]? = some (.loop { L .ready none with state := .busy }) ∧
          (W3.putObj q (.loop (L (if jump.isNone then .ready else .done) jump))).heap[q]? = some (.loop (L (if jump.isNone then .ready else .done) jump)) ∧
          (W3.putObj q (.loop (L (if jump.isNone then .ready else .done) jump))).heap[w.heap.size]? = some (.deferred (some [])) := fun jump W3 hk3 => by
        have hl3 := hk3.same _ _ hl2 rfl
        have hend := run_endRound (P := P) jump hl3
        rw [hL] at hend ⊢
        exact ⟨hend, by rw [hL] at hl3; exact hl3, World.putObj_heap_same (Array.getElem?_eq_some_iff.1 hl3).1, (World.putObj_heap_other hne).trans (hk3.same _ _ hd2 rfl)⟩
      rintro e a3 W3 hp
      cases e with
      | normal =>
        obtain ⟨hk3, hp3, hi3⟩ := hp
        obtain ⟨hr, hl3, hl4, hd4⟩ := fin none W3 hk3
        exact ⟨_, _, hr, .inl ⟨rfl, ⟨hI.putObj _ hi3 hqw hl3 rfl, hl4, hd4⟩, hKt (hKt hp2 hp3) (hKb _ _ _ _ hqw hl3 rfl rfl)⟩⟩
      | ret =>
        obtain ⟨hk3, hi3⟩ := hp
        obtain ⟨hr, hl3, hl4, hd4⟩ := fin (some .ret) W3 hk3
        exact ⟨_, _, hr, .inr ⟨rfl, .ret, (hIx _).putObj _ hi3 hqw hl3 rfl, hl4, hd4⟩⟩
      | exit id =>
        obtain ⟨hk3, hi3⟩ := hp
        obtain ⟨hr, hl3, hl4, hd4⟩ := fin (some (.exit id)) W3 hk3
        exact ⟨_, _, hr, .inr ⟨rfl, .exit id, (hIx _).putObj _ hi3 hqw hl3 rfl, hl4, hd4⟩⟩
      | goto t =>
        obtain ⟨hk3, hi3⟩ := hp
        obtain ⟨hr, hl3, hl4, hd4⟩ := fin (some (.goto t)) W3 hk3
        exact ⟨_, _, hr, .inr ⟨rfl, .goto t, (hIx _).putObj _ hi3 hqw hl3 rfl, hl4, hd4⟩⟩
      | panic ch => exact hp.elim
      | outgrown => exact hp.elim
    · rintro e W2 ⟨⟨v, rfl⟩, (⟨xs, hS, hi, hl, hd⟩ | ⟨pre, hSp, c, hi, hl, hd⟩)⟩
      · exact ⟨none, _, by have := run_endLoop (P := P) hl (by rw [hL]; simp); rw [hL] at this; exact this, hdone _ xs _ rfl hS (hI.putObj _ hi hqw hl rfl) ((World.putObj_heap_other hne).trans hd)⟩
      · exact ⟨some c, _, by have := run_endLoop (P := P) hl (by rw [hL]; simp); rw [hL] at this; exact this, hstop _ c pre _ rfl hSp ((hIx c).putObj _ hi hqw hl rfl) ((World.putObj_heap_other hne).trans hd)⟩
end
/-- the cells below a bound, and at it, stay, but for one block's -/
structure KU (H L : Nat) (W W' : World) : Prop where
  size : W.heap.size ≤ W'.heap.size
  same : ∀ (k : Nat) (c : Array Value) (t : TypeId) (f : Nat × Nat), k ≤ H → k ≠ L → W.heap[k]? = some (.cells c t f) → W'.heap[k]? = some (.cells c t f)
section
variable {H L : Nat} {A C D W W' : World}
theorem KU.refl (W : World) : KU H L W W := ⟨Nat.le_refl _, fun _ _ _ _ _ _ h => h⟩
theorem KU.trans (h : KU H L A C) (k : KU H L C D) : KU H L A D := ⟨Nat.le_trans h.size k.size, fun j c t f hj hn hk => k.same j c t f hj hn (h.same j c t f hj hn hk)⟩
theorem KU.of_below (hb : Below W.heap.size W W') : KU H L W W' := ⟨hb.size, fun k c t f _ _ hk => (hb.block k (Array.getElem?_eq_some_iff.1 hk).1).trans hk⟩
theorem KU.grown {row : Option Nat} (hg : W.grownBy W' row) (hr : ∀ j, row = some j → H < j) : KU H L W W' := ⟨hg.size, fun k c t f hj _ hk => (hg.block k (Array.getElem?_eq_some_iff.1 hk).1 (fun e => by have := hr k e.symm; omega)).trans hk⟩
theorem KU.setCell (W : World) (p : Addr) (v : Value) (hp : H < p.block ∨ p.block = L) : KU H L W (W.setCell p v) :=
  ⟨by simp [World.setCell], fun k c t f hj hn hk => (Below.heap_setCell _ _ _ _ (by omega)).trans hk⟩
theorem KU.alloc (W : World) (o : Obj) : KU H L W (W.alloc o) := ⟨by simp, fun k c t f _ _ hk => (Below.heap_alloc _ _ _ (Array.getElem?_eq_some_iff.1 hk).1).trans hk⟩
theorem KU.put {w : World} (W : World) (l : Nat) (o o' : Obj) (hl : w.heap.size ≤ l) (h : W.heap[l]? = some o) (hc : o.isCells = false) (_ : o.isWalk = false) : KU H L W (W.putObj l o') := by
  refine ⟨by simp, fun k c t f _ _ hk => ?_⟩
  by_cases e : k = l
  · subst e; rw [h] at hk; cases hk; simp [Obj.isCells] at hc
  · exact (World.putObj_heap_other e).trans hk
theorem KU.row {g : Nat} {t : TypeId} {cs : Array Value} (k : KU H L W W') (h : W.heap[g]? = some (.cells cs t (0, 0))) (hn : g ≤ H) (hl : g ≠ L) : W'.heap[g]? = some (.cells cs t (0, 0)) := k.same _ _ _ _ hn hl h
theorem KU.cell (k : KU H L W W') {q : Addr} {v : Value} (hq : W.cell? q = some v) (hn : q.block ≤ H) (hl : q.block ≠ L) : W'.cell? q = some v := by
  unfold World.cell? at hq
  cases hb : W.heap[q.block]? with
  | none => rw [hb] at hq; simp at hq
  | some o =>
    cases o with
    | cells c t f =>
      rw [← hq]; unfold World.cell?
      rw [k.same _ _ _ _ hn hl hb, hb]
    | _ => rw [hb] at hq; simp at hq
end
end Go.Proofs.YtbnfnpakibkboaaGreat

namespace Go.Proofs.YtbnfnpakibkboaaGreat
set_option linter.unusedVariables false
set_option linter.unusedSimpArgs false
open Go.RowKit Go.Shelf Go.Lib Go.BigFrame
attribute [local go_sem] Oper.semAt_some

def partsTo (ps : List (Nat × Nat)) (N k : Nat) : List (List Nat) := ((List.range k).filter (fun i => labs ps N i == i)).map (partL ps N)
theorem partsTo_all (ps : List (Nat × Nat)) (N : Nat) : partsTo ps N N = partsL ps N := rfl
theorem partsTo_skip {ps : List (Nat × Nat)} {N k : Nat} (h : labs ps N k < k) : partsTo ps N (k + 1) = partsTo ps N k := by
  unfold partsTo
  rw [List.range_succ, List.filter_append]
  have : (labs ps N k == k) = false := by simp; omega
  simp [this]
theorem partsTo_next {ps : List (Nat × Nat)} {N k : Nat} (h : labs ps N k = k) : partsTo ps N (k + 1) = partsTo ps N k ++ [partL ps N k] := by
  unfold partsTo
  rw [List.range_succ, List.filter_append]
  have : (labs ps N k == k) = true := by simpa using h
  simp [this]
theorem partsTo_rest (ps : List (Nat × Nat)) (N k : Nat) (h : k ≤ N) : ∃ s, partsTo ps N k ++ s = partsL ps N := by
  refine ⟨((List.range' k (N - k)).filter (fun i => labs ps N i == i)).map (partL ps N), ?_⟩
  unfold partsTo partsL
  rw [← List.map_append, ← List.filter_append]
  congr 2
  have : N = k + (N - k) := by omega
  conv => rhs; rw [this, List.range_eq_range', ← List.range'_append_1]
  rw [List.range_eq_range']; simp
theorem partL_is {ps : List (Nat × Nat)} {N k : Nat} (h : labs ps N k = k) : compL ps N k = partL ps N k := by unfold compL partL; rw [h]
/-- what the iterator reads: a grid and its wires' states, in boxes -/
structure PAt (w : World) (B L S b1 b2 : Nat) (Aw : Option Addr) (nw cw : Nat) (Af : Option Addr) (nf cf : Nat) (At : Option Addr) (ct N : Nat) (g : Gv) (on : List Bool) : Prop where
  q1 : Rw w b1 25 #[.int .i64 (N : Int), .slice Aw nw cw, .slice Af nf cf, .int .i64 g.least]
  q2 : Rw w b2 26 #[.slice At nw ct]
  g : GAt w B Aw nw Af nf g
  o : Sl w B 1 CB At on
  l0 : B ≤ L
  l1 : L < b1 ∧ b1 < S
  l2 : L < b2 ∧ b2 < S
theorem Sl.cells {α : Type} {w w' : World} {B size : Nat} {C : α → List Value → Prop} {A : Option Addr} {l : List α} (h : Sl w B size C A l) (hk : ∀ (q : Addr) (v : Value), q.block < B → w.cell? q = some v → w'.cell? q = some v) : Sl w' B size C A l := by
  intro hl
  obtain ⟨b, off, e, hb, hc⟩ := h hl
  refine ⟨b, off, e, hb, fun i x hx => ?_⟩
  obtain ⟨cs, h1, h2⟩ := hc i x hx
  exact ⟨cs, h1, fun j u hu => hk _ _ hb (h2 j u hu)⟩
theorem GAt.cells {w w' : World} {B : Nat} {Aw Af : Option Addr} {nw nf : Nat} {g : Gv} (h : GAt w B Aw nw Af nf g) (hk : ∀ (q : Addr) (v : Value), q.block < B → w.cell? q = some v → w'.cell? q = some v) : GAt w' B Aw nw Af nf g :=
  ⟨h.wl, h.ws.cells hk, h.wm, h.fl, h.fs.cells hk, h.fm⟩
section
variable {w w' : World} {B b1 b2 H L S : Nat} {Aw Af At : Option Addr} {nw cw nf cf ct N : Nat} {g : Gv} {on : List Bool}
theorem PAt.below (h : PAt w B L S b1 b2 Aw nw cw Af nf cf At ct N g on) (hb : Below S w w') : PAt w' B L S b1 b2 Aw nw cw Af nf cf At ct N g on :=
  ⟨h.q1.below hb h.l1.2, h.q2.below hb h.l2.2, h.g.below (hb.mono (by have := h.l0; have := h.l1; omega)), h.o.below (hb.mono (by have := h.l0; have := h.l1; omega)), h.l0, h.l1, h.l2⟩
theorem PAt.ku (h : PAt w B L S b1 b2 Aw nw cw Af nf cf At ct N g on) (k : KU H L w w') (hS : S ≤ H) : PAt w' B L S b1 b2 Aw nw cw Af nf cf At ct N g on :=
  ⟨k.row h.q1 (by have := h.l1; omega) (by have := h.l1; omega), k.row h.q2 (by have := h.l2; omega) (by have := h.l2; omega), h.g.cells (fun q v hq hc => k.cell hc (by have := h.l0; have := h.l1; omega) (by have := h.l0; omega)), h.o.cells (fun q v hq hc => k.cell hc (by have := h.l0; have := h.l1; omega) (by have := h.l0; omega)), h.l0, h.l1, h.l2⟩
end
set_option maxRecDepth 100000 in
set_option maxHeartbeats 4000000 in
theorem parts_seq (d : Nat) (hd : 3 ≤ d) (B L b1 b2 : Nat) (Aw : Option Addr) (nw cw : Nat) (Af : Option Addr) (nf cf : Nat) (At : Option Addr) (ct N : Nat) (g : Gv) (on : List Bool) (H : Nat) (w : World)
    (hN1 : 1 ≤ N) (hN2 : N ≤ 40) (hWB : wiresB N g.wires = true) (hol : on.length = nw) (hP : PAt w B L w.heap.size b1 b2 Aw nw cw Af nf cf At ct N g on) :
    SeqY Fence.wide d Tryz.prog 73 #[.pointer (some ⟨b1, 0, none⟩), .pointer (some ⟨b2, 0, none⟩)] (fun x : Value × List Nat => #[x.1]) (fun x W => H < W.heap.size ∧ ∃ base, H < base ∧ Own W base 3 1 fI x.1 (x.2.map fun z : Nat => (z : Int))) (KU H L) H
      (fun xs => xs.map (·.2) = partsL (onP g.wires on) N) (fun pre => pre ≠ [] ∧ ∃ s, pre.map (·.2) ++ s = partsL (onP g.wires on) N) 41 H w := by
  intro l J Jx W hW hH hJ hJx hY h0
  dsimp only at hY
  have hPW := hP.below hW
  clear hP
  obtain ⟨i0, hi0, hz0, hz1, hz2⟩ := info_parts info4
  have hmk := fun W : World => run_mk (P := Tryz.prog) 26 4 i0 _ 1 Tryz.underlying26 hi0 hz0 hz1 (N : Int) (N : Int) N N rfl rfl (by omega) (by rw [hz2]; omega) (by omega) W
  have hR := Rf.made1 W (.bool false) N 4
  have hbi := (Below.refl W.heap.size W).alloc (Nat.le_refl _) (.cells (madeCells #[.bool false] N) 4)
  have hBH : w.heap.size ≤ H := by rw [← hH]; exact hW.size
  have hBB : B ≤ H := by have := hPW.l0; have := hPW.l1; omega
  have hP1 := hPW.below (hbi.mono (by omega))
  have hJ1 := hJ _ _ _ h0 (Gi.of_below hbi)
  have e0 := hPW.q1.cell 0
  have hsz1 : (W.alloc (.cells (madeCells #[.bool false] N) 4)).heap.size = H + 1 := by simp [hH]
  rw [hH] at hR
  refine callsIn_of_wp Tryz.func73 rfl trivial ?_ rfl
  simp only [Tryz.ntmps73, List.size_toArray, List.length_cons, List.length_nil, Nat.reduceAdd, Nat.reduceSub, Array.replicate_succ, Array.replicate_zero, List.push_toArray, List.append_toArray, List.nil_append, List.cons_append]
  have e0' := hP1.q1.cell 0
  gi_wp2
  clear e0 e0' hmk
  obtain ⟨ps, hps⟩ : ∃ p, onP g.wires on = p := ⟨_, rfl⟩
  obtain ⟨W1, hW1⟩ : ∃ z, W.alloc (.cells (madeCells #[.bool false] N) 4) = z := ⟨_, rfl⟩
  rw [hW1] at hR hbi hP1 hJ1 hsz1 ⊢
  have HLT := Lib.hid (show ∀ p ∈ ps, p.1 < N ∧ p.2 < N from by rw [← hps]; exact onP_lt hWB on)
  have HPS := Lib.hid hps; have HBH := Lib.hid hBH; have HBB := Lib.hid hBB; have HWB := Lib.hid hWB; have HOL := Lib.hid hol
  have HJ1 := Lib.hid hJ1; have HR1 := Lib.hid (show Rf W1 H 4 N (fun j => .bool (decide (labs ps N j < 0))) from hR.congr (fun k _ => by simp)); have HP1 := Lib.hid hP1
  clear hW1 hPW h0 hbi hR hps hP1 hJ1
  gi_loopw [11] (fun s11 wr => ∃ (k : Nat) (xs : List (Value × List Nat)), k ≤ N ∧ s11 = .int .i64 (k : Int) ∧ J xs wr ∧ xs.length ≤ k ∧ xs.map (·.2) = partsTo ps N k ∧ Rf wr H 4 N (fun j => .bool (decide (labs ps N j < k))) ∧ PAt wr B L w.heap.size b1 b2 Aw nw cw Af nf cf At ct N g on) (fun s11 _ => N - (intOf s11).toNat)
  case atStart => exact ⟨0, [], Nat.zero_le _, rfl, HJ1.out, Nat.le_refl _, rfl, HR1.out, HP1.out⟩
  case round =>
    obtain ⟨k, xs, hk, rfl, hJr, hxl, hxp, hrf, hpr⟩ := hrel
    have HXP := Lib.hid hxp; have HRF := Lib.hid hrf; have HPR := Lib.hid hpr; have HXL := Lib.hid hxl; have HJR := Lib.hid hJr
    by_cases hkn : k < N
    · have hkI : (k : Int) < (N : Int) := by omega
      have hk0 : (0 : Int) ≤ (k : Int) := by omega
      have ck := hrf.cell hkn
      have hk40 : (k : Int) ≤ 40 := by omega
      have e0 := hpr.q1.cell 0; have e1 := hpr.q1.cell 1; have e2 := hpr.q1.cell 2; have e3 := hpr.q1.cell 3; have f0 := hpr.q2.cell 0
      have HK := Lib.hid hkn
      clear hxp hrf hpr hxl hJr hkn
      by_cases hlk : labs ps N k < k
      · rw [decide_eq_true hlk] at ck
        have HNX := Lib.hid (show xs.map (·.2) = partsTo ps N (k + 1) from by rw [partsTo_skip hlk]; exact HXP.out)
        have HRN := Lib.hid (HRF.out.congr (f' := fun j => .bool (decide (labs ps N j < k + 1))) (fun j _ => by
          have : labs ps N j ≠ k := by
            intro e
            have h1 := (labs_iff HLT.out j k).1
            have h2 : Cn ps j k := by have := labs_cn ps N j; rwa [e] at this
            have := labs_eq HLT.out h2
            omega
          congr 1; by_cases q : labs ps N j < k
          · rw [decide_eq_true q, decide_eq_true (by omega)]
          · rw [decide_eq_false q, decide_eq_false (by omega)]))
        clear hlk
        gi_wp2
        refine ⟨trivial, ?_⟩
        gi_wp2
        refine ⟨(fun f h => by cases h), ?_⟩
        gi_wp2
        refine ⟨⟨k + 1, xs, by have := HK.out; omega, rfl, HJR.out, by have := HXL.out; omega, HNX.out, HRN.out, HPR.out⟩, ?_⟩
        have := HK.out; simp [intOf]; omega
      · have hlk2 : labs ps N k = k := by have := labs_le ps N k; omega
        rw [decide_eq_false hlk] at ck
        have HLK := Lib.hid hlk2
        have HGA := Lib.hid (show ∃ v, True ∧ v = 1 from ⟨1, trivial, rfl⟩)
        have hga := gather_any Aw Af At nw nf cw cf ct N k H g on (fun j => decide (labs ps N j < k)) wr hN2 HWB.out HK.out (HPR.out.g.more HBB.out) HOL.out (HPR.out.o.more (fun _ _ h => h) HBB.out) HRF.out (fun j hj hs => by
          rw [HPS.out]
          intro hc
          have := labs_eq HLT.out hc
          simp at hs; omega)
        rw [HPS.out, partL_is HLK.out] at hga
        have HGC := Lib.hid hga
        have HHS := Lib.hid (HRF.out.lt)
        clear hlk hlk2 hga HGA
        gi_wp2
        refine ⟨trivial, (fun h => by cases h), CallsIn.mono (callsIn_wide.2 HGC.out) ?_⟩
        rintro e W5 ⟨v, rfl, hov, hr5, hg5⟩
        have hJ5 := hJ _ _ _ HJR.out (show Gi H H wr W5 from ⟨hg5.os, hg5.tape, hg5.output, hg5.size, fun j hj h1 _ => hg5.block j hj (by intro e; cases e; exact h1 rfl)⟩)
        have hP5 := HPR.out.below ((hg5.toBelow (by have := HHS.out; omega)).mono HBH.out)
        obtain ⟨fn, tmps, assign, body, hyv, hRd⟩ := hY xs (v, partL ps N k) W5 hJ5 ⟨by have := HHS.out; have := hg5.size; omega, _, by have := HHS.out; omega, hov⟩ (by have := HXL.out; omega)
        replace hyv : (Instr.yield l #[v]).run Tryz.prog W5 = .ok (.round l fn tmps assign body) W5 := hyv
        have HRD := Lib.hid hRd; have HP5 := Lib.hid hP5; have HR5 := Lib.hid hr5
        clear hov hg5 hJ5 hRd hP5 hr5 e0 e1 e2 e3 f0 ck
        gi_wp2
        refine ⟨(fun h => by cases h), HRD.out.mono ?_⟩
        rintro e W6 (⟨rfl, hJ6, hk6⟩ | ⟨rfl, hJ6⟩)
        · have hR6 := hk6.same _ _ _ _ (Nat.le_refl _) (by have := HPR.out.l1; have := HBH.out; omega) HR5.out
          have hP6 := HP5.out.ku hk6 HBH.out
          have HNX := Lib.hid (show (xs ++ [(v, partL ps N k)]).map (·.2) = partsTo ps N (k + 1) from by rw [partsTo_next HLK.out, List.map_append, HXP.out]; rfl)
          have HRN := Lib.hid (show Rf W6 H 4 N (fun j => .bool (decide (labs ps N j < k + 1))) from Rf.congr hR6 (fun j _ => by
            rw [HLK.out]
            congr 1
            by_cases q : labs ps N j < k
            · rw [decide_eq_true q, decide_eq_true (by omega)]; rfl
            · rw [decide_eq_false q, Bool.false_or]
              by_cases e : labs ps N j = k
              · rw [decide_eq_true (by omega)]; simpa using e
              · rw [decide_eq_false (by omega)]; simpa using e))
          have HP6 := Lib.hid hP6; have HJ6 := Lib.hid hJ6
          clear hR6 hP6 hk6 hJ6
          gi_wp2
          refine ⟨⟨k + 1, xs ++ [(v, partL ps N k)], by have := HK.out; omega, rfl, HJ6.out, by have := HXL.out; simp; omega, HNX.out, HRN.out, HP6.out⟩, ?_⟩
          have := HK.out; simp [intOf]; omega
        · gi_wp2
          (try simp only [Exit.inBlock, Exit.then])
          refine bodyPost_ret (results_none rfl _ _ _) rfl ?_
          refine ⟨⟨_, rfl⟩, .inr ⟨xs ++ [(v, partL ps N k)], ⟨by simp, ?_⟩, hJ6⟩⟩
          rw [HPS.out]
          obtain ⟨s, hs⟩ := partsTo_rest ps N (k + 1) (by have := HK.out; omega)
          refine ⟨s, ?_⟩
          rw [← hs, partsTo_next HLK.out, List.map_append, HXP.out]; rfl
    · have hkI : ¬ (k : Int) < (N : Int) := by omega
      have hke : k = N := by omega
      subst hke
      clear hxp hrf hpr hxl hJr
      gi_wp2
      go_end0
      refine ⟨⟨_, rfl⟩, .inl ⟨xs, ?_, HJR.out⟩⟩
      rw [HPS.out, HXP.out, partsTo_all]
end Go.Proofs.YtbnfnpakibkboaaGreat
