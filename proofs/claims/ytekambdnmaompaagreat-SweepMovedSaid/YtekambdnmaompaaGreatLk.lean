/- Words for link's loop: the marks that its rounds leave, what stands between two rounds. -/
import Derived.Test.YtekambdnmaompaaGreatF1
namespace Go.Proofs.YtekambdnmaompaaGreat
set_option linter.unusedVariables false
set_option linter.unusedSimpArgs false
open Go.RowKit Go.Shelf
attribute [local go_sem] Oper.semAt_some
theorem info115 : (Tryz.prog.info? 115).map (fun i => (i.zero, i.size, i.bytes)) = some (some (.slice none 0 0), 1, 24) := by kernel_rfl

def nextL (p : Pl) (x : Nat) : List Int := (leaveL p x).mergeSort fun x y => decide (x ≤ y)
/-- the moves below k that y follows -/
def befL (p : Pl) (k y : Nat) : List Int := (List.range k).flatMap fun x => ((leaveL p x).filter fun z => z == (y : Int)).map fun _ => (x : Int)

theorem VRow.made (W : World) (m : Nat) : VRow (W.alloc (.cells (madeCells #[.slice none 0 0] m) 115)) W.heap.size (List.replicate m (.slice none 0 0)) := by
  unfold VRow
  rw [heap_alloc_new]
  congr 2
  apply Array.ext
  · simp [madeCells]
  · intro i h1 h2
    simp [madeCells, Nat.mod_one]
theorem VRow.below {W W' : World} {b B : Nat} {vs : List Value} (h : VRow W b vs) (hb : Below B W W') (hB : b < B) : VRow W' b vs := (hb.block b hB).trans h
theorem cell_made (W : World) (v : Value) (t : TypeId) : (W.alloc (.cells #[v] t)).cell? ⟨W.heap.size, 0, none⟩ = some v := by
  rw [cell_of_row _ _ 0 _ t (0, 0) (heap_alloc_new W _)]; rfl
theorem IRow.drew {W : World} {b : Nat} {l : List Int} (h : IRow W b l) : IRow W.drew b l := h
theorem VRow.drew {W : World} {b : Nat} {l : List Value} (h : VRow W b l) : VRow W.drew b l := h
theorem Rws.low {nb bb base M : Nat} {vs us : List Value} {f h : Nat → List Int} {W : World} (R : Rws nb bb base M vs us f h W) {k : Nat} (h1 : k < base) (h2 : k ≠ nb) (h3 : k ≠ bb) : ¬ Tch nb bb W k := fun t => by
  rcases R.tch t with e | e | ⟨i, v, hv, e⟩ | ⟨i, v, hv, e⟩
  · exact h2 e
  · exact h3 e
  · have := ((R.fo i v hv).lt k e).1; omega
  · have := ((R.ho i v hv).lt k e).1; omega

/-- marks of rounds in which nothing was deferred -/
def Mk (B : Nat) (ds : List Deferred) (W : World) : Prop :=
  ∃ Ds : List Nat, ds = Ds.map (fun D => { target := .collected D, args := #[] }) ∧ Ds.Nodup ∧ ∀ D ∈ Ds, B ≤ D ∧ W.heap[D]? = some (.deferred (some []))
theorem Mk.nil (B : Nat) (W : World) : Mk B [] W := ⟨[], rfl, List.nodup_nil, fun _ h => by cases h⟩
theorem Mk.lt {B : Nat} {Ds : List Nat} {W : World} (h : ∀ D ∈ Ds, B ≤ D ∧ W.heap[D]? = some (.deferred (some []))) : ∀ D ∈ Ds, D < W.heap.size := fun D hD => (Array.getElem?_eq_some_iff.1 (h D hD).2).1
theorem Mk.keep {B : Nat} {ds : List Deferred} {W W' : World} (h : Mk B ds W) (hk : ∀ D : Nat, W.heap[D]? = some (.deferred (some [])) → W'.heap[D]? = some (.deferred (some []))) : Mk B ds W' := by
  obtain ⟨Ds, e, hn, h⟩ := h
  exact ⟨Ds, e, hn, fun D hD => ⟨(h D hD).1, hk D (h D hD).2⟩⟩
theorem Mk.more {B D : Nat} {ds : List Deferred} {W W' : World} (h : Mk B ds W) (hk : ∀ D : Nat, W.heap[D]? = some (.deferred (some [])) → W'.heap[D]? = some (.deferred (some []))) (hD : W.heap.size ≤ D) (hB : B ≤ D) (hd : W'.heap[D]? = some (.deferred (some []))) :
    Mk B ({ target := .collected D, args := #[] } :: ds) W' := by
  obtain ⟨Ds, rfl, hn, h⟩ := h
  refine ⟨D :: Ds, rfl, List.nodup_cons.2 ⟨fun hm => ?_, hn⟩, fun E hE => ?_⟩
  · have := Mk.lt h D hm; omega
  · rcases List.mem_cons.1 hE with rfl | hE
    · exact ⟨hB, hd⟩
    · exact ⟨(h E hE).1, hk E (h E hE).2⟩
/-- what stands between two rounds of link's outer loop -/
structure LK (nb bb B M : Nat) (p : Pl) (W2 : World) (k : Nat) (W : World) : Prop where
  be : Below B W2 W
  kt : KT nb bb W2 W
  rw : ∃ vs us, Rws nb bb (B + 3) M vs us (fun j => if j < k then nextL p j else []) (befL p k) W
theorem LK.start {B M : Nat} {p : Pl} {W2 : World} (hv : VRow W2 (B + 1) (List.replicate M (.slice none 0 0))) (hu : VRow W2 (B + 2) (List.replicate M (.slice none 0 0))) (hz : W2.heap.size = B + 3) :
    LK (B + 1) (B + 2) B M p W2 0 W2 := by
  refine ⟨Below.refl _ _, KT.of_below (Below.refl W2.heap.size W2) (Nat.le_refl _) (by omega) (by omega), _, _, hv, hu, by simp, by simp, ?_, ?_, ?_, ?_, ?_, by omega, by omega, by omega⟩
  · intro j v h
    obtain ⟨_, rfl⟩ := List.getElem?_replicate.symm.trans h |> fun e => by simpa [List.getElem?_replicate] using h
    simpa using Own.nil W2 (B + 3) 3 1 fI
  · intro j v h
    obtain ⟨_, rfl⟩ := by simpa [List.getElem?_replicate] using h
    simpa [befL] using Own.nil W2 (B + 3) 3 1 fI
  all_goals
    intro i j v u k h1 h2
    have h1' : v = .slice none 0 0 := by have := h1; simp [List.getElem?_replicate] at this; exact this.2.symm
    subst h1'
    intros
    simp_all [Value.ownBlock]

/-- what link's rounds read, apart from the two rows -/
structure Hd (nb bb B g sb : Nat) (A : Option Addr) (c : Nat) (A2 : Option Addr) (c2 : Nat) (p : Pl) (Lv Nv Bv : Value) (W : World) : Prop where
  x : W.cell? ⟨B, 0, none⟩ = some (.pointer (some ⟨g, 0, none⟩))
  net : Net W g A c A2 c2 p Lv (.slice (some ⟨sb, 0, none⟩) (2 * p.rails.length) (2 * p.rails.length)) Nv Bv
  row : IRow W sb (slotsOf p)
  lo : ∀ j, j ≤ B → ¬ Tch nb bb W j
  gl : g < B
  sl : sb < B
  bd : ∀ k, Tch nb bb W k → k < W.heap.size
section
variable {nb bb B g sb : Nat} {A A2 : Option Addr} {c c2 : Nat} {p : Pl} {Lv Nv Bv : Value} {W W' : World}
theorem Hd.keep (h : Hd nb bb B g sb A c A2 c2 p Lv Nv Bv W) (k : KT nb bb W W') : Hd nb bb B g sb A c A2 c2 p Lv Nv Bv W' where
  x := k.cell h.x (h.lo B (Nat.le_refl _))
  net := ⟨k.same g _ _ _ h.net.blk (h.lo g (Nat.le_of_lt h.gl)), h.net.pl.keepS fun q v hq hv => k.cell hv (h.lo _ (by have := h.gl; omega))⟩
  row := k.same sb _ _ _ h.row (h.lo sb (Nat.le_of_lt h.sl))
  lo := fun j hj => k.keepsN (by have := World.block_lt_of_cell? W _ h.x; simp at this; omega) (h.lo j hj)
  gl := h.gl
  sl := h.sl
  bd := k.bd h.bd
/-- leaving's two boxes -/
theorem Hd.lv (h : Hd nb bb B g sb A c A2 c2 p Lv Nv Bv W) {b1 b2 m : Nat} (x1 : W.cell? ⟨b1, 0, none⟩ = some (.pointer (some ⟨g, 0, none⟩))) (x2 : W.cell? ⟨b2, 0, none⟩ = some (.int .i64 (m : Int))) (n1 : ¬ Tch nb bb W b1) (n2 : ¬ Tch nb bb W b2) :
    LvAt nb bb b1 b2 g sb A c A2 c2 p Lv Nv Bv m W :=
  ⟨x1, x2, h.net, h.row, n1, n2, h.lo sb (Nat.le_of_lt h.sl), fun k hk => h.lo k (by have := h.gl; omega), h.bd⟩
end
/-- what stands while the moves that follow k come, pre of them having come -/
structure LI (nb bb B M : Nat) (p : Pl) (W2 : World) (k : Nat) (w3 : World) (pre : List Int) (W : World) : Prop where
  be : Below B W2 W
  kt : KT nb bb W2 W
  k3 : KT nb bb w3 W
  dm : ∀ D : Nat, w3.heap[D]? = some (.deferred (some [])) → W.heap[D]? = some (.deferred (some []))
  rw : ∃ vs us, Rws nb bb (B + 3) M vs us (fun j => if j < k then nextL p j else if j = k then pre else []) (fun y => befL p k y ++ (pre.filter fun z => z == (y : Int)).map fun _ => (k : Int)) W
section
variable {nb bb B M base : Nat} {p : Pl} {W2 W W' w3 : World} {k : Nat} {vs us : List Value} {f h : Nat → List Int}
theorem Rws.ktTurn (R : Rws nb bb base M vs us f h W) {row : Option Nat} (hg : W.grownBy W' row) (hr : ∀ r, row = some r → ∃ o : Obj, W.heap[r]? = some o ∧ o.isCells = false) : KT nb bb W W' where
  size := hg.size
  same := fun k c t f' hk _ => (hg.block k (Array.getElem?_eq_some_iff.1 hk).1 fun e => by
    obtain ⟨o, h1, h2⟩ := hr k e.symm
    rw [hk] at h1; cases h1; simp [Obj.isCells] at h2).trans hk
  tch := fun k t => .inl (by
    have R' := R.turn hg hr
    rcases R'.tch t with rfl | rfl | ⟨i, u, hu, e⟩ | ⟨i, u, hu, e⟩
    · exact .inl rfl
    · exact .inr (.inl rfl)
    · exact .inr (.inr ⟨nb, i, u, .inl rfl, (R.nk.cell i).trans hu, e⟩)
    · exact .inr (.inr ⟨bb, i, u, .inr rfl, (R.bk.cell i).trans hu, e⟩))
  bd := fun _ => (R.turn hg hr).bd
theorem LI.own (hB : B ≤ w3.heap.size) (hB2 : B ≤ W2.heap.size) : OwnFrom w3.heap.size (LI nb bb B M p W2 k w3) := fun pre W W' row hs hg hr => by
  obtain ⟨vs, us, R⟩ := hs.rw
  have hr' : ∀ r, row = some r → ∃ o : Obj, W.heap[r]? = some o ∧ o.isCells = false := fun r e => (hr r e).2
  have hkt := R.ktTurn hg hr'
  refine ⟨hs.be.trans ⟨hg.os, hg.tape, hg.output, hg.size, fun i hi => hg.block i (by have := hs.be.size; omega) fun e => by have := (hr i e.symm).1; omega⟩, hs.kt.trans hkt, hs.k3.trans hkt, fun D hD => ?_, vs, us, R.turn hg hr'⟩
  have h1 := hs.dm D hD
  have hl := (Array.getElem?_eq_some_iff.1 hD).1
  exact (hg.block D (by have := hs.k3.size; omega) fun e => by have := (hr D e.symm).1; omega).trans h1
theorem befL_succ (p : Pl) (k y : Nat) : befL p (k + 1) y = befL p k y ++ ((leaveL p k).filter fun z => z == (y : Int)).map fun _ => (k : Int) := by
  unfold befL
  rw [List.range_succ, List.flatMap_append]
  simp
theorem LK.li (h : LK nb bb B M p W2 k W) (hk : KT nb bb W w3) (hb : Below W.heap.size W w3) (hB : B ≤ W.heap.size) : LI nb bb B M p W2 k w3 [] w3 := by
  obtain ⟨vs, us, R⟩ := h.rw
  refine ⟨h.be.trans (hb.mono hB), h.kt.trans hk, ⟨Nat.le_refl _, fun _ _ _ _ h _ => h, fun _ t => .inl t, fun h => h⟩, fun _ h => h, vs, us, ?_⟩
  have R' := R.below hb (Nat.le_refl _)
  refine { R' with fo := fun j v hv => ?_, ho := fun j v hv => ?_ }
  · have := R'.fo j v hv
    rw [show (if j < k then nextL p j else if j = k then [] else []) = (if j < k then nextL p j else []) by split <;> simp]
    exact this
  · simpa using R'.ho j v hv
end
theorem three_cells (W : World) (x y z : Value) (t1 t2 t3 : TypeId) :
    (((W.alloc (.cells #[x] t1)).alloc (.cells #[y] t2)).alloc (.cells #[z] t3)).cell? ⟨W.heap.size, 0, none⟩ = some x ∧
    (((W.alloc (.cells #[x] t1)).alloc (.cells #[y] t2)).alloc (.cells #[z] t3)).cell? ⟨W.heap.size + 1, 0, none⟩ = some y ∧
    (((W.alloc (.cells #[x] t1)).alloc (.cells #[y] t2)).alloc (.cells #[z] t3)).cell? ⟨W.heap.size + 2, 0, none⟩ = some z := by
  have h1 := cell_made W x t1
  have h2 := cell_made (W.alloc (.cells #[x] t1)) y t2
  have h3 := cell_made ((W.alloc (.cells #[x] t1)).alloc (.cells #[y] t2)) z t3
  have b2 := (Below.refl (W.heap.size + 2) ((W.alloc (.cells #[x] t1)).alloc (.cells #[y] t2))).alloc (by simp) (.cells #[z] t3)
  have b1 := (Below.refl (W.heap.size + 1) (W.alloc (.cells #[x] t1))).alloc (by simp) (.cells #[y] t2)
  simp only [World.size_alloc] at h2 h3
  exact ⟨(b2.cell (p := ⟨W.heap.size, 0, none⟩) (by simp)).trans ((b1.cell (p := ⟨W.heap.size, 0, none⟩) (by simp)).trans h1), (b2.cell (p := ⟨W.heap.size + 1, 0, none⟩) (by simp)).trans h2, h3⟩
theorem LI.done {nb bb B M : Nat} {p : Pl} {W2 W5 W6 w3 : World} {k : Nat} {vs us : List Value} {v : Value} (hI : LI nb bb B M p W2 k w3 (leaveL p k) W5)
    (R : Rws nb bb (B + 3) M vs us (fun j => if j < k then nextL p j else if j = k then leaveL p k else []) (fun y => befL p k y ++ ((leaveL p k).filter fun z => z == (y : Int)).map fun _ => (k : Int)) W5)
    (hv : vs[k]? = some v) (hg : W5.grownBy W6 v.ownBlock) (ho : Own W6 (B + 3) 3 1 fI v (nextL p k)) (hB : B ≤ W2.heap.size) :
    LK nb bb B M p W2 (k + 1) W6 ∧ ∀ D : Nat, W5.heap[D]? = some (.deferred (some [])) → W6.heap[D]? = some (.deferred (some [])) := by
  have hset : vs.set k v = vs := by
    apply List.ext_getElem?
    intro i
    rw [List.getElem?_set]
    by_cases e : k = i
    · subst e; rw [if_pos rfl, if_pos (List.getElem?_eq_some_iff.1 hv).1, hv]
    · rw [if_neg e]
  have hl := (R.fo k v hv).lt
  have hput := R.put (W2 := W6) (v' := v) (l := nextL p k) hv hg.size (fun j hj _ hne => hg.block j hj hne) (by rw [hset]; exact (hg.block nb R.nk.lt fun e => by have := (hl nb e.symm).1; have := R.b1; omega).trans R.nk) ho (.inl rfl)
  refine ⟨⟨hI.be.trans ⟨hg.os, hg.tape, hg.output, hg.size, fun i hi => hg.block i (by have := hI.be.size; omega) fun e => by have := (hl i e.symm).1; omega⟩, hI.kt.trans hput.2, vs.set k v, us, ?_⟩, fun D hD => ?_⟩
  · have R6 := hput.1
    have e1 : (fun i => if i = k then nextL p k else if i < k then nextL p i else if i = k then leaveL p k else []) = fun j => if j < k + 1 then nextL p j else [] := by
      funext j
      by_cases h1 : j = k
      · subst h1; simp
      · by_cases h2 : j < k
        · simp [h1, h2, show j < k + 1 by omega]
        · simp [h1, h2, show ¬ j < k + 1 by omega]
    have e2 : (fun y => befL p k y ++ ((leaveL p k).filter fun z => z == (y : Int)).map fun _ => (k : Int)) = befL p (k + 1) := by
      funext y; rw [befL_succ]
    rw [e1, e2] at R6
    exact R6
  · refine (hg.block D (Array.getElem?_eq_some_iff.1 hD).1 fun e => ?_).trans hD
    obtain ⟨c, e', h3⟩ := R.cells (.inr (.inr ⟨nb, k, v, .inl rfl, (R.nk.cell k).trans hv, e.symm⟩))
    rw [hD] at h3; cases h3
/-- the marks are closed, one after another -/
theorem leaves_marks {P : Program} {fn : Func} {tmps : Array Value} {R : Ending → World → Prop} {F : Fence} {n : Nat} {v : Value} (hres : fn.results.size = 0) :
    ∀ (Ds : List Nat) (W : World), Ds.Nodup → (∀ D ∈ Ds, W.heap[D]? = some (.deferred (some []))) →
      (∀ W', (∀ k, (∀ D ∈ Ds, k ≠ D) → W'.heap[k]? = W.heap[k]?) → W'.heap.size = W.heap.size → W'.os = W.os → W'.tape = W.tape → W'.output = W.output → LeavesInM F n P fn tmps R [] .returning W') →
      LeavesInM F n P fn tmps R (Ds.map fun D => { target := .collected D, args := #[] }) .returning W := by
  intro Ds
  induction Ds with
  | nil => intro W _ _ h; exact h W (fun _ _ => rfl) rfl rfl rfl rfl
  | cons D Ds ih =>
    intro W hn hd h
    have hD := hd D (by simp)
    rw [List.nodup_cons] at hn
    refine ⟨by simp, .inl ⟨_, _, rfl, run_takeDeferred hD, ih _ hn.2 (fun E hE => ?_) fun W' hb hs h1 h2 h3 => ?_⟩⟩
    · exact (World.putObj_heap_other (by rintro rfl; exact hn.1 hE)).trans (hd E (List.mem_cons_of_mem _ hE))
    · refine h W' (fun k hk => (hb k fun E hE => hk E (List.mem_cons_of_mem _ hE)).trans (World.putObj_heap_other (hk D (by simp)))) (by simpa using hs) h1 h2 h3
/-- an append's value, stored back into its row -/
theorem Rws.push {nb bb base M B : Nat} {vs us : List Value} {f h : Nat → List Int} {W w' : World} {j : Nat} {v v' : Value} {l : List Int} (R : Rws nb bb base M vs us f h W) (hj : vs[j]? = some v) (hg : W.grownBy w' v.ownBlock)
    (ho : Own w' base 3 1 fI v' l) (hw : v'.ownBlock = v.ownBlock ∨ v'.ownBlock = some W.heap.size) (hB : B ≤ nb) :
    Rws nb bb base M (vs.set j v') us (fun i => if i = j then l else f i) h (w'.setCell ⟨nb, j, none⟩ v') ∧ KT nb bb W (w'.setCell ⟨nb, j, none⟩ v') ∧ KeepsOthers W (w'.setCell ⟨nb, j, none⟩ v') ∧ Below B W (w'.setCell ⟨nb, j, none⟩ v') := by
  have hl := (R.fo j v hj).lt
  have hb1 := R.b1
  have hnb : w'.heap[nb]? = W.heap[nb]? := hg.block nb R.nk.lt fun e => by have := (hl nb e.symm).1; omega
  have hother : ∀ k, k ≠ nb → (w'.setCell ⟨nb, j, none⟩ v').heap[k]? = w'.heap[k]? := fun k hk => Below.heap_setCell _ _ _ k hk
  have hsz : (w'.setCell ⟨nb, j, none⟩ v').heap.size = w'.heap.size := World.size_setCell _ _ _
  have hput := R.put (W2 := w'.setCell ⟨nb, j, none⟩ v') (v' := v') (l := l) hj (by rw [hsz]; exact hg.size) (fun k hk hne hr => (hother k hne).trans (hg.block k hk hr)) (VRow.set (hnb.trans R.nk) j v')
    (ho.of_blocks fun k hk => hother k (by have := (ho.lt k hk).1; omega)) hw
  refine ⟨hput.1, hput.2, ⟨by rw [hsz]; exact hg.size, fun k o hk hoc => ?_⟩, ⟨hg.os, hg.tape, hg.output, by rw [hsz]; exact hg.size, fun k hk => (hother k (by omega)).trans (hg.block k (by have := R.nk.lt; omega) fun e => by have := (hl k e.symm).1; omega)⟩⟩
  have hkn : k ≠ nb := by rintro rfl; rw [R.nk] at hk; cases hk; simp [Obj.isCells] at hoc
  refine (hother k hkn).trans ((hg.block k (Array.getElem?_eq_some_iff.1 hk).1 fun e => ?_).trans hk)
  obtain ⟨c, e', h3⟩ := R.cells (.inr (.inr ⟨nb, j, v, .inl rfl, (R.nk.cell j).trans hj, e.symm⟩))
  rw [hk] at h3; cases h3; simp [Obj.isCells] at hoc
theorem keepsOthers_below {W W' : World} (hb : Below W.heap.size W W') : KeepsOthers W W' := ⟨hb.size, fun k o hk _ => (hb.block k (Array.getElem?_eq_some_iff.1 hk).1).trans hk⟩
theorem LI.step {nb bb B M : Nat} {p : Pl} {W2 W5 We w3 : World} {k y : Nat} {q : List Int} {vs us : List Value} (hI : LI nb bb B M p W2 k w3 q W5) (hkt : KT nb bb W5 We) (hko : KeepsOthers W5 We) (hbe : Below B W5 We)
    (R : Rws nb bb (B + 3) M vs us (fun i => if i = k then q ++ [(y : Int)] else if i < k then nextL p i else if i = k then q else [])
      (fun i => if i = y then befL p k y ++ ((q.filter fun z => z == (y : Int)).map fun _ => (k : Int)) ++ [(k : Int)] else befL p k i ++ ((q.filter fun z => z == (i : Int)).map fun _ => (k : Int))) We) :
    KeepsFrom w3.heap.size W5 We ∧ KT nb bb W5 We ∧ LI nb bb B M p W2 k w3 (q ++ [(y : Int)]) We := by
  refine ⟨hko.from _, hkt, hI.be.trans hbe, hI.kt.trans hkt, hI.k3.trans hkt, fun D hD => hko.same D _ (hI.dm D hD) rfl, vs, us, ?_⟩
  have e1 : (fun i => if i = k then q ++ [(y : Int)] else if i < k then nextL p i else if i = k then q else []) = fun j => if j < k then nextL p j else if j = k then q ++ [(y : Int)] else [] := by
    funext j
    by_cases h1 : j = k
    · subst h1; simp
    · simp [h1]
  have e2 : (fun i => if i = y then befL p k y ++ ((q.filter fun z => z == (y : Int)).map fun _ => (k : Int)) ++ [(k : Int)] else befL p k i ++ ((q.filter fun z => z == (i : Int)).map fun _ => (k : Int))) = fun i => befL p k i ++ (((q ++ [(y : Int)]).filter fun z => z == (i : Int)).map fun _ => (k : Int)) := by
    funext i
    rw [List.filter_append, List.map_append]
    by_cases h1 : i = y
    · subst h1; simp
    · have : ((y : Int) == (i : Int)) = false := by simp; omega
      simp [h1, this]
  rw [e1, e2] at R
  exact R
theorem leaveL_le2 (p : Pl) (m : Nat) : (leaveL p m).length ≤ 2 := by unfold leaveL; rw [List.length_map]; exact thru_le2 _ _ _
theorem befL_len (p : Pl) (y : Nat) : ∀ k, (befL p k y).length ≤ 2 * k := by
  intro k
  induction k with
  | zero => simp [befL]
  | succ k ih =>
    rw [befL_succ, List.length_append, List.length_map]
    have h1 := List.length_filter_le (fun z => z == (y : Int)) (leaveL p k)
    have h2 := leaveL_le2 p k
    omega
/-- link's slots between two rounds -/
def LTm (g B s m M : Nat) (A2 : Option Addr) (c2 : Nat) (k : Nat) (u : Nat → Value) : Array Value := #[.pointer (some ⟨g, 0, none⟩), .pointer (some ⟨B, 0, none⟩), u 2, u 3, .pointer (some ⟨g, 0, none⟩), .pointer (some ⟨g, 0, none⟩), .pointer (some ⟨g, 0, none⟩), .pointer (some ⟨g, 0, none⟩), .pointer (some ⟨g, 1, none⟩), .slice A2 m c2, .int .i64 (m : Int), .int .i64 (2 * (m : Int)), .slice (some ⟨B + 1, 0, none⟩) (2 * m) (2 * m), .pointer (some ⟨g, 0, none⟩), .pointer (some ⟨g, 4, none⟩), .pointer (some ⟨g, 0, none⟩), .pointer (some ⟨g, 0, none⟩), .pointer (some ⟨g, 0, none⟩), .pointer (some ⟨g, 0, none⟩), .pointer (some ⟨g, 1, none⟩), .slice A2 m c2, .int .i64 (m : Int), .int .i64 (2 * (m : Int)), .slice (some ⟨s, 0, none⟩) (2 * m) (2 * m), .pointer (some ⟨g, 0, none⟩), .pointer (some ⟨g, 5, none⟩), .pointer (some ⟨g, 0, none⟩), .pointer (some ⟨g, 0, none⟩), .pointer (some ⟨g, 4, none⟩), .slice (some ⟨B + 1, 0, none⟩) M M, .int .i64 (M : Int), .int .i64 (k : Int), u 32, u 33, u 34, u 35, u 36, u 37, u 38, u 39, u 40, u 41, u 42, u 43, u 44, u 45, u 46, u 47, u 48, u 49, u 50, u 51, u 52, u 53, u 54, u 55, u 56, u 57, u 58, u 59, u 60, u 61, u 62, u 63, u 64, u 65, u 66, u 67, u 68, u 69, u 70, u 71, u 72, u 73, u 74, u 75, u 76, u 77, u 78]
end Go.Proofs.YtekambdnmaompaaGreat
