/- Contracts: the strips of a rail. -/
import Derived.Maps.OwnIn
import Derived.RangeFuncNested
import Derived.Test.YtekambdnmaompaaGreatE1
import Derived.Test.YtekambdnmaompaaGreatG3
import Derived.Test.YtekambdnmaompaaGreatJ1
import Derived.Test.YtekambdnmaompaaGreatJ2
namespace Go.Proofs.YtekambdnmaompaaGreat.SW
set_option linter.unusedVariables false
open Go Go.RowKit

/-- An iterator that yields x only where D x holds of the memory; no round ends it early. -/
def SeqD {α : Type} (F : Fence) (n : Nat) (P : Program) (g : Nat) (lb : Array Value) (encs : α → Array Value) (Kp : World → World → Prop) (D : α → World → Prop) (S : List α → Prop) (N : Nat) (w : World) : Prop :=
  ∀ (l : Nat) (J : List α → World → Prop) (W : World), Below w.heap.size w W → AbidesFrom W.heap.size J →
    (∀ pre x W1, J pre W1 → D x W1 → pre.length < N → YieldAt F (n - 1) P l (encs x) W1 fun e W' => e = .returned (.bool true) ∧ J (pre ++ [x]) W' ∧ Kp W1 W') →
    J [] W →
    CallsIn F n P g (#[.func (.yield l) #[] #[]] ++ lb) W fun e W' => (∃ v, e = .returned v) ∧ ∃ xs, S xs ∧ J xs W'

section
variable {α : Type} {F : Fence} {n : Nat} {P : Program} {g : Operand} {ps : Array Tmp} {assign body : Code} {Q : Exit → Act → World → Prop} {a : Act} {w : World}
theorem wpIn_rangeD (hro : F.round = none) (h1 : 1 ≤ n) {gf : Nat} {lb : Array Value} (hg : a.eval g = .func (.func gf) #[] lb) (hFg : F.fn gf) (eg : ∀ args w, (callFunc gf args).run P w = .ok (.enter gf args) w)
    {encs : α → Array Value} {Kp : World → World → Prop} {D : α → World → Prop} {S : List α → Prop} {N : Nat} {w0 : World} (hseq : SeqD F (n - 1) P gf lb encs Kp D S N w0)
    (hKt : ∀ {A B C : World}, Kp A B → Kp B C → Kp A C)
    (hKb : ∀ (W : World) (l : Nat) (o o' : Obj), w.heap.size ≤ l → W.heap[l]? = some o → o.isCells = false → o.isWalk = false → Kp W (W.putObj l o'))
    (hb0 : Below w0.heap.size w0 w) (hps : ∀ x, (encs x).size = ps.size)
    (I : List α → World → Prop) (hI : OwnFrom w.heap.size I) (h0 : I [] w)
    (B : List α × α × Act → World → Prop) (hB : OwnFrom w.heap.size B)
    (hassign : ∀ (l : Nat) (pre : List α) (x : α) (W : World) (K : Act → World → Prop), I pre W → D x W → pre.length < N → (∀ a1 W1, KeepsOthers W W1 → Kp W W1 → B (pre, x, a1) W1 → K a1 W1) →
      assign.wpIn (F.inRound l) (n - 1 - 1) P (Exit.then K (fun _ _ _ => False)) { tmps := (ps.zip (encs x)).foldl (fun t (p, v) => t.setIfInBounds p v) a.tmps, defers := [] } W)
    (hbody : ∀ (l : Nat) (pre : List α) (x : α) (a1 : Act) (W : World), B (pre, x, a1) W → pre.length < N →
      body.wpIn (F.inRound l) (n - 1 - 1) P (fun e _ W' => e = .normal ∧ KeepsOthers W W' ∧ Kp W W' ∧ I (pre ++ [x]) W') a1 W)
    (hdone : ∀ (d : Nat) (xs : List α) (W : World), d = w.heap.size → S xs → I xs W → W.heap[d]? = some (.deferred (some [])) → Q .normal { a with defers := { target := .collected d, args := #[] } :: a.defers } W) :
    (Code.rangeFunc g ps assign body).wpIn F n P Q a w := by
  refine wpIn_rangeFunc fun fn hfn => ?_
  rw [hro]
  -- the record in its three states, at one place
  obtain ⟨L, hL⟩ : ∃ L : LoopState → Loop, L = fun st => { state := st, pending := none, fn := fn, tmps := a.tmps, params := ps, assign := assign, body := body, defers := w.heap.size } := ⟨_, rfl⟩
  obtain ⟨V, hV⟩ : ∃ V, (w.alloc (.deferred (some []))).alloc (.loop (L .ready)) = V := ⟨_, rfl⟩
  obtain ⟨q, hq⟩ : ∃ q, w.heap.size + 1 = q := ⟨_, rfl⟩
  have hVl : V.heap[q]? = some (.loop (L .ready)) := by
    rw [← hV, ← hq]; have := World.alloc_heap_new (w.alloc (.deferred (some []))) (.loop (L .ready)); rwa [World.size_alloc] at this
  have hVd : V.heap[w.heap.size]? = some (.deferred (some [])) := by
    rw [← hV]; exact (Below.heap_alloc _ _ _ (by simp)).trans (World.alloc_heap_new w _)
  have hVI : I [] V := by rw [← hV]; exact hI.alloc _ (hI.alloc _ h0)
  have hVb : Below w0.heap.size w0 V := by
    rw [← hV]; exact hb0.trans ((((Below.refl _ w).alloc (Nat.le_refl _) _).alloc (by simp) _).mono hb0.size)
  have hne : w.heap.size ≠ q := by omega
  have hVs : w.heap.size ≤ V.heap.size := by rw [← hV]; simp; omega
  have hqw : w.heap.size ≤ q := by omega
  refine ⟨q, [{ target := .collected w.heap.size, args := #[] }], V, { target := .fn (.func gf) lb, args := #[.func (.yield q) #[] #[]] }, V, gf, #[.func (.yield q) #[] #[]] ++ lb, V, ?_, ?_, ?_, ?_, fun _ => h1, ?_⟩
  · rw [← hV, hL, ← hq]; exact run_enterLoop_outer _ _ _ _ _
  · simp only [resolve, hg]; simp [go_sem]
  · intro f' hf'; simp [Target.leads] at hf'; subst hf'; exact hFg
  · simp [invoke, go_sem, eg]
  · refine (hseq q (fun pre W => I pre W ∧ W.heap[q]? = some (.loop (L .ready)) ∧ W.heap[w.heap.size]? = some (.deferred (some []))) V hVb ?_ ?_ ⟨hVI, hVl, hVd⟩).mono ?_
    · rintro pre A A' row ⟨hi, hl, hd⟩ hgr hrow
      have hr : ∀ r, row = some r → ∃ o : Obj, A.heap[r]? = some o ∧ o.isWalk = true := fun r e => (hrow r e).2
      exact ⟨hI pre A A' row hi hgr fun r e => by obtain ⟨o, ho, hw⟩ := hr r e; exact ⟨by have := (hrow r e).1; have := hVs; omega, o, ho, Obj.not_cells_of_walk hw⟩, (grownBy_keeps hgr hr hl rfl).trans hl, (grownBy_keeps hgr hr hd rfl).trans hd⟩
    · rintro pre x W ⟨hi, hl, hd⟩ hdx hlen
      refine ⟨fn, _, assign, body, by have := run_yield (P := P) (args := encs x) hl (by rw [hL]; exact hps x); rw [hL] at this; exact this, roundIn_of_wpIn hfn (hassign q pre x W _ hi hdx hlen fun a1 W1 hk1 hp1 hb1 => ?_)⟩
      have hl1 := hk1.same _ _ hl rfl
      have hd1 := hk1.same _ _ hd rfl
      have hq1 : q < W1.heap.size := (Array.getElem?_eq_some_iff.1 hl1).1
      refine ⟨_, run_beginRound hl1 (by rw [hL]), ?_⟩
      have hl2 : (W1.putObj q (.loop { L .ready with state := .busy })).heap[q]? = some (.loop { L .ready with state := .busy }) := World.putObj_heap_same hq1
      have hd2 : (W1.putObj q (.loop { L .ready with state := .busy })).heap[w.heap.size]? = some (.deferred (some [])) := (World.putObj_heap_other hne).trans hd1
      have hp2 : Kp W (W1.putObj q (.loop { L .ready with state := .busy })) := hKt hp1 (hKb _ _ _ _ (by omega) hl1 rfl rfl)
      refine wpIn_mono (hbody q pre x a1 _ (hB.putObj _ hb1 hqw hl1 rfl) hlen) ?_
      rintro e a3 W3 ⟨rfl, hk3, hp3, hi3⟩
      have hl3 := hk3.same _ _ hl2 rfl
      have hd3 := hk3.same _ _ hd2 rfl
      have hend := run_endRound (P := P) none hl3
      have hL3 : ({ ({ L .ready with state := .busy } : Loop) with state := (if (none : Option Code).isNone then .ready else .done), pending := none } : Loop) = L .ready := by rw [hL]; rfl
      rw [hL3] at hend
      refine ⟨_, _, hend, rfl, ⟨hI.putObj _ hi3 hqw hl3 rfl, World.putObj_heap_same (Array.getElem?_eq_some_iff.1 hl3).1, (World.putObj_heap_other hne).trans hd3⟩, hKt (hKt hp2 hp3) (hKb _ _ _ _ (by omega) hl3 rfl rfl)⟩
    · rintro e W2 ⟨⟨v, rfl⟩, xs, hS, hi, hl, hd⟩
      refine ⟨none, _, by have := run_endLoop (P := P) hl (by rw [hL]; simp); rw [hL] at this; exact this, hdone _ xs _ rfl hS (hI.putObj _ hi hqw hl rfl) ((World.putObj_heap_other hne).trans hd)⟩
end
end Go.Proofs.YtekambdnmaompaaGreat.SW

namespace Go.Proofs.YtekambdnmaompaaGreat.SW
set_option linter.unusedVariables false
set_option linter.unusedSimpArgs false
open Go.RowKit

def bendAt (l : List S) (k : Nat) : List S := if isBendB l k then [sAt l k] else []
/-- the strip of a line between its spots k and k + 1 -/
def stripAt (r : Nat) (l : List S) (k : Nat) : Swp :=
  ⟨(r : Int), (k : Int), sAt l k, sAt l (k + 1), (lenTo l k : Nat), (lenTo l (k + 1) : Nat), bendAt l k ++ bendAt l (k + 1)⟩
def alongL (r : Nat) (l : List S) : List Swp := (List.range (l.length - 1)).map (stripAt r l)
theorem alongL_len (r : Nat) (l : List S) : (alongL r l).length = l.length - 1 := by simp [alongL]
theorem alongL_at {r : Nat} {l : List S} {k : Nat} (hk : k < (alongL r l).length) : (alongL r l)[k] = stripAt r l k := by simp [alongL]
theorem bendAt_mem {l : List S} {k : Nat} {t : S} (h : t ∈ bendAt l k) : t = sAt l k := by
  unfold bendAt at h; split at h
  · exact List.mem_singleton.1 h
  · cases h
theorem bendAt_len (l : List S) (k : Nat) : (bendAt l k).length ≤ 1 := by unfold bendAt; split <;> simp
theorem stripAt_ok {r : Nat} {l : List S} {k : Nat} (hr : allR l) (hok : okL l = true) (hk : k + 1 < l.length) : SwOk (stripAt r l k) where
  ha := hr k (by omega)
  hb := hr (k + 1) hk
  hab := by
    have h := (okL_iff l).1 hok k (by omega)
    unfold okD at h
    have h1 := (of_decide_eq_true h).1
    show 0 < sq2 ((sAt l (k + 1)).x - (sAt l k).x) ((sAt l (k + 1)).y - (sAt l k).y)
    unfold sqd at h1
    unfold sq2
    have e : (sAt l (k + 1)).x - (sAt l k).x = -((sAt l k).x - (sAt l (k + 1)).x) := by omega
    have e2 : (sAt l (k + 1)).y - (sAt l k).y = -((sAt l k).y - (sAt l (k + 1)).y) := by omega
    first
    | (rw [e, e2, Int.neg_mul_neg, Int.neg_mul_neg]; omega)
    | omega
  bends := fun t ht => by
    rcases List.mem_append.1 ht with h | h
    · exact .inl (bendAt_mem h)
    · exact .inr (bendAt_mem h)
theorem alongL_ok {r : Nat} {l : List S} (hr : allR l) (hok : okL l = true) : ∀ s ∈ alongL r l, SwOk s := fun s hs => by
  obtain ⟨k, hk, rfl⟩ := List.mem_map.1 hs
  exact stripAt_ok hr hok (by have := List.mem_range.1 hk; omega)

set_option maxRecDepth 100000 in
set_option maxHeartbeats 2000000 in
theorem strips_any (A A2 : Option Addr) (c c2 : Nat) (p : Pl) (r : Nat) (w : World) (hP : PlAt w w.heap.size A c A2 c2 p) (hr : r < p.rails.length) (h1 : nodeIx p p.rails[r].frm) (h2 : nodeIx p p.rails[r].to) (hs : p.rails[r].shape.length ≤ 40) :
    Calls Tryz.prog 74 #[.agg #[.slice A p.nodes.length c, .slice A2 p.rails.length c2], .int .i64 r] w fun e w' =>
      ∃ (v : Value) (k : Nat), e = .returned (.func (.func 98) #[] #[.pointer (some ⟨k, 0, none⟩), .pointer (some ⟨w.heap.size + 1, 0, none⟩)]) ∧ w'.cell? ⟨k, 0, none⟩ = some v ∧ w'.cell? ⟨w.heap.size + 1, 0, none⟩ = some (.int .i64 r) ∧
        Own w' w.heap.size 82 2 fS v (lineOf p p.rails[r]) ∧ Below w.heap.size w w' ∧ w.heap.size + 1 < k ∧ (∀ j, v.ownBlock = some j → j < k) := by
  have hbe := (((Below.refl w.heap.size w).alloc (Nat.le_refl _) (.cells #[.slice A p.nodes.length c, .slice A2 p.rails.length c2] 25)).alloc (by simp) (.cells #[.int .i64 r] 3))
  have HP2 := Lib.hid ((hP.below hbe).more hbe.size)
  have HBE := Lib.hid hbe
  have x1 : ((w.alloc (.cells #[.slice A p.nodes.length c, .slice A2 p.rails.length c2] 25)).alloc (.cells #[.int .i64 r] 3)).cell? ⟨w.heap.size + 1, 0, none⟩ = some (.int .i64 r) := by
    have := cell_made (w.alloc (.cells #[.slice A p.nodes.length c, .slice A2 p.rails.length c2] 25)) (.int .i64 (r : Int)) 3
    simp
  have HX := Lib.hid x1
  clear hbe x1 hP
  go_enter Tryz.func74, Tryz.ntmps74
  go_wp2_with fail
  refine (sLine_any A A2 c c2 p r _ HP2.out hr h1 h2 hs).mono ?_
  rintro e w1 ⟨v, rfl, ho, hb1⟩
  have hx := (hb1.cell (p := ⟨w.heap.size + 1, 0, none⟩) (by simp)).trans HX.out
  have hb0 := HBE.out.trans (hb1.mono (by simp; omega))
  have hz1 := hb1.size
  simp at hz1
  have ho' : Own w1 w.heap.size 82 2 fS v (lineOf p p.rails[r]) := ho.lower (by simp; omega)
  obtain ⟨A', c', rfl, _, _, _⟩ := ho'.form
  have HO := Lib.hid ho'
  have HZ := Lib.hid hz1
  have HB0 := Lib.hid hb0
  have HXX := Lib.hid hx
  clear ho ho' hb1 hb0 hx hz1
  go_wp2
  go_ret
  have hb0 := HB0.out
  have hbb := (Below.refl w1.heap.size w1).alloc (Nat.le_refl _) (.cells #[.slice A' (lineOf p p.rails[r]).length c'] 61)
  refine ⟨_, w1.heap.size, rfl, ?_, ?_, HO.out.below hbb (Nat.le_refl _), hb0.trans (hbb.mono hb0.size), HZ.out, fun j hj => (HO.out.lt j hj).2⟩
  · have := cell_made w1 (.slice A' (lineOf p p.rails[r]).length c') 61
    simp
  · exact (hbb.cell (p := ⟨w.heap.size + 1, 0, none⟩) (by have := HZ.out; simp; omega)).trans HXX.out
end Go.Proofs.YtekambdnmaompaaGreat.SW

namespace Go.Proofs.YtekambdnmaompaaGreat.SW
set_option linter.unusedVariables false
set_option linter.unusedSimpArgs false
open Go.RowKit

section
variable {α : Type} {w w' : World} {B B' size : Nat} {C : α → List Value → Prop} {A : Option Addr} {l : List α}
theorem Sl.keepA (h : Sl w B size C A l) (hB : B ≤ B') (hk : ∀ (a p : Addr) (v : Value), A = some a → p.block = a.block → w.cell? p = some v → w'.cell? p = some v) : Sl w' B' size C A l := by
  intro hl
  obtain ⟨b, off, e, hb, hc⟩ := h hl
  refine ⟨b, off, e, by omega, fun i x hx => ?_⟩
  obtain ⟨cs, h1, h2⟩ := hc i x hx
  exact ⟨cs, h1, fun j u hu => hk _ _ _ e rfl (h2 j u hu)⟩
end
/-- the slice of the line, and the rail's number, in their boxes; the rounds turn neither -/
structure StAt (nb k rb : Nat) (A : Option Addr) (c r : Nat) (L : List S) (W : World) : Prop where
  x1 : W.cell? ⟨k, 0, none⟩ = some (.slice A L.length c)
  x2 : W.cell? ⟨rb, 0, none⟩ = some (.int .i64 (r : Int))
  sl : Sl W W.heap.size 2 CS A L
  n1 : ¬ Tch nb nb W k
  n2 : ¬ Tch nb nb W rb
  na : ∀ a, A = some a → ¬ Tch nb nb W a.block
  bd : ∀ j, Tch nb nb W j → j < W.heap.size
section
variable {nb k rb : Nat} {A : Option Addr} {c r : Nat} {L : List S} {W W' : World}
theorem StAt.lt (h : StAt nb k rb A c r L W) : k < W.heap.size ∧ rb < W.heap.size ∧ nb < W.heap.size :=
  ⟨World.block_lt_of_cell? W _ h.x1, World.block_lt_of_cell? W _ h.x2, h.bd nb (.inl rfl)⟩
theorem StAt.keep (h : StAt nb k rb A c r L W) (hne : L ≠ []) (kt : KT nb nb W W') : StAt nb k rb A c r L W' where
  x1 := kt.cell h.x1 h.n1
  x2 := kt.cell h.x2 h.n2
  sl := Sl.keepA h.sl kt.size fun a p v ha hp hv => kt.cell hv (by rw [hp]; exact h.na a ha)
  n1 := kt.keepsN h.lt.1 h.n1
  n2 := kt.keepsN h.lt.2.1 h.n2
  na := fun a ha => by
    obtain ⟨b, off, e, hb, _⟩ := h.sl hne
    rw [ha] at e
    cases e
    exact kt.keepsN hb (h.na _ ha)
  bd := kt.bd h.bd
theorem StAt.below {B : Nat} (h : StAt nb k rb A c r L W) (hne : L ≠ []) (hb : Below B W W') (hB : W.heap.size ≤ B) : StAt nb k rb A c r L W' :=
  h.keep hne (KT.of_below hb hB h.lt.2.2 h.lt.2.2)
end
/-- the bends of a strip, where its slice points -/
structure DSw (nb : Nat) (x : SwM) (W : World) : Prop where
  sl : Sl W W.heap.size 2 CS x.A x.s.bends
  nt : ∀ a, x.A = some a → a.block < W.heap.size ∧ ¬ Tch nb nb W a.block
  cap : x.s.bends.length ≤ x.c ∧ x.c ≤ maxLen
  lo : ∀ a, x.A = some a → nb ≤ a.block
theorem DSw.keep {nb : Nat} {x : SwM} {W W' : World} (h : DSw nb x W) (kt : KT nb nb W W') : DSw nb x W' where
  sl := Sl.keepA h.sl kt.size fun a p v ha hp hv => kt.cell hv (by rw [hp]; exact (h.nt a ha).2)
  nt := fun a ha => ⟨Nat.lt_of_lt_of_le (h.nt a ha).1 kt.size, kt.keepsN (h.nt a ha).1 (h.nt a ha).2⟩
  cap := h.cap
  lo := h.lo
end Go.Proofs.YtekambdnmaompaaGreat.SW

namespace Go.Proofs.YtekambdnmaompaaGreat.SW
set_option linter.unusedVariables false
set_option linter.unusedSimpArgs false
open Go.RowKit

def sqL : Code → Code | .seq a _ => a | c => c
def sqR : Code → Code | .seq _ b => b | c => c
def blkB : Code → Code | .block _ b => b | c => c
def lpIn : Code → Option Code
  | .loop b => some b
  | .seq a b => (lpIn a).orElse fun _ => lpIn b
  | .block _ b => lpIn b
  | .cond _ a b => (lpIn a).orElse fun _ => lpIn b
  | _ => none
noncomputable def b98 : Code := (Tryz.f98.body.bind lpIn).getD .skip
noncomputable def c4 : Code := blkB (sqL (sqR b98))
noncomputable def c9 : Code := sqR (sqR (sqR (sqR (sqR c4))))
/-- the making of a strip, and what follows -/
noncomputable def prepA (rest : Code) : Code := .seq (sqL c4) (.seq (sqL (sqR c4)) (.seq (sqL (sqR (sqR c4))) (.seq (sqL (sqR (sqR (sqR c4)))) (.seq (sqL (sqR (sqR (sqR (sqR c4))))) rest))))
noncomputable def prepB (rest : Code) : Code := .seq (sqL c9) (.seq (sqL (sqR c9)) rest)
/-- the iterator's frame -/
def FS (l k rb j : Nat) (bg : Int) (v6 v7 v10 : Value) (u : Nat → Value) : Act := ⟨#[.func (.yield l) #[] #[], .pointer (some ⟨k, 0, none⟩), .pointer (some ⟨rb, 0, none⟩), u 3, .int .i64 bg, .int .i64 ((j : Int) + 1), v6, v7, u 8, u 9, v10, u 11, u 12, u 13, u 14, u 15, u 16, u 17, u 18, u 19, u 20, u 21, u 22, u 23, u 24, u 25, u 26, u 27, u 28, u 29, u 30, u 31, u 32, u 33, u 34, u 35, u 36, u 37, u 38, u 39, u 40, u 41, u 42, u 43, u 44, u 45, u 46, u 47, u 48, u 49, u 50, u 51, u 52, u 53, u 54, u 55, u 56, u 57, u 58, u 59, u 60, u 61, u 62, u 63, u 64, u 65, u 66, u 67, u 68, u 69, u 70, u 71, u 72, u 73, u 74, u 75, u 76, u 77, u 78, u 79, u 80, u 81, u 82, u 83, u 84, u 85, u 86, u 87, u 88, u 89, u 90, u 91], []⟩
theorem two_bS (w : World) (x y : S) : B1s w.heap.size x ((w.alloc (.cells #[.int .i64 x.x, .int .i64 x.y] 82)).alloc (.cells #[.int .i64 y.x, .int .i64 y.y] 82)).drew ∧
    B1s (w.heap.size + 1) y ((w.alloc (.cells #[.int .i64 x.x, .int .i64 x.y] 82)).alloc (.cells #[.int .i64 y.x, .int .i64 y.y] 82)).drew ∧
    Below w.heap.size w ((w.alloc (.cells #[.int .i64 x.x, .int .i64 x.y] 82)).alloc (.cells #[.int .i64 y.x, .int .i64 y.y] 82)).drew := by
  have h0 := fun i => cell_keep1 (o := .cells #[.int .i64 y.x, .int .i64 y.y] 82) (cell_new1 w #[.int .i64 x.x, .int .i64 x.y] 82 i) (by simp)
  have h1 := fun i => cell_new1 (w.alloc (.cells #[.int .i64 x.x, .int .i64 x.y] 82)) #[.int .i64 y.x, .int .i64 y.y] 82 i
  rw [World.size_alloc] at h1
  exact ⟨⟨h0 0, h0 1⟩, ⟨h1 0, h1 1⟩, (((Below.refl _ w).alloc (Nat.le_refl _) _).alloc (by simp) _).drew⟩
/-- a strip without its bends, in its box -/
def C13 (tb : Nat) (s : Swp) (v : Value) (w' : World) : Prop := ∀ (i : Nat) (q : Value), [.int .i64 s.rail, .int .i64 s.seg, .int .i64 s.a.x, .int .i64 s.a.y, .int .i64 s.b.x, .int .i64 s.b.y, .int .i64 s.bg, .int .i64 s.en, v, .int .i64 (min s.a.x s.b.x), .int .i64 (min s.a.y s.b.y), .int .i64 (max s.a.x s.b.x), .int .i64 (max s.a.y s.b.y)][i]? = some q → w'.cell? ⟨tb, i, none⟩ = some q
set_option maxRecDepth 100000 in
set_option maxHeartbeats 4000000 in
theorem prepA_wp (l k rb j r c n b0 o0 : Nat) (L : List S) (wr : World) (v6 v7 v10 : Value) (u : Nat → Value) (rest : Code) (Q : Exit → Act → World → Prop)
    (x1 : wr.cell? ⟨k, 0, none⟩ = some (.slice (some ⟨b0, o0, none⟩) n c)) (x2 : wr.cell? ⟨rb, 0, none⟩ = some (.int .i64 (r : Int)))
    (hS : Sl wr wr.heap.size 2 CS (some ⟨b0, o0, none⟩) L) (hn : L.length = n) (hn2 : n ≤ 42) (hj : j + 1 < n) (hR : allR L) (hok : okL L = true)
    (hK : ∀ a' w' A B T, a' = FS l k rb j (lenTo L j : Nat) (.pointer (some ⟨A, 0, none⟩)) (.pointer (some ⟨B, 0, none⟩)) (.pointer (some ⟨T, 0, none⟩)) (fun i => a'.tmps.getD i undef) →
      B1s A (sAt L j) w' → B1s B (sAt L (j + 1)) w' → C13 T ⟨(r : Int), (j : Int), sAt L j, sAt L (j + 1), (lenTo L j : Nat), (lenTo L (j + 1) : Nat), []⟩ (.slice none 0 0) w' → wr.heap.size ≤ A → wr.heap.size ≤ B → A ≠ T → B ≠ T → wr.heap.size ≤ T → w'.frozen? ⟨T, 8, none⟩ = false → Below wr.heap.size wr w' → rest.wp Tryz.prog Q a' w') :
    (prepA rest).wp Tryz.prog Q (FS l k rb j (lenTo L j : Nat) v6 v7 v10 u) wr := by
  obtain ⟨b, o, e, hb, p0, p1⟩ := spot_at hS (i := j) (by omega)
  obtain ⟨b', o', e', _, q0, q1⟩ := spot_at hS (i := j + 1) (by omega)
  obtain ⟨rfl, rfl⟩ : b0 = b ∧ o0 = o := by simpa using e
  obtain ⟨rfl, rfl⟩ : b0 = b' ∧ o0 = o' := by simpa using e'
  rw [← sAt_eq (by omega)] at p0 p1 q0 q1
  have ia := hR j (by omega)
  have ib := hR (j + 1) (by omega)
  have hok2 := (okL_iff L).1 hok j (by omega)
  have hl0 := lenTo_le L j
  have hl1 : lenTo L (j + 1) = lenTo L j + far (sAt L j) (sAt L (j + 1)) := rfl
  have hf := far_lt (sAt L j) (sAt L (j + 1))
  rw [hl1] at hK
  obtain ⟨s, hs⟩ : ∃ z, sAt L j = z := ⟨_, rfl⟩
  obtain ⟨t, ht⟩ : ∃ z, sAt L (j + 1) = z := ⟨_, rfl⟩
  obtain ⟨g, hg⟩ : ∃ z, lenTo L j = z := ⟨_, rfl⟩
  rw [hs] at p0 p1 ia hok2 hK hf
  rw [ht] at q0 q1 ib hok2 hK hf
  rw [hg] at hK hl0 ⊢
  have HK := Lib.hid hK
  have HF := Lib.hid (show ∀ w, Calls Tryz.prog 99 #[.agg #[.int .i64 s.x, .int .i64 s.y], .agg #[.int .i64 t.x, .int .i64 t.y]] w fun e w' => e = .returned (.tuple #[.int .i64 (far s t : Nat), .bool true]) ∧ Below w.heap.size w w' from fun w => Distance_yes s t w ia ib (of_decide_eq_true hok2).1 (of_decide_eq_true hok2).2)
  have hbl : b0 < wr.heap.size := hb
  have hkl := World.block_lt_of_cell? _ _ x1
  have hrl := World.block_lt_of_cell? _ _ x2
  obtain ⟨d, hd⟩ : ∃ z, far s t = z := ⟨_, rfl⟩
  rw [hd] at HK HF hf
  have hjn : (j : Int) + 1 < (n : Int) := by omega
  have hj0 : (0 : Int) ≤ (j : Int) := by omega
  have hjn0 : (j : Int) < (n : Int) := by omega
  have hj2 : (0 : Int) ≤ (j : Int) + 1 := by omega
  have hwj : IntKind.i64.wrap (j : Int) = (j : Int) := by rw [IntKind.wrap_i64]; omega
  have hwj1 : IntKind.i64.wrap ((j : Int) + 1 - 1) = (j : Int) := by rw [IntKind.wrap_i64]; omega
  have hj1 : (j : Int) + 1 - 1 = (j : Int) := by omega
  clear hK hS hR hok hl1 hs ht hg hd e e' hb hn hok2 ia ib
  unfold prepA
  conv => arg 2; whnf
  simp only [FS]
  go_upto_region 4 with (fail)
  go_cut [6, 7] from 17 to 25 (fun s6 s7 wx => (∃ A B : Nat, s6 = .pointer (some ⟨A, 0, none⟩) ∧ s7 = .pointer (some ⟨B, 0, none⟩) ∧ B1s A s wx ∧ B1s B t wx ∧ wr.heap.size ≤ A ∧ wr.heap.size ≤ B) ∧ Below wr.heap.size wr wx)
  case first =>
    conv => arg 2; whnf
    have HSK := Lib.hid (And.intro x1 (And.intro p0 (And.intro p1 (And.intro q0 q1))))
    go_region_held3 (fun w' => w'.cell? ⟨k, 0, none⟩ = some (.slice (some ⟨b0, o0, none⟩) n c) ∧ w'.cell? ⟨b0, o0 + j * 2, none⟩ = some (.int .i64 s.x) ∧ w'.cell? ⟨b0, o0 + j * 2 + 1, none⟩ = some (.int .i64 s.y) ∧ w'.cell? ⟨b0, o0 + (j + 1) * 2, none⟩ = some (.int .i64 t.x) ∧ w'.cell? ⟨b0, o0 + (j + 1) * 2 + 1, none⟩ = some (.int .i64 t.y)) (first | go_keep | go_goals) (fail)
    all_goals
      go_wp2_with fail
      go_meet
      refine ⟨⟨_, _, rfl, rfl, ?_, ?_, ?_, ?_⟩, ?_⟩
      all_goals first | exact (two_bS wr s t).1 | exact (two_bS wr s t).2.1 | exact (two_bS wr s t).2.2 | exact (two_bS wr t s).1 | exact (two_bS wr t s).2.1 | exact (two_bS wr t s).2.2 | exact Nat.le_refl _ | (simp; done)
  case rest =>
  obtain ⟨⟨A, B, rfl, rfl, ⟨e0, e1⟩, ⟨e2, e3⟩, hA, hB⟩, hb⟩ := hcut
  have y2 := (hb.cell (p := ⟨rb, 0, none⟩) hrl).trans x2
  have hAl := World.block_lt_of_cell? _ _ e0
  have hBl := World.block_lt_of_cell? _ _ e2
  have hz := hb.size
  have HB := Lib.hid hb
  clear hb x1 x2 p0 p1 q0 q1
  go_wp2_with fail
  conv => arg 2; whnf
  go_wp2_with fail
  refine (HF.out _).mono ?_
  rintro e w2 ⟨rfl, hb2⟩
  have e0 := (hb2.cell (p := ⟨A, 0, none⟩) hAl).trans e0
  have e1 := (hb2.cell (p := ⟨A, 1, none⟩) hAl).trans e1
  have e2 := (hb2.cell (p := ⟨B, 0, none⟩) hBl).trans e2
  have e3 := (hb2.cell (p := ⟨B, 1, none⟩) hBl).trans e3
  have y2 := (hb2.cell (p := ⟨rb, 0, none⟩) (show rb < wc.heap.size by omega)).trans y2
  have hz2 := hb2.size
  have hw : IntKind.i64.wrap ((g : Int) + (d : Int)) = ((g + d : Nat) : Int) := by rw [IntKind.wrap_i64]; push_cast; omega
  have HB2 := Lib.hid (HB.out.trans (hb2.mono hz))
  have hAl2 : A < w2.heap.size := by omega
  have hBl2 : B < w2.heap.size := by omega
  clear hb2
  go_wp2
  conv => arg 2; whnf
  go_wp2_with fail
  conv => arg 2; whnf
  go_wp2_with fail
  conv => arg 2; whnf
  go_wp2_with fail
  have hbe := (Below.refl w2.heap.size w2).alloc (Nat.le_refl _) (.cells #[.int .i64 r, .int .i64 j, .int .i64 s.x, .int .i64 s.y, .int .i64 t.x, .int .i64 t.y, .int .i64 g, .int .i64 ((g : Int) + (d : Int)), .slice none 0 0, .int .i64 (min s.x t.x), .int .i64 (min s.y t.y), .int .i64 (max s.x t.x), .int .i64 (max s.y t.y)] 98)
  refine HK.out _ _ A B w2.heap.size rfl ⟨(hbe.cell (p := ⟨A, 0, none⟩) hAl2).trans e0, (hbe.cell (p := ⟨A, 1, none⟩) hAl2).trans e1⟩ ⟨(hbe.cell (p := ⟨B, 0, none⟩) hBl2).trans e2, (hbe.cell (p := ⟨B, 1, none⟩) hBl2).trans e3⟩ ?_ hA hB (by omega) (by omega) (by omega) (by simp) (HB2.out.trans (hbe.mono HB2.out.size))
  intro i q hq
  refine (cell_new1 w2 _ 98 i).trans ?_
  rw [← hq, ← List.getElem?_toArray]
  push_cast
  rfl
end Go.Proofs.YtekambdnmaompaaGreat.SW

namespace Go.Proofs.YtekambdnmaompaaGreat.SW
set_option linter.unusedVariables false
set_option linter.unusedSimpArgs false
open Go.RowKit

theorem allR_in {l : List S} (h : allR l) : ∀ s ∈ l, inR s := fun s hs => by
  obtain ⟨i, hi, rfl⟩ := List.getElem_of_mem hs
  have := h i hi
  rw [sAt_eq hi] at this
  exact this
theorem isBend_any (b0 o0 c n i : Nat) (l : List S) (w : World) (hl : Sl w w.heap.size 2 CS (some ⟨b0, o0, none⟩) l) (hR : allR l) (hn : l.length = n) (hi : i < n) (hn2 : n ≤ 42) :
    Calls Tryz.prog 100 #[.slice (some ⟨b0, o0, none⟩) n c, .int .i64 (i : Int)] w fun e w' => e = .returned (.bool (isBendB l i)) ∧ Below w.heap.size w w' := by
  by_cases h : i ≠ 0 ∧ i + 1 < n
  · exact isBend_in b0 o0 c n i l w hl (allR_in hR) hn h.1 h.2 (by omega)
  · exact isBend_end _ c n i l w hn (by omega) (by omega)
theorem C13.keep {T : Nat} {s : Swp} {v : Value} {w w' : World} (h : C13 T s v w) (hk : ∀ i z, w.cell? ⟨T, i, none⟩ = some z → w'.cell? ⟨T, i, none⟩ = some z) : C13 T s v w' := fun i q hq => hk i q (h i q hq)
theorem C13.set {T : Nat} {s : Swp} {v v' : Value} {w : World} (h : C13 T s v w) : C13 T s v' (w.setCell ⟨T, 8, none⟩ v') := by
  intro i q hq
  have h8 := h 8 _ rfl
  by_cases e : i = 8
  · subst e
    have : v' = q := by simpa using hq
    subst this
    simp [go_sem, h8]
  · have hq' : ([.int .i64 s.rail, .int .i64 s.seg, .int .i64 s.a.x, .int .i64 s.a.y, .int .i64 s.b.x, .int .i64 s.b.y, .int .i64 s.bg, .int .i64 s.en, v, .int .i64 (min s.a.x s.b.x), .int .i64 (min s.a.y s.b.y), .int .i64 (max s.a.x s.b.x), .int .i64 (max s.a.y s.b.y)] : List Value)[i]? = some q := by
      rw [← hq]
      rcases Nat.lt_or_ge i 13 with hi | hi
      · have : i = 0 ∨ i = 1 ∨ i = 2 ∨ i = 3 ∨ i = 4 ∨ i = 5 ∨ i = 6 ∨ i = 7 ∨ i = 9 ∨ i = 10 ∨ i = 11 ∨ i = 12 := by omega
        rcases this with rfl | rfl | rfl | rfl | rfl | rfl | rfl | rfl | rfl | rfl | rfl | rfl <;> rfl
      · rw [List.getElem?_eq_none (by simpa using hi), List.getElem?_eq_none (by simpa using hi)]
    have := h i q hq'
    simp [go_sem, this, e]

set_option maxRecDepth 100000 in
set_option maxHeartbeats 4000000 in
theorem bend1_wp (l k rb j c n b0 o0 A B T : Nat) (L : List S) (wr : World) (bg : Int) (t : S) (bs : List S) (v : Value) (sw : Swp) (base : Nat) (u : Nat → Value) (K : Act → World → Prop) (Q : Exit → Act → World → Prop)
    (x1 : wr.cell? ⟨k, 0, none⟩ = some (.slice (some ⟨b0, o0, none⟩) n c))
    (hS : Sl wr wr.heap.size 2 CS (some ⟨b0, o0, none⟩) L) (hn : L.length = n) (hn2 : n ≤ 42) (hj : j + 1 < n) (hR : allR L)
    (hT : C13 T sw v wr) (hv : Own wr base 82 2 fS v bs) (hbs : bs.length ≤ 1) (hA : B1s A t wr) (hAT : A ≠ T) (hTl : T < base) (hAl : A < base) (hbw : base ≤ wr.heap.size) (hfr : wr.frozen? ⟨T, 8, none⟩ = false)
    (hK : ∀ a' w' v', a' = FS l k rb j bg (.pointer (some ⟨A, 0, none⟩)) (.pointer (some ⟨B, 0, none⟩)) (.pointer (some ⟨T, 0, none⟩)) (fun i => a'.tmps.getD i undef) →
      C13 T sw v' w' → Own w' base 82 2 fS v' (bs ++ if isBendB L (j) then [t] else []) → w'.frozen? ⟨T, 8, none⟩ = false → Below T wr w' → (∀ q, q.block < base → q.block ≠ T → ∀ z, wr.cell? q = some z → w'.cell? q = some z) → K a' w') :
    Code.wp Tryz.prog (sqL c9) (Exit.then K Q) (FS l k rb j bg (.pointer (some ⟨A, 0, none⟩)) (.pointer (some ⟨B, 0, none⟩)) (.pointer (some ⟨T, 0, none⟩)) u) wr := by
  obtain ⟨i0, hi, hz0, hz1, hz2⟩ := info_parts info82
  have HB := Lib.hid (show Calls Tryz.prog 100 #[.slice (some ⟨b0, o0, none⟩) n c, .int .i64 (j : Int)] wr fun e w' => e = .returned (.bool (isBendB L (j))) ∧ Below wr.heap.size wr w' from isBend_any b0 o0 c n (j) L wr hS hR hn (by omega) hn2)
  have HK := Lib.hid hK
  obtain ⟨e0, e1⟩ := hA
  obtain ⟨Av, cv, rfl, hcv1, hcv2, _⟩ := hv.form
  have t8 := hT 8 _ rfl
  have HT := Lib.hid hT
  have hAB := Lib.hid hAT
  have HV := Lib.hid hv
  have hTw := World.block_lt_of_cell? _ _ t8
  have hAw := World.block_lt_of_cell? _ _ e0
  have hj0 : (0 : Int) ≤ (j : Int) := by omega
  have hwj : IntKind.i64.wrap (j : Int) = (j : Int) := by rw [IntKind.wrap_i64]; omega
  have hwj1 : IntKind.i64.wrap ((j : Int) + 1 - 1) = (j : Int) := by rw [IntKind.wrap_i64]; omega
  clear hK hT hv hS hR hn
  conv => arg 2; whnf
  simp only [FS]
  obtain ⟨bb, hbb⟩ : ∃ z, isBendB L (j) = z := ⟨_, rfl⟩
  rw [hbb] at HB HK
  cases bb with
  | false =>
    go_wp2_with fail
    refine HB.out.mono ?_
    rintro e w2 ⟨rfl, hb2⟩
    have HB2 := Lib.hid hb2
    clear hb2
    go_wp2
    refine HK.out _ _ _ rfl (HT.out.keep fun i z h => (HB2.out.cell hTw).trans h) (by simpa using HV.out.below HB2.out (Nat.le_refl _)) ((HB2.out.frozen (p := ⟨T, 8, none⟩) hTw).trans hfr) (HB2.out.mono (by omega)) (fun q hq _ z h => (HB2.out.cell (by omega)).trans h)
  | true =>
    go_wp2_with fail
    refine HB.out.mono ?_
    rintro e w2 ⟨rfl, hb2⟩
    have e0 := (hb2.cell (p := ⟨A, 0, none⟩) hAw).trans e0
    have e1 := (hb2.cell (p := ⟨A, 1, none⟩) hAw).trans e1
    have t8 := (hb2.cell (p := ⟨T, 8, none⟩) hTw).trans t8
    have hzw := hb2.size
    have hfr2 := (hb2.frozen (p := ⟨T, 8, none⟩) hTw).trans hfr
    have HB2 := Lib.hid hb2
    have hv2 := HV.out.below hb2 (Nat.le_refl _)
    have HV2 := Lib.hid hv2
    clear hb2 hv2
    go_wp2_with (at_builtin; go_must (refine wpList_app _ rfl (.tmp 72) (.tmp 74) _ rfl base 82 i0 _ 2 16 Tryz.underlying61 hi hz0 hz1 hz2 rfl (by omega) fS_len fS_one (.slice Av bs.length cv) _ rfl (HV2.out.alloc _) _ _ [t] 1 rfl (Sl.new _ _ t _ rfl) (by simp [maxLen]; omega) (by simp; omega) (by simp; omega) (fun _ => .inr ⟨_, rfl⟩) ?_)
                 intro v1 w1 o1 gr1 at1 ne1
                 have hb1 := (Below.refl base _).grown gr1 (by simp; omega) (fun k hk => (HV2.out.lt k hk).1)
                 have t81 := (hb1.cell (p := ⟨T, 8, none⟩) hTl).trans (((Below.refl w2.heap.size w2).alloc (Nat.le_refl _) _).cell (p := ⟨T, 8, none⟩) (by simp; omega) |>.trans t8)
                 have hbx := (Below.refl w2.heap.size w2).alloc (Nat.le_refl _) (.cells #[.int .i64 t.x, .int .i64 t.y] 82)
                 have f81 := (hb1.frozen (p := ⟨T, 8, none⟩) hTl).trans ((hbx.frozen (p := ⟨T, 8, none⟩) (by simp; omega)).trans hfr2)
                 obtain ⟨A1, c1, rfl, _, _, _⟩ := o1.form)
    have hv1 : Own (w1.setCell ⟨T, 8, none⟩ (.slice A1 (bs.length + 1) c1)) base 82 2 fS (.slice A1 (bs.length + 1) c1) (bs ++ [t]) := by
      have o1' := o1.of_blocks (w' := w1.setCell ⟨T, 8, none⟩ (.slice A1 (bs.length + 1) c1)) (fun k hk => Below.heap_setCell _ _ _ k (by have := (o1.lt k hk).1; show k ≠ T; omega))
      simpa using o1'
    have hbx := (Below.refl w2.heap.size w2).alloc (Nat.le_refl _) (.cells #[.int .i64 t.x, .int .i64 t.y] 82)
    have hcw : ∀ q : Addr, q.block < base → ∀ z, wr.cell? q = some z → w1.cell? q = some z := fun q hq z h => (hb1.cell hq).trans ((hbx.cell (by omega)).trans ((HB2.out.cell (by omega)).trans h))
    have hbT : Below T wr w1 := ((HB2.out.mono (by omega)).trans (hbx.mono (by omega))).trans (hb1.mono (by omega))
    refine HK.out _ _ _ rfl (C13.set (HT.out.keep fun i z h => hcw _ hTl z h)) (by simpa using hv1) (by rw [World.frozen?_setCell]; exact f81) (hbT.setCell (Nat.le_refl _) _) (fun q hq hne z h => (World.cell?_setCell_far _ _ _ _ (Ne.symm hne)).trans (hcw q hq z h))
set_option maxRecDepth 100000 in
set_option maxHeartbeats 4000000 in
theorem bend2_wp (l k rb j c n b0 o0 A B T : Nat) (L : List S) (wr : World) (bg : Int) (t : S) (bs : List S) (v : Value) (sw : Swp) (base : Nat) (u : Nat → Value) (K : Act → World → Prop) (Q : Exit → Act → World → Prop)
    (x1 : wr.cell? ⟨k, 0, none⟩ = some (.slice (some ⟨b0, o0, none⟩) n c))
    (hS : Sl wr wr.heap.size 2 CS (some ⟨b0, o0, none⟩) L) (hn : L.length = n) (hn2 : n ≤ 42) (hj : j + 1 < n) (hR : allR L)
    (hT : C13 T sw v wr) (hv : Own wr base 82 2 fS v bs) (hbs : bs.length ≤ 1) (hA : B1s B t wr) (hAT : B ≠ T) (hTl : T < base) (hAl : B < base) (hbw : base ≤ wr.heap.size) (hfr : wr.frozen? ⟨T, 8, none⟩ = false)
    (hK : ∀ a' w' v', a' = FS l k rb j bg (.pointer (some ⟨A, 0, none⟩)) (.pointer (some ⟨B, 0, none⟩)) (.pointer (some ⟨T, 0, none⟩)) (fun i => a'.tmps.getD i undef) →
      C13 T sw v' w' → Own w' base 82 2 fS v' (bs ++ if isBendB L (j + 1) then [t] else []) → w'.frozen? ⟨T, 8, none⟩ = false → Below T wr w' → (∀ q, q.block < base → q.block ≠ T → ∀ z, wr.cell? q = some z → w'.cell? q = some z) → K a' w') :
    Code.wp Tryz.prog (sqL (sqR c9)) (Exit.then K Q) (FS l k rb j bg (.pointer (some ⟨A, 0, none⟩)) (.pointer (some ⟨B, 0, none⟩)) (.pointer (some ⟨T, 0, none⟩)) u) wr := by
  obtain ⟨i0, hi, hz0, hz1, hz2⟩ := info_parts info82
  have HB := Lib.hid (show Calls Tryz.prog 100 #[.slice (some ⟨b0, o0, none⟩) n c, .int .i64 ((j : Int) + 1)] wr fun e w' => e = .returned (.bool (isBendB L (j + 1))) ∧ Below wr.heap.size wr w' from isBend_any b0 o0 c n (j + 1) L wr hS hR hn (by omega) hn2)
  have HK := Lib.hid hK
  obtain ⟨e0, e1⟩ := hA
  obtain ⟨Av, cv, rfl, hcv1, hcv2, _⟩ := hv.form
  have t8 := hT 8 _ rfl
  have HT := Lib.hid hT
  have hAB := Lib.hid hAT
  have HV := Lib.hid hv
  have hTw := World.block_lt_of_cell? _ _ t8
  have hAw := World.block_lt_of_cell? _ _ e0
  have hj0 : (0 : Int) ≤ (j : Int) := by omega
  have hwj : IntKind.i64.wrap (j : Int) = (j : Int) := by rw [IntKind.wrap_i64]; omega
  have hwj1 : IntKind.i64.wrap ((j : Int) + 1 - 1) = (j : Int) := by rw [IntKind.wrap_i64]; omega
  clear hK hT hv hS hR hn
  conv => arg 2; whnf
  simp only [FS]
  obtain ⟨bb, hbb⟩ : ∃ z, isBendB L (j + 1) = z := ⟨_, rfl⟩
  rw [hbb] at HB HK
  cases bb with
  | false =>
    go_wp2_with fail
    refine HB.out.mono ?_
    rintro e w2 ⟨rfl, hb2⟩
    have HB2 := Lib.hid hb2
    clear hb2
    go_wp2
    refine HK.out _ _ _ rfl (HT.out.keep fun i z h => (HB2.out.cell hTw).trans h) (by simpa using HV.out.below HB2.out (Nat.le_refl _)) ((HB2.out.frozen (p := ⟨T, 8, none⟩) hTw).trans hfr) (HB2.out.mono (by omega)) (fun q hq _ z h => (HB2.out.cell (by omega)).trans h)
  | true =>
    go_wp2_with fail
    refine HB.out.mono ?_
    rintro e w2 ⟨rfl, hb2⟩
    have e0 := (hb2.cell (p := ⟨B, 0, none⟩) hAw).trans e0
    have e1 := (hb2.cell (p := ⟨B, 1, none⟩) hAw).trans e1
    have t8 := (hb2.cell (p := ⟨T, 8, none⟩) hTw).trans t8
    have hzw := hb2.size
    have hfr2 := (hb2.frozen (p := ⟨T, 8, none⟩) hTw).trans hfr
    have HB2 := Lib.hid hb2
    have hv2 := HV.out.below hb2 (Nat.le_refl _)
    have HV2 := Lib.hid hv2
    clear hb2 hv2
    go_wp2_with (at_builtin; go_must (refine wpList_app _ rfl (.tmp 81) (.tmp 83) _ rfl base 82 i0 _ 2 16 Tryz.underlying61 hi hz0 hz1 hz2 rfl (by omega) fS_len fS_one (.slice Av bs.length cv) _ rfl (HV2.out.alloc _) _ _ [t] 1 rfl (Sl.new _ _ t _ rfl) (by simp [maxLen]; omega) (by simp; omega) (by simp; omega) (fun _ => .inr ⟨_, rfl⟩) ?_)
                 intro v1 w1 o1 gr1 at1 ne1
                 have hb1 := (Below.refl base _).grown gr1 (by simp; omega) (fun k hk => (HV2.out.lt k hk).1)
                 have t81 := (hb1.cell (p := ⟨T, 8, none⟩) hTl).trans (((Below.refl w2.heap.size w2).alloc (Nat.le_refl _) _).cell (p := ⟨T, 8, none⟩) (by simp; omega) |>.trans t8)
                 have hbx := (Below.refl w2.heap.size w2).alloc (Nat.le_refl _) (.cells #[.int .i64 t.x, .int .i64 t.y] 82)
                 have f81 := (hb1.frozen (p := ⟨T, 8, none⟩) hTl).trans ((hbx.frozen (p := ⟨T, 8, none⟩) (by simp; omega)).trans hfr2)
                 obtain ⟨A1, c1, rfl, _, _, _⟩ := o1.form)
    have hv1 : Own (w1.setCell ⟨T, 8, none⟩ (.slice A1 (bs.length + 1) c1)) base 82 2 fS (.slice A1 (bs.length + 1) c1) (bs ++ [t]) := by
      have o1' := o1.of_blocks (w' := w1.setCell ⟨T, 8, none⟩ (.slice A1 (bs.length + 1) c1)) (fun k hk => Below.heap_setCell _ _ _ k (by have := (o1.lt k hk).1; show k ≠ T; omega))
      simpa using o1'
    have hbx := (Below.refl w2.heap.size w2).alloc (Nat.le_refl _) (.cells #[.int .i64 t.x, .int .i64 t.y] 82)
    have hcw : ∀ q : Addr, q.block < base → ∀ z, wr.cell? q = some z → w1.cell? q = some z := fun q hq z h => (hb1.cell hq).trans ((hbx.cell (by omega)).trans ((HB2.out.cell (by omega)).trans h))
    have hbT : Below T wr w1 := ((HB2.out.mono (by omega)).trans (hbx.mono (by omega))).trans (hb1.mono (by omega))
    refine HK.out _ _ _ rfl (C13.set (HT.out.keep fun i z h => hcw _ hTl z h)) (by simpa using hv1) (by rw [World.frozen?_setCell]; exact f81) (hbT.setCell (Nat.le_refl _) _) (fun q hq hne z h => (World.cell?_setCell_far _ _ _ _ (Ne.symm hne)).trans (hcw q hq z h))
end Go.Proofs.YtekambdnmaompaaGreat.SW

namespace Go.Proofs.YtekambdnmaompaaGreat.SW
set_option linter.unusedVariables false
set_option linter.unusedSimpArgs false
open Go.RowKit Go.Shelf Go.Lib
attribute [local go_sem] Oper.semAt_some

noncomputable def c13 : Code := sqR (sqR c9)
theorem at_fs {code : Code} {Q : Exit → Act → World → Prop} {a : Act} {w : World} (l k rb j : Nat) (bg : Int) (v6 v7 v10 : Value) (e : a = FS l k rb j bg v6 v7 v10 (fun i => a.tmps.getD i undef)) (h : ∀ u, code.wp Tryz.prog Q (FS l k rb j bg v6 v7 v10 u) w) : code.wp Tryz.prog Q a w := by
  rw [e]; exact h _
set_option maxRecDepth 100000 in
set_option maxHeartbeats 4000000 in
theorem strips_seq (d : Nat) (hd : 3 ≤ d) (nb k rb b0 o0 c r n : Nat) (L : List S) (w : World) (hSt : StAt nb k rb (some ⟨b0, o0, none⟩) c r L w) (hn : L.length = n) (hl : 2 ≤ n) (hn2 : n ≤ 42) (hR : allR L) (hok : okL L = true) :
    SeqD Fence.wide d Tryz.prog 98 #[.pointer (some ⟨k, 0, none⟩), .pointer (some ⟨rb, 0, none⟩)] (fun x : SwM => #[.agg (fSw x).toArray]) (KT nb nb) (DSw nb) (fun xs => xs.map (·.s) = alongL r L) (n - 1) w := by
  intro l J W hW hJ hY h0
  have hne : L ≠ [] := by intro h; subst h; simp at hn; omega
  have hSW := hSt.below hne hW (Nat.le_refl _)
  clear hSt
  refine callsIn_of_wp Tryz.func98 rfl trivial ?_ rfl
  simp only [Tryz.ntmps98, List.size_toArray, List.length_cons, List.length_nil, Nat.reduceAdd, Nat.reduceSub, Array.replicate_succ, Array.replicate_zero, List.push_toArray, List.append_toArray, List.nil_append, List.cons_append]
  gi_wp2
  refine wpIn_loop (fun a W' => ∃ (j : Nat) (xs : List SwM) (v6 v7 v10 : Value), a = FS l k rb j (lenTo L j : Nat) v6 v7 v10 (fun i => a.tmps.getD i undef) ∧ j + 1 ≤ n ∧ xs.map (·.s) = (alongL r L).take j ∧ J xs W' ∧ StAt nb k rb (some ⟨b0, o0, none⟩) c r L W') (fun a _ => n - (intOf (a.tmps.getD 5 undef)).toNat) ?atStart ?round
  case atStart => exact ⟨0, [], _, _, _, rfl, by omega, rfl, h0, hSW⟩
  case round =>
    rintro a W1 ⟨j, xs, v6, v7, v10, ha, hj, hxs, hJ1, hS1⟩
    obtain ⟨u, rfl⟩ : ∃ u, a = FS l k rb j (lenTo L j : Nat) v6 v7 v10 u := ⟨_, ha⟩
    clear ha hSW h0
    have x1 := hS1.x1
    rw [hn] at x1
    have HS1 := Lib.hid hS1
    have HX := Lib.hid (And.intro hxs hJ1)
    clear hxs hJ1 hS1
    simp only [FS]
    by_cases hlt : j + 1 < n
    · have hlt' : (j : Int) + 1 < (n : Int) := by omega
      change Code.wpIn Fence.wide d Tryz.prog (.seq (sqL b98) (.seq (.block 1 (prepA (prepB c13))) (sqR (sqR b98)))) _ _ _
      gi_wp2
      conv => arg 4; whnf
      gi_wp2
      refine wpIn_wide.2 ?_
      refine at_fs l k rb j (lenTo L j : Nat) v6 v7 v10 rfl fun u => ?_
      refine prepA_wp l k rb j r c n b0 o0 L W1 v6 v7 v10 u _ _ x1 HS1.out.x2 HS1.out.sl hn hn2 hlt hR hok ?_
      rintro a2 W2 A B T ha2 hA hB hT hA1 hB1 hAT hBT hT1 hfr hb2
      obtain ⟨u2, rfl⟩ : ∃ u2, a2 = FS l k rb j (lenTo L j : Nat) (.pointer (some ⟨A, 0, none⟩)) (.pointer (some ⟨B, 0, none⟩)) (.pointer (some ⟨T, 0, none⟩)) u2 := ⟨_, ha2⟩
      clear ha2 x1
      have hTl := World.block_lt_of_cell? W2 _ (hT 8 _ rfl)
      have hAl := World.block_lt_of_cell? W2 _ hA.1
      have hBl := World.block_lt_of_cell? W2 _ hB.1
      have hS2 := HS1.out.below hne hb2 (Nat.le_refl _)
      have y2 := hS2.x1
      rw [hn] at y2
      obtain ⟨base, hbase⟩ : ∃ z, W2.heap.size = z := ⟨_, rfl⟩
      unfold prepB
      go_wp2
      refine bend1_wp l k rb j c n b0 o0 A B T L W2 _ (sAt L j) [] (.slice none 0 0) _ base u2 _ _ y2 hS2.sl hn hn2 hlt hR hT (Own.nil _ _ _ _ _) (by simp) hA hAT (by omega) (by omega) (by omega) hfr ?_
      rintro a3 W3 v3 ha3 hT3 hv3 hfr3 hb3 hc3
      obtain ⟨u3, rfl⟩ : ∃ u3, a3 = FS l k rb j (lenTo L j : Nat) (.pointer (some ⟨A, 0, none⟩)) (.pointer (some ⟨B, 0, none⟩)) (.pointer (some ⟨T, 0, none⟩)) u3 := ⟨_, ha3⟩
      clear ha3
      have hb13 := hb2.trans (hb3.mono hT1)
      have hS3 := HS1.out.below hne hb13 (Nat.le_refl _)
      have y3 := hS3.x1
      rw [hn] at y3
      have hB3 : B1s B (sAt L (j + 1)) W3 := ⟨hc3 ⟨B, 0, none⟩ (by show B < base; omega) hBT _ hB.1, hc3 ⟨B, 1, none⟩ (by show B < base; omega) hBT _ hB.2⟩
      have hz3 := hb3.size
      go_wp2
      refine bend2_wp l k rb j c n b0 o0 A B T L W3 _ (sAt L (j + 1)) _ v3 _ base u3 _ _ y3 hS3.sl hn hn2 hlt hR hT3 hv3 (by simp; split <;> simp) hB3 hBT (by omega) (by omega) (by omega) hfr3 ?_
      rintro a4 W4 v4 ha4 hT4 hv4 hfr4 hb4 hc4
      obtain ⟨u4, rfl⟩ : ∃ u4, a4 = FS l k rb j (lenTo L j : Nat) (.pointer (some ⟨A, 0, none⟩)) (.pointer (some ⟨B, 0, none⟩)) (.pointer (some ⟨T, 0, none⟩)) u4 := ⟨_, ha4⟩
      clear ha4
      have hb14 := hb13.trans (hb4.mono hT1)
      have hS4 := HS1.out.below hne hb14 (Nat.le_refl _)
      obtain ⟨Ab, cb, rfl, hcb1, hcb2, _⟩ := hv4.form
      have c0 := hT4 0 _ rfl
      have c1 := hT4 1 _ rfl
      have c2 := hT4 2 _ rfl
      have c3 := hT4 3 _ rfl
      have c4 := hT4 4 _ rfl
      have c5 := hT4 5 _ rfl
      have c6 := hT4 6 _ rfl
      have c7 := hT4 7 _ rfl
      have c8 := hT4 8 _ rfl
      have c9 := hT4 9 _ rfl
      have c10 := hT4 10 _ rfl
      have c11 := hT4 11 _ rfl
      have c12 := hT4 12 _ rfl
      have hnt : ∀ q, W1.heap.size ≤ q → ¬ Tch nb nb W4 q := fun q hq h => by
        have := HS1.out.bd _ (Tch.of_cells (fun i => hb14.cell (p := ⟨nb, i, none⟩) HS1.out.lt.2.2) (fun i => hb14.cell (p := ⟨nb, i, none⟩) HS1.out.lt.2.2) h)
        omega
      have hD : DSw nb ⟨stripAt r L j, Ab, cb⟩ W4 := ⟨hv4.sl fS_len rfl, fun a ha => by
        subst ha
        obtain ⟨h1, h2⟩ := hv4.lt a.block rfl
        exact ⟨h2, hnt _ (by have := hb2.size; omega)⟩, ⟨hcb1, hcb2⟩, fun a ha => by
        subst ha
        have h1 := (hv4.lt a.block rfl).1
        have h2 := HS1.out.lt.2.2
        have h3 := hb2.size
        omega⟩
      have hJ4 := jbelow hJ HX.out.2 hb14
      have hlen : xs.length = j := by
        have := congrArg List.length HX.out.1
        rw [List.length_map, List.length_take, alongL_len, hn] at this
        omega
      obtain ⟨fn, tmps, assign, body, hy, hRd⟩ := hY xs ⟨stripAt r L j, Ab, cb⟩ W4 hJ4 hD (by omega)
      have hy2 : (Instr.yield l #[.agg #[.int .i64 (r : Int), .int .i64 (j : Int), .int .i64 (sAt L j).x, .int .i64 (sAt L j).y, .int .i64 (sAt L (j + 1)).x, .int .i64 (sAt L (j + 1)).y, .int .i64 (lenTo L j : Nat), .int .i64 (lenTo L (j + 1) : Nat), .slice Ab (([] ++ if isBendB L j then [sAt L j] else []) ++ if isBendB L (j + 1) then [sAt L (j + 1)] else []).length cb, .int .i64 (min (sAt L j).x (sAt L (j + 1)).x), .int .i64 (min (sAt L j).y (sAt L (j + 1)).y), .int .i64 (max (sAt L j).x (sAt L (j + 1)).x), .int .i64 (max (sAt L j).y (sAt L (j + 1)).y)]]).run Tryz.prog W4 = .ok (.round l fn tmps assign body) W4 := hy
      obtain ⟨m, hm⟩ : ∃ m, (([] ++ if isBendB L j then [sAt L j] else []) ++ if isBendB L (j + 1) then [sAt L (j + 1)] else [] : List S).length = m := ⟨_, rfl⟩
      rw [hm] at c8 hy2
      have HRD := Lib.hid (And.intro hRd (And.intro hS4 (And.intro hnt hT1)))
      have HT4 := Lib.hid hT4
      clear hm hRd hy hD hv4 hT4 hc4 hb4 hc3 hb3 hv3 hT3 hT hA hB hb2 hb13 hb14 hS2 hS3 hS4 y2 y3 hB3 hcb1 hcb2 hJ4 hnt hfr hfr3 hfr4
      go_wp2
      refine (wpIn_wide (n := d)).1 ?_
      conv => arg 4; whnf
      simp only [FS]
      gi_wp2
      refine ⟨(fun h => by cases h), HRD.out.1.mono ?_⟩
      rintro e W5 ⟨rfl, hJ5, hk5⟩
      have c7' := hk5.cell c7 (HRD.out.2.2.1 _ HRD.out.2.2.2)
      gi_wp2
      conv => arg 4; whnf
      gi_wp2
      refine ⟨⟨j + 1, xs ++ [⟨stripAt r L j, Ab, cb⟩], .pointer (some ⟨A, 0, none⟩), .pointer (some ⟨B, 0, none⟩), .pointer (some ⟨T, 0, none⟩), ?f, by omega, ?m, hJ5, HRD.out.2.1.keep hne hk5⟩, ?meas⟩
      case m =>
        have hja : j < (alongL r L).length := by rw [alongL_len, hn]; omega
        rw [List.map_append, HX.out.1, List.take_succ_eq_append_getElem hja, alongL_at hja]
        rfl
      case f => rfl
      case meas => simp [intOf, FS]; omega
    · obtain rfl : n = j + 1 := by omega
      gi_wp2
      go_end0
      refine ⟨⟨_, rfl⟩, xs, ?_, HX.out.2⟩
      rw [HX.out.1, List.take_of_length_le (by rw [alongL_len, hn]; omega)]
end Go.Proofs.YtekambdnmaompaaGreat.SW

namespace Go.Proofs.YtekambdnmaompaaGreat.SW
set_option linter.unusedVariables false
set_option linter.unusedSimpArgs false
open Go.RowKit Go.Shelf Go.Lib
attribute [local go_sem] Oper.semAt_some

theorem info98 : (Tryz.prog.info? 98).map (fun i => (i.zero, i.size, i.bytes)) = some (some (.agg #[.int .i64 0, .int .i64 0, .int .i64 0, .int .i64 0, .int .i64 0, .int .i64 0, .int .i64 0, .int .i64 0, .slice none 0 0, .int .i64 0, .int .i64 0, .int .i64 0, .int .i64 0]), 13, 120) := by kernel_rfl
/-- a turn of a block that holds no cells, and new blocks -/
theorem kt_own {nb : Nat} {W W' : World} {row : Option Nat} (hnb : nb < W.heap.size) (hbx : ∃ o : Obj, W.heap[nb]? = some o ∧ o.isCells = true) (hg : W.grownBy W' row) (hr : ∀ r, row = some r → ∃ o : Obj, W.heap[r]? = some o ∧ o.isCells = false) : KT nb nb W W' := by
  obtain ⟨ob, hob, hoc⟩ := hbx
  have hnbk : ∀ i, W'.cell? ⟨nb, i, none⟩ = W.cell? ⟨nb, i, none⟩ := fun i => World.cell?_of_block (grownBy_keeps_cells hg hr hob hoc)
  have hsz := hg.size
  refine ⟨hsz, fun k c t f hk _ => (grownBy_keeps_cells hg hr hk rfl).trans hk, fun k hk => .inl (Tch.of_cells hnbk hnbk hk), fun hb k hk => ?_⟩
  have := hb k (Tch.of_cells hnbk hnbk hk)
  omega
/-- what the loop of along holds -/
structure AI (nb base : Nat) (w1 : World) (pre : List SwM) (W : World) : Prop where
  ex : ∃ v, W.heap[nb]? = some (.cells #[v] 95 (0, 0)) ∧ Own W base 98 13 fSw v pre ∧ (∀ j, Tch nb nb W j → j = nb ∨ v.ownBlock = some j)
  ds : ∀ x ∈ pre, DSw nb x W
  bl : Below nb w1 W
  sz : base ≤ W.heap.size ∧ nb < base
theorem AI.own {nb base B : Nat} {w1 : World} (hw : nb ≤ w1.heap.size) (hB : nb ≤ B) : OwnFrom B (AI nb base w1) := by
  rintro pre W W' row ⟨⟨v, hv, ho, ht⟩, hd, hb, hs⟩ hg hrB
  have hr : ∀ r, row = some r → ∃ o : Obj, W.heap[r]? = some o ∧ o.isCells = false := fun r e => (hrB r e).2
  have hnb : nb < W.heap.size := by omega
  have hk := kt_own hnb ⟨_, hv, rfl⟩ hg hr
  have hcl : ∀ i, W'.cell? ⟨nb, i, none⟩ = W.cell? ⟨nb, i, none⟩ := fun i => World.cell?_of_block (grownBy_keeps_cells hg hr hv rfl)
  refine ⟨⟨v, (grownBy_keeps_cells hg hr hv rfl).trans hv, ?_, fun j hj => ht j (Tch.of_cells hcl hcl hj)⟩, fun x hx => (hd x hx).keep hk, ?_, ?_, hs.2⟩
  · refine ho.of_blocks fun k hk2 => ?_
    rcases ho.2 with ⟨rfl, _⟩ | ⟨g, cap, cur, rfl, _, hg2, _⟩
    · cases hk2
    · cases hk2; exact grownBy_keeps_cells hg hr hg2 rfl
  · exact hb.grown hg (Nat.le_trans hw hb.size) fun k hk => Nat.le_trans hB (hrB k hk).1
  · have := hg.size; omega
end Go.Proofs.YtekambdnmaompaaGreat.SW

namespace Go.Proofs.YtekambdnmaompaaGreat.SW
set_option linter.unusedVariables false
set_option linter.unusedSimpArgs false
open Go.RowKit Go.Shelf Go.Lib
attribute [local go_sem] Oper.semAt_some

theorem tch_one {nb : Nat} {W : World} {v : Value} (h : W.heap[nb]? = some (.cells #[v] 95 (0, 0))) : ∀ j, Tch nb nb W j → j = nb ∨ v.ownBlock = some j := by
  rintro j (rfl | rfl | ⟨b, i, u, hb, hc, hu⟩)
  · exact .inl rfl
  · exact .inl rfl
  · obtain rfl : b = nb := by rcases hb with h | h <;> exact h
    rw [cell_of_row _ _ i _ _ _ h] at hc
    cases i with
    | zero => right; simp at hc; rw [hc]; exact hu
    | succ i => simp at hc
/-- the frame of along, in a round -/
def FA (xb bt : Nat) (u : Nat → Value) : Act := ⟨#[u 0, u 1, u 2, u 3, u 4, .pointer (some ⟨bt, 0, none⟩), .pointer (some ⟨xb, 0, none⟩), u 7, u 8, u 9, u 10, u 11, u 12, u 13, u 14, u 15], []⟩
/-- between the loop variable's box and the body -/
structure AB (nb base N : Nat) (w1 : World) (t : List SwM × SwM × Act) (W : World) : Prop where
  ai : AI nb base w1 t.1 W
  ds : DSw nb t.2.1 W
  bx : ∃ xb : Nat, W.heap[xb]? = some (.cells (fSw t.2.1).toArray 98 (0, 0)) ∧ t.2.2 = FA xb nb (fun i => t.2.2.tmps.getD i undef)
theorem AB.own {nb base N B : Nat} {w1 : World} (hw : nb ≤ w1.heap.size) (hB : nb ≤ B) : OwnFrom B (AB nb base N w1) := by
  rintro ⟨pre, x, a⟩ W W' row ⟨ha, hd, xb, hx, e⟩ hg hrB
  have hr : ∀ r, row = some r → ∃ o : Obj, W.heap[r]? = some o ∧ o.isCells = false := fun r e => (hrB r e).2
  obtain ⟨v, hv, _, _⟩ := ha.ex
  have hnb : nb < W.heap.size := by have := ha.sz; omega
  exact ⟨AI.own hw hB pre W W' row ha hg hrB, hd.keep (kt_own hnb ⟨_, hv, rfl⟩ hg hr), xb, (grownBy_keeps_cells hg hr hx rfl).trans hx, e⟩
/-- the marks are closed, one after another -/
theorem leaves_mks {P : Program} {fn : Func} {tmps : Array Value} {R : Ending → World → Prop} {F : Fence} {n : Nat} :
    ∀ (Ds : List Nat) (W : World), Ds.Nodup → (∀ D ∈ Ds, W.heap[D]? = some (.deferred (some []))) →
      (∀ W', (∀ k, (∀ D ∈ Ds, k ≠ D) → W'.heap[k]? = W.heap[k]?) → W'.heap.size = W.heap.size → W'.os = W.os → W'.tape = W.tape → W'.output = W.output → LeavesInM F n P fn tmps R [] .returning W') →
      LeavesInM F n P fn tmps R (Ds.map fun D => { target := .collected D, args := #[] }) .returning W := by
  intro Ds
  induction Ds with
  | nil => intro W _ _ h; exact h W (fun _ _ => rfl) rfl rfl rfl rfl
  | cons D Ds ih =>
    intro W hn hd h
    have hD := hd D (by simp)
    rw [List.nodup_cons] at hn
    refine ⟨by simp, .inl ⟨_, _, rfl, run_takeDeferred hD, ih _ hn.2 (fun E hE => ?_) fun W' hb hs h1 h2 h3 => ?_⟩⟩
    · exact (World.putObj_heap_other (by rintro rfl; exact hn.1 hE)).trans (hd E (List.mem_cons_of_mem _ hE))
    · refine h W' (fun k hk => (hb k fun E hE => hk E (List.mem_cons_of_mem _ hE)).trans (World.putObj_heap_other (hk D (by simp)))) (by simpa using hs) h1 h2 h3
theorem AI.push {nb base : Nat} {w1 W w4 : World} {pre : List SwM} {x : SwM} {v v' : Value} {o : Obj} (h : AI nb base w1 pre W) (hd : DSw nb x W) (hv : W.heap[nb]? = some (.cells #[v] 95 (0, 0))) (hown : Own W base 98 13 fSw v pre)
    (htc : ∀ j, Tch nb nb W j → j = nb ∨ v.ownBlock = some j) (hg : (W.alloc o).grownBy w4 v.ownBlock) (ho : Own w4 base 98 13 fSw v' (pre ++ [x])) (hw : v'.ownBlock = v.ownBlock ∨ v'.ownBlock = some (W.alloc o).heap.size) :
    KeepsOthers W (w4.setCell ⟨nb, 0, none⟩ v') ∧ KT nb nb W (w4.setCell ⟨nb, 0, none⟩ v') ∧ AI nb base w1 (pre ++ [x]) (w4.setCell ⟨nb, 0, none⟩ v') := by
  obtain ⟨hsz, hsz2⟩ := h.sz
  have hnb : nb < W.heap.size := by omega
  have hvl := hown.lt
  have hal : ∀ k, k < W.heap.size → (W.alloc o).heap[k]? = W.heap[k]? := fun k hk => Below.heap_alloc _ _ _ hk
  have hz : (W.alloc o).heap.size = W.heap.size + 1 := by simp
  have hz4 := hg.size
  have hnr : some nb ≠ v.ownBlock := fun e => by have := (hvl nb e.symm).1; omega
  have h4 : ∀ k, k < W.heap.size → some k ≠ v.ownBlock → w4.heap[k]? = W.heap[k]? := fun k hk hne => (hg.block k (by omega) hne).trans (hal k hk)
  have hother : ∀ k, k ≠ nb → (w4.setCell ⟨nb, 0, none⟩ v').heap[k]? = w4.heap[k]? := fun k hk => Below.heap_setCell _ _ _ k hk
  have hs5 : (w4.setCell ⟨nb, 0, none⟩ v').heap.size = w4.heap.size := World.size_setCell _ _ _
  have hn5 : (w4.setCell ⟨nb, 0, none⟩ v').heap[nb]? = some (.cells #[v'] 95 (0, 0)) := by
    rw [heap_set_same _ ((h4 nb hnb hnr).trans hv)]; simp
  have ht5 : ∀ j, Tch nb nb (w4.setCell ⟨nb, 0, none⟩ v') j → j = nb ∨ v'.ownBlock = some j := tch_one hn5
  have tv : ∀ j, v.ownBlock = some j → Tch nb nb W j := fun j hj => .inr (.inr ⟨nb, 0, v, .inl rfl, cell_of_row _ _ 0 _ _ _ hv, hj⟩)
  have hko : KeepsOthers W (w4.setCell ⟨nb, 0, none⟩ v') := (KeepsOthers.alloc _ _).trans ((KeepsOthers.of_grownBy hg fun j o' hj ho' => by
    rcases (hown.alloc o).2 with ⟨rfl, _⟩ | ⟨g, cap, cur, rfl, _, hg2, _⟩
    · cases hj
    · cases hj; rw [hg2] at ho'; cases ho'; rfl).trans (KeepsOthers.setCell _ _ _))
  have hkt : KT nb nb W (w4.setCell ⟨nb, 0, none⟩ v') := by
    refine ⟨by rw [hs5]; omega, fun k c t f hk hn => ?_, fun k hk => ?_, fun hb k hk => ?_⟩
    · have hkl := (Array.getElem?_eq_some_iff.1 hk).1
      exact (hother k fun e => hn (.inl e)).trans ((h4 k hkl fun e => hn (tv k e.symm)).trans hk)
    · rcases ht5 k hk with e | e
      · exact .inl (.inl e)
      · rcases hw with h1 | h1 <;> rw [h1] at e
        · exact .inl (tv k e)
        · cases e; right; omega
    · rcases ht5 k hk with e | e
      · omega
      · have := (ho.lt k e).2; omega
  refine ⟨hko, hkt, ⟨⟨v', hn5, ho.of_blocks fun k hk => hother k fun e => by have := (ho.lt k hk).1; omega, ht5⟩, fun y hy => ?_, ?_, by omega, hsz2⟩⟩
  · rcases List.mem_append.1 hy with hy | hy
    · exact (h.ds y hy).keep hkt
    · obtain rfl := List.mem_singleton.1 hy
      exact hd.keep hkt
  · refine h.bl.trans ⟨hg.os, hg.tape, hg.output, by rw [hs5]; omega, fun k hk => (hother k (by omega)).trans (h4 k (by omega) fun e => by have := (hvl k e.symm).1; omega)⟩
set_option maxRecDepth 100000 in
set_option maxHeartbeats 4000000 in
theorem along_any (A A2 : Option Addr) (c c2 : Nat) (p : Pl) (r : Nat) (w : World) (hP : PlAt w w.heap.size A c A2 c2 p) (hr : r < p.rails.length) (h1 : nodeIx p p.rails[r].frm) (h2 : nodeIx p p.rails[r].to) (hs : p.rails[r].shape.length ≤ 40)
    (hR : allR (lineOf p p.rails[r])) (hok : okL (lineOf p p.rails[r]) = true) :
    Calls Tryz.prog 50 #[.agg #[.slice A p.nodes.length c, .slice A2 p.rails.length c2], .int .i64 r] w fun e w' =>
      ∃ (v : Value) (xs : List SwM), e = .returned v ∧ xs.map (·.s) = alongL r (lineOf p p.rails[r]) ∧ Own w' w.heap.size 98 13 fSw v xs ∧ (∀ x ∈ xs, SwIn w' x ∧ ∀ a, x.A = some a → w.heap.size ≤ a.block) ∧ Below w.heap.size w w' := by
  have hbe := (((Below.refl w.heap.size w).alloc (Nat.le_refl _) (.cells #[.slice A p.nodes.length c, .slice A2 p.rails.length c2] 25)).alloc (by simp) (.cells #[.slice none 0 0] 95))
  have HC := Lib.hid (strips_any A A2 c c2 p r _ ((hP.below hbe).more hbe.size) hr h1 h2 hs)
  have HBE := Lib.hid hbe
  have hnb0 : ((w.alloc (.cells #[.slice A p.nodes.length c, .slice A2 p.rails.length c2] 25)).alloc (.cells #[.slice none 0 0] 95)).heap[w.heap.size + 1]? = some (.cells #[.slice none 0 0] 95 (0, 0)) := by
    have := World.alloc_heap_new (w.alloc (.cells #[.slice A p.nodes.length c, .slice A2 p.rails.length c2] 25)) (.cells #[.slice none 0 0] 95 (0, 0))
    rwa [World.size_alloc] at this
  have HNB := Lib.hid hnb0
  clear hnb0
  clear hbe hP
  refine (callsIn_wide (n := 8)).1 ?_
  refine callsIn_of_wp_marks Tryz.func50 rfl trivial ?_ rfl
  simp only [Tryz.ntmps50, List.size_toArray, List.length_cons, List.length_nil, Nat.reduceAdd, Nat.reduceSub, Array.replicate_succ, Array.replicate_zero, List.push_toArray, List.append_toArray, List.nil_append, List.cons_append]
  gi_wp2
  refine ⟨trivial, ?_⟩
  refine CallsIn.mono (callsIn_wide.2 HC.out) ?_
  rintro e w1 ⟨v, k, rfl, hk1, hk2, ho, hb1, hk3, hvk⟩
  have hne : lineOf p p.rails[r] ≠ [] := by simp [lineOf]
  have hn : (lineOf p p.rails[r]).length = p.rails[r].shape.length + 2 := by simp [lineOf]
  obtain ⟨L, hL⟩ : ∃ z, lineOf p p.rails[r] = z := ⟨_, rfl⟩
  rw [hL] at ho hne hn hR hok
  have HL := Lib.hid hL
  clear hL
  obtain ⟨A', c', rfl, _, _, _⟩ := ho.form
  have hsl := ho.sl fS_len rfl
  obtain ⟨b0, o0, rfl, hb0, _⟩ := hsl hne
  have hz1 := hb1.size
  simp only [World.size_alloc] at hz1 hk2 hk3 ho hb1
  have hnb : w1.heap[w.heap.size + 1]? = some (.cells #[.slice none 0 0] 95 (0, 0)) := (hb1.block _ (by omega)).trans HNB.out
  have ht := tch_one hnb
  have ht' : ∀ j, Tch (w.heap.size + 1) (w.heap.size + 1) w1 j → j = w.heap.size + 1 := fun j hj => by
    rcases ht j hj with h | h
    · exact h
    · cases h
  have hkl := World.block_lt_of_cell? _ _ hk1
  have hSt : StAt (w.heap.size + 1) k (w.heap.size + 1 + 1 + 1) (some ⟨b0, o0, none⟩) c' r L w1 := ⟨hk1, hk2, hsl, fun h => by have := ht' _ h; omega, fun h => by have := ht' _ h; omega, fun a ha h => by
    have h2 := ht' _ h
    cases ha
    have := (ho.lt b0 rfl).1
    simp at h2
    omega, fun j hj => by have := ht' _ hj; omega⟩
  have hseq := strips_seq 7 (by omega) (w.heap.size + 1) k (w.heap.size + 1 + 1 + 1) b0 o0 c' r L.length L w1 hSt rfl (by omega) (by omega) hR hok
  have HSQ := Lib.hid hseq
  clear hseq hSt
  have hAI : AI (w.heap.size + 1) w1.heap.size w1 [] w1 := ⟨⟨_, hnb, Own.nil _ _ _ _ _, ht⟩, (fun x hx => by cases hx), Below.refl _ _, Nat.le_refl _, by omega⟩
  gi_wp2
  refine wpIn_rangeD (α := SwM) (w0 := w1) (Kp := KT (w.heap.size + 1) (w.heap.size + 1)) (D := DSw (w.heap.size + 1)) (S := fun xs => xs.map (·.s) = alongL r L) (N := L.length - 1) (gf := 98) (lb := #[.pointer (some ⟨k, 0, none⟩), .pointer (some ⟨w.heap.size + 1 + 1 + 1, 0, none⟩)]) rfl (by omega) rfl trivial (enters_of Tryz.func98 (by kernel_rfl) rfl) HSQ.out (fun h k => kt_t h k) (kt_b (by omega) (by omega)) (Below.refl _ _) (fun _ => rfl) (AI (w.heap.size + 1) w1.heap.size w1) (AI.own (by omega) (by omega)) hAI (AB (w.heap.size + 1) w1.heap.size (L.length - 1) w1) (AB.own (by omega) (by omega)) ?assign ?body ?done
  case assign =>
    intro l pre x W K hI hd hlen hK
    have hbe := (Below.refl W.heap.size W).alloc (Nat.le_refl _) (.cells (fSw x).toArray 98)
    have hnw := World.alloc_heap_new W (.cells (fSw x).toArray 98)
    have HH := Lib.hid (And.intro hI (And.intro hd (And.intro hK (And.intro hbe hnw))))
    clear hI hd hK hbe hnw
    simp only [fSw] at *
    gi_wp2
    obtain ⟨hI, hd, hK, hbe, hnw⟩ := HH.out
    have hkt : KT (w.heap.size + 1) (w.heap.size + 1) W (W.alloc _) := KT.of_below hbe (Nat.le_refl _) (by have := hI.sz; omega) (by have := hI.sz; omega)
    exact hK _ _ (KeepsOthers.alloc _ _) hkt ⟨OwnFrom.alloc (AI.own (B := w.heap.size + 1) (by omega) (Nat.le_refl _)) _ hI, hd.keep hkt, W.heap.size, hnw, rfl⟩
  case body =>
    rintro l pre x a1 W ⟨ha, hd, xb, hx, he⟩ hlen
    obtain ⟨u, rfl⟩ : ∃ u, a1 = FA xb (w.heap.size + 1) u := ⟨_, he⟩
    clear he
    replace ha : AI (w.heap.size + 1) w1.heap.size w1 pre W := ha
    replace hd : DSw (w.heap.size + 1) x W := hd
    replace hx : W.heap[xb]? = some (.cells (fSw x).toArray 98 (0, 0)) := hx
    obtain ⟨v, hv, hown, htc⟩ := ha.ex
    obtain ⟨i0, hi, hz0, hz1, hz2⟩ := info_parts info98
    have c5 : W.cell? ⟨w.heap.size + 1, 0, none⟩ = some v := cell_of_row _ _ 0 _ _ _ hv
    have f5 : W.frozen? ⟨w.heap.size + 1, 0, none⟩ = false := frozen_of_row _ _ 0 _ _ hv
    obtain ⟨Av, cv, rfl, hcv1, hcv2, _⟩ := hown.form
    obtain ⟨hsz, hsz2⟩ := ha.sz
    have hLm : L.length ≤ 42 := by omega
    have hlen2 : pre.length < L.length - 1 := hlen
    have hpl : pre.length ≤ 41 := by omega
    have hxs : ∀ i q, (fSw x)[i]? = some q → W.cell? ⟨xb, i, none⟩ = some q := fun i q h => (cell_of_row _ _ i _ _ _ hx).trans (by simpa using h)
    have d0 := hxs 0 _ rfl
    have d1 := hxs 1 _ rfl
    have d2 := hxs 2 _ rfl
    have d3 := hxs 3 _ rfl
    have d4 := hxs 4 _ rfl
    have d5 := hxs 5 _ rfl
    have d6 := hxs 6 _ rfl
    have d7 := hxs 7 _ rfl
    have d8 := hxs 8 _ rfl
    have d9 := hxs 9 _ rfl
    have d10 := hxs 10 _ rfl
    have d11 := hxs 11 _ rfl
    have d12 := hxs 12 _ rfl
    have HH := Lib.hid (And.intro ha (And.intro hd (And.intro hx (And.intro hv htc))))
    have HOW := Lib.hid hown
    clear ha hd hx hv htc hxs
    simp only [FA]
    have hnw := fun i => cell_new1 W (fSw x).toArray 98 i
    have HNW := Lib.hid hnw
    clear hnw
    obtain ⟨np, hnp⟩ : ∃ z, pre.length = z := ⟨_, rfl⟩
    have HNP := Lib.hid hnp
    rw [hnp] at c5 hpl hcv1 hlen2
    have hnb2 : w.heap.size + 1 < W.heap.size := by omega
    gi_wp2_with (gi_at_builtin; go_must (refine wpListIn_append_own_at _ rfl _ _ 95 rfl w1.heap.size 98 i0 _ 13 120 Tryz.underlying95 hi hz0 hz1 hz2 rfl (by omega) (.slice Av np cv) np _ rfl (by rw [← HNP.out]; exact HOW.out.alloc _) ⟨W.heap.size, 0, none⟩ 1 1 (fSw x) rfl rfl ?hc (fSw_one x) (by simp [maxLen]; omega) (by omega) (by simp; omega) ?_)
                 rotate_left
                 intro v' w4 hown' hgrow hnil hw'
                 have hoo : Own w4 w1.heap.size 98 13 fSw v' (pre ++ [x]) := by
                   have h1 := hown'
                   rw [← HNP.out] at h1
                   unfold Own
                   rw [List.length_append, List.flatMap_append]
                   exact h1
                 obtain ⟨ha, hd, hx, hv, htc⟩ := HH.out
                 rw [HNP.out] at hv htc
                 have HP := Lib.hid (AI.push (o := .cells (fSw x).toArray 98) ha hd hv (by rw [← HNP.out]; exact HOW.out) htc hgrow hoo hw')
                 have hnr : some (w.heap.size + 1) ≠ (Value.slice Av np cv).ownBlock := fun e => by have := (HOW.out.lt (w.heap.size + 1) (by rw [HNP.out]; exact e.symm)).1; omega
                 have h4 : w4.heap[w.heap.size + 1]? = some (.cells #[.slice Av np cv] 95 (0, 0)) := ((hgrow.block _ (by simp; omega) hnr).trans (Below.heap_alloc _ _ _ hnb2)).trans hv
                 have c5' : w4.cell? ⟨w.heap.size + 1, 0, none⟩ = some (.slice Av np cv) := cell_of_row _ _ 0 _ _ _ h4
                 have f5' : w4.frozen? ⟨w.heap.size + 1, 0, none⟩ = false := frozen_of_row _ _ 0 _ _ h4
                 obtain ⟨Av2, cv2, rfl, _, _, _⟩ := hoo.form
                 obtain ⟨np2, hnp2⟩ : ∃ z, (pre ++ [x]).length = z := ⟨_, rfl⟩
                 rw [hnp2] at HP ⊢
                 clear hown' hgrow hnil hw' hoo ha hd hx hv htc hnr h4 hnp2 c5 f5)
    case hc =>
      intro j u hu
      rw [add_lit]
      refine ((HNW.out (0 + j)).trans ?_)
      simpa using hu
    exact HP.out
  case done =>
    intro d xs W hdw hS hI hd
    obtain ⟨v, hv, hown, htc⟩ := hI.ex
    have c5 : W.cell? ⟨w.heap.size + 1, 0, none⟩ = some v := cell_of_row _ _ 0 _ _ _ hv
    have HH := Lib.hid (And.intro hI (And.intro hd (And.intro hS (And.intro hv (And.intro hown htc)))))
    clear hI hd hS hv hown htc
    gi_wp2
    obtain ⟨hI, hd, hS, hv, hown, htc⟩ := HH.out
    refine leaves_mks [d] W (by simp) (fun D hD => by rw [List.mem_singleton.1 hD]; exact hd) ?_
    intro W' hb hs h1 h2 h3
    have hcell : ∀ (q : Addr) (u : Value), W.cell? q = some u → W'.cell? q = some u := fun q u hq => by
      obtain ⟨o, ho, hoc⟩ := cells_of_cell hq
      refine (World.cell?_of_block (hb q.block fun D hD e => ?_)).trans hq
      rw [List.mem_singleton.1 hD] at e
      rw [e, hd] at ho
      cases ho
      cases hoc
    refine ⟨_, results_tmp rfl _ _ _, v, xs, rfl, by rw [HL.out]; exact hS, ?_, fun x hx => ⟨⟨?_, ?_, ?_⟩, fun a ha => by have := (hI.ds x hx).lo a ha; omega⟩, ?_⟩
    · refine (hown.lower (by omega)).of_blocks fun k hk => ?_
      refine hb k fun D hD e => ?_
      rw [List.mem_singleton.1 hD] at e
      rcases hown.2 with ⟨rfl, _⟩ | ⟨g, cap, cur, rfl, _, hg2, _⟩
      · cases hk
      · have hgk : g = k := Option.some.inj hk
        rw [hgk, e, hd] at hg2
        cases hg2
    · have h5 : x.s ∈ alongL r L := by rw [← hS]; exact List.mem_map.2 ⟨x, hx, rfl⟩
      exact alongL_ok hR hok _ h5
    · exact Sl.keepA ((hI.ds x hx).sl) (by omega) fun a q u _ _ hq => hcell q u hq
    · have h5 : x.s ∈ alongL r L := by rw [← hS]; exact List.mem_map.2 ⟨x, hx, rfl⟩
      obtain ⟨j, _, hj⟩ := List.mem_map.1 h5
      rw [← hj]
      have e1 := bendAt_len L j
      have e2 := bendAt_len L (j + 1)
      simp only [stripAt, List.length_append]
      omega
    · refine (HBE.out.trans (hb1.mono (by omega))).trans ?_
      refine (hI.bl.mono (by omega)).trans ⟨h1, h2, h3, by omega, fun k hk => hb k fun D hD e => ?_⟩
      rw [List.mem_singleton.1 hD, hdw] at e
      omega
end Go.Proofs.YtekambdnmaompaaGreat.SW
