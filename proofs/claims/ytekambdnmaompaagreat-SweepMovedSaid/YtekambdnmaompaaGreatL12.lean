/- Words for fouls(70): rows of slices, rows of needs, the strips of all rails in memory. -/
import Derived.Test.YtekambdnmaompaaGreatL9
import Derived.Test.YtekambdnmaompaaGreatL7
import Derived.Test.YtekambdnmaompaaGreatJM
namespace Go.Proofs.YtekambdnmaompaaGreat.SW
set_option linter.unusedVariables false
set_option linter.unusedSimpArgs false
open Go.RowKit
def f1c (v : Value) : List Value := [v]
theorem flat_one' (vs : List Value) : vs.flatMap f1c = vs := by
  induction vs with
  | nil => rfl
  | cons v vs ih => rw [List.flatMap_cons, ih]; rfl
theorem own_set1 {w : World} {base g cap n : Nat} {e : TypeId} {vs : List Value} (hn : vs.length = n) (h : Own w base e 1 f1c (.slice (some ⟨g, 0, none⟩) n cap) vs) (k : Nat) (u : Value) :
    Own (w.setCell ⟨g, k, none⟩ u) base e 1 f1c (.slice (some ⟨g, 0, none⟩) n cap) (vs.set k u) ∧ w.grownBy (w.setCell ⟨g, k, none⟩ u) (some g) := by
  unfold Own at h
  rw [hn] at h
  have h2 := World.ownsRow.stored h k u
  refine ⟨?_, h2.2⟩
  unfold Own
  rw [List.length_set, hn, flat_one']
  rw [flat_one'] at h2
  exact h2.1
theorem own_cell1 {w : World} {base g cap n : Nat} {e : TypeId} {vs : List Value} (h : Own w base e 1 f1c (.slice (some ⟨g, 0, none⟩) n cap) vs) (k : Nat) (hk : k < vs.length) :
    w.cell? ⟨g, k, none⟩ = some vs[k] ∧ w.frozen? ⟨g, k, none⟩ = false ∧ g < w.heap.size ∧ base ≤ g := by
  have hs := Own.sl (f := f1c) (size := 1) (l := vs) (fun _ => rfl) h (A := some ⟨g, 0, none⟩) (c := cap) (by
    have := h.2
    rcases this with ⟨e1, hn⟩ | ⟨g', cap', cur, e1, hb, hg, hn, hm, hc⟩
    · cases e1
    · cases e1; rfl)
  have hl := h.lt g rfl
  obtain ⟨b, off, cs, e1, hb, rfl, hc⟩ := hs.at_ hk
  cases e1
  refine ⟨?_, ?_, hl.2, hl.1⟩
  · have := hc 0 vs[k] rfl
    simpa using this
  · rcases h.2 with ⟨e1, hn⟩ | ⟨g', cap', cur, e1, hb', hg, hn, hm, hc'⟩
    · cases e1
    · cases e1
      simp [World.frozen?, hg]
theorem flat_set4 (v : N4) : ∀ (rows : List N4) (k : Nat), ((((rows.flatMap fN).set (k * 4) (.int .i64 v.n0)).set (k * 4 + 1) (.int .i64 v.n1)).set (k * 4 + 2) (.int .i64 v.n2)).set (k * 4 + 3) (.int .i64 v.n3) = (rows.set k v).flatMap fN
  | [], k => by simp
  | x :: rows, 0 => by simp [fN]
  | x :: rows, k + 1 => by
    rw [List.set_cons_succ, List.flatMap_cons, List.flatMap_cons, ← flat_set4 v rows k]
    have e : (k + 1) * 4 = k * 4 + 1 + 1 + 1 + 1 := by omega
    rw [e]
    simp only [fN, List.cons_append, List.nil_append, List.set_cons_succ]
theorem own_set4 {w : World} {base g cap n : Nat} {e : TypeId} {rows : List N4} (hn : rows.length = n) (h : Own w base e 4 fN (.slice (some ⟨g, 0, none⟩) n cap) rows) (k : Nat) (v : N4) :
    Own ((((w.setCell ⟨g, k * 4, none⟩ (.int .i64 v.n0)).setCell ⟨g, k * 4 + 1, none⟩ (.int .i64 v.n1)).setCell ⟨g, k * 4 + 2, none⟩ (.int .i64 v.n2)).setCell ⟨g, k * 4 + 3, none⟩ (.int .i64 v.n3)) base e 4 fN (.slice (some ⟨g, 0, none⟩) n cap) (rows.set k v) := by
  unfold Own at h
  rw [hn] at h
  have h2 := World.ownsRow.stored h (k * 4) (.int .i64 v.n0)
  have h3 := World.ownsRow.stored h2.1 (k * 4 + 1) (.int .i64 v.n1)
  have h4 := World.ownsRow.stored h3.1 (k * 4 + 2) (.int .i64 v.n2)
  have h5 := World.ownsRow.stored h4.1 (k * 4 + 3) (.int .i64 v.n3)
  unfold Own
  rw [List.length_set, hn, ← flat_set4]
  exact h5.1
theorem SwIn.other {w : World} {x : SwM} (h : SwIn w x) {p : Addr} (u : Value) (hx : ∀ a, x.A = some a → a.block ≠ p.block) : SwIn (w.setCell p u) x := by
  refine ⟨h.ok, fun hne => ?_, h.le⟩
  obtain ⟨b, off, e, hb, hc⟩ := h.sl hne
  refine ⟨b, off, e, by simpa using hb, fun i y hy => ?_⟩
  obtain ⟨cs, h1, h2⟩ := hc i y hy
  refine ⟨cs, h1, fun j v hv => ?_⟩
  rw [World.cell?_setCell_other (h := fun c => hx _ e (by rw [c]))]
  exact h2 j v hv
/-- one rail's strips in memory, all of their blocks from B on -/
structure RailIn (w : World) (B : Nat) (p : Pl) (k : Nat) (v : Value) (xs : List SwM) : Prop where
  map : xs.map (·.s) = alongL k (lnR p (k : Int))
  own : Own w B 98 13 fSw v xs
  sw : ∀ x ∈ xs, SwIn w x
  far : ∀ x ∈ xs, ∀ a, x.A = some a → B ≤ a.block
theorem RailIn.below {w w' : World} {B : Nat} {p : Pl} {k : Nat} {v : Value} {xs : List SwM} (h : RailIn w B p k v xs) (hb : Below w.heap.size w w') : RailIn w' B p k v xs :=
  ⟨h.map, h.own.below hb (Nat.le_refl _), fun x hx => (h.sw x hx).below hb, h.far⟩
theorem RailIn.other {w : World} {B : Nat} {p : Pl} {k : Nat} {v : Value} {xs : List SwM} (h : RailIn w B p k v xs) {q : Addr} (u : Value) (hq : q.block < B) : RailIn (w.setCell q u) B p k v xs :=
  ⟨h.map, h.own.of_blocks fun b hb => Below.heap_setCell w q u b (by have := (h.own.lt b hb).1; omega), fun x hx => (h.sw x hx).other u fun a ha => by have := h.far x hx a ha; omega, h.far⟩
theorem RailIn.lower {w : World} {B B' : Nat} {p : Pl} {k : Nat} {v : Value} {xs : List SwM} (h : RailIn w B p k v xs) (hb : B' ≤ B) : RailIn w B' p k v xs :=
  ⟨h.map, h.own.lower hb, h.sw, fun x hx a ha => Nat.le_trans hb (h.far x hx a ha)⟩
theorem set_mid {l1 : List Value} {i N : Nat} (v z : Value) (hl : l1.length = i) (hi : i < N) : (l1 ++ List.replicate (N - i) z).set i v = (l1 ++ [v]) ++ List.replicate (N - (i + 1)) z := by
  have e : N - i = (N - (i + 1)) + 1 := by omega
  rw [e, List.replicate_succ, List.set_append_right _ _ (by omega), hl, Nat.sub_self, List.set_cons_zero, List.append_assoc]
  rfl
/-- the needs of two rails, by number -/
def nd4 (vs : List (Value × List SwM)) (m0 m1 m2 m3 : Nat) (a b : Nat) : N4 := match vs[a]?, vs[b]? with
  | some x, some y => ⟨((leastL sidesB x.2 y.2 (m0 + 1) : Nat) : Int), ((leastL bendsB x.2 y.2 (m1 + 1) : Nat) : Int), ((leastL bendsC x.2 y.2 (m2 + 1) : Nat) : Int), ((leastL bothB x.2 y.2 (m3 + 1) : Nat) : Int)⟩
  | _, _ => ⟨0, 0, 0, 0⟩
theorem own_cell4 {w : World} {base g cap n : Nat} {e : TypeId} {rows : List N4} (h : Own w base e 4 fN (.slice (some ⟨g, 0, none⟩) n cap) rows) (k : Nat) (hk : k < rows.length) :
    (∃ z0 z1 z2 z3 : Int, w.cell? ⟨g, k * 4, none⟩ = some (.int .i64 z0) ∧ w.cell? ⟨g, k * 4 + 1, none⟩ = some (.int .i64 z1) ∧ w.cell? ⟨g, k * 4 + 2, none⟩ = some (.int .i64 z2) ∧ w.cell? ⟨g, k * 4 + 3, none⟩ = some (.int .i64 z3)) ∧ (∀ i, w.frozen? ⟨g, i, none⟩ = false) ∧ g < w.heap.size ∧ base ≤ g := by
  have hs := Own.sl (f := fN) (size := 4) (l := rows) (fun _ => rfl) h (A := some ⟨g, 0, none⟩) (c := cap) (by
    have := h.2
    rcases this with ⟨e1, hn⟩ | ⟨g', cap', cur, e1, hb, hg, hn, hm, hc⟩
    · cases e1
    · cases e1; rfl)
  have hl := h.lt g rfl
  obtain ⟨b, off, cs, e1, hb, rfl, hc⟩ := hs.at_ hk
  cases e1
  have c0 := hc 0 _ rfl; have c1 := hc 1 _ rfl; have c2 := hc 2 _ rfl; have c3 := hc 3 _ rfl
  simp only [Nat.zero_add, Nat.add_zero] at c0 c1 c2 c3
  refine ⟨⟨_, _, _, _, c0, c1, c2, c3⟩, fun i => ?_, hl.2, hl.1⟩
  rcases h.2 with ⟨e1, hn⟩ | ⟨g', cap', cur, e1, hb', hg, hn, hm, hc'⟩
  · cases e1
  · cases e1
    simp [World.frozen?, hg]
end Go.Proofs.YtekambdnmaompaaGreat.SW
