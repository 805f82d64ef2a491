/- Words: the network of a valid plan, whole. -/
import Derived.Test.YtekambdnmaompaaGreatLk
namespace Go.Proofs.YtekambdnmaompaaGreat
set_option linter.unusedVariables false
set_option linter.unusedSimpArgs false
open Go.RowKit

/-- A row of slices at block b: slice x reads as f x; all below block B. -/
def SlRow (w : World) (B b M : Nat) (f : Nat → List Int) : Prop :=
  b < B ∧ ∀ x, x < M → ∃ A c, w.cell? ⟨b, x, none⟩ = some (.slice A (f x).length c) ∧ (f x).length ≤ c ∧ c ≤ maxLen ∧ Sl w B 1 CI A (f x)
theorem SlRow.below {w w' : World} {B b M : Nat} {f : Nat → List Int} (h : SlRow w B b M f) (hb : Below B w w') : SlRow w' B b M f :=
  ⟨h.1, fun x hx => by
    obtain ⟨A, c, h1, h2, h3, h4⟩ := h.2 x hx
    exact ⟨A, c, (hb.cell (p := ⟨b, x, none⟩) h.1).trans h1, h2, h3, h4.below hb⟩⟩
theorem SlRow.more {w : World} {B B' b M : Nat} {f : Nat → List Int} (h : SlRow w B b M f) (hb : B ≤ B') : SlRow w B' b M f :=
  ⟨Nat.lt_of_lt_of_le h.1 hb, fun x hx => by
    obtain ⟨A, c, h1, h2, h3, h4⟩ := h.2 x hx
    exact ⟨A, c, h1, h2, h3, h4.more (fun _ _ h => h) hb⟩⟩
theorem fI_CI {w : World} {B : Nat} {A : Option Addr} {l : List Int} (h : Sl w B 1 (fun x cs => cs = fI x) A l) : Sl w B 1 CI A l := h.more (fun _ _ h => h) (Nat.le_refl _)
theorem SlRow.of {w : World} {b base M B : Nat} {vs : List Value} {f : Nat → List Int} (hv : VRow w b vs) (hl : vs.length = M) (hB : w.heap.size ≤ B)
    (hf : ∀ (j : Nat) (v : Value), vs[j]? = some v → Own w base 3 1 fI v (f j)) : SlRow w B b M f := by
  refine ⟨Nat.lt_of_lt_of_le hv.lt hB, fun x hx => ?_⟩
  obtain ⟨v, hv1⟩ : ∃ v, vs[x]? = some v := ⟨_, List.getElem?_eq_getElem (by omega)⟩
  have ho := hf x v hv1
  obtain ⟨A, c, rfl, h1, h2, _⟩ := ho.form
  exact ⟨A, c, (hv.cell x).trans hv1, h1, h2, (fI_CI (ho.sl fI_len rfl)).more (fun _ _ h => h) hB⟩

/-- The network of a valid plan, whole, at block g; all that belongs to it lies below block B. -/
structure Nw (w : World) (B g : Nat) (p : Pl) : Prop where
  v : Vld p
  gB : g < B
  net : ∃ (A : Option Addr) (c : Nat) (A2 : Option Addr) (c2 lb sb nb bb : Nat),
    Net w g A c A2 c2 p (.slice (some ⟨lb, 0, none⟩) p.rails.length p.rails.length) (.slice (some ⟨sb, 0, none⟩) (2 * p.rails.length) (2 * p.rails.length)) (.slice (some ⟨nb, 0, none⟩) (2 * p.rails.length) (2 * p.rails.length)) (.slice (some ⟨bb, 0, none⟩) (2 * p.rails.length) (2 * p.rails.length)) ∧
    lb < B ∧ sb < B ∧ IRow w lb (lensOf p) ∧ IRow w sb (slotsOf p) ∧ SlRow w B nb (2 * p.rails.length) (nextL p) ∧ SlRow w B bb (2 * p.rails.length) (befL p (2 * p.rails.length))
theorem Nw.below {w w' : World} {B g : Nat} {p : Pl} (h : Nw w B g p) (hb : Below B w w') : Nw w' B g p := by
  obtain ⟨A, c, A2, c2, lb, sb, nb, bb, hN, h1, h2, h3, h4, h5, h6⟩ := h.net
  exact ⟨h.v, h.gB, A, c, A2, c2, lb, sb, nb, bb, hN.below hb h.gB, h1, h2, h3.below hb h1, h4.below hb h2, h5.below hb, h6.below hb⟩
theorem Nw.more {w : World} {B B' g : Nat} {p : Pl} (h : Nw w B g p) (hb : B ≤ B') : Nw w B' g p := by
  obtain ⟨A, c, A2, c2, lb, sb, nb, bb, hN, h1, h2, h3, h4, h5, h6⟩ := h.net
  exact ⟨h.v, Nat.lt_of_lt_of_le h.gB hb, A, c, A2, c2, lb, sb, nb, bb, hN, by omega, by omega, h3, h4, h5.more hb, h6.more hb⟩

end Go.Proofs.YtekambdnmaompaaGreat
