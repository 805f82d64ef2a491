/- What a car touches, as the specification says, plain. -/
import Derived.Test.YtekambdnmaompaaGreatJ6
import Derived.Test.YtekambdnmaompaaGreatJ8
namespace Go.Proofs.YtekambdnmaompaaGreat.SW
set_option linter.unusedVariables false
set_option linter.unusedSimpArgs false
open Go.RowKit

theorem cover_rlo {p : Pl} (hV : Vld p) {x : C3} (h : coverB p x = true) : ∃ (r : Nat) (L : List S), x.rail = (r : Int) ∧ lnR p x.rail = L ∧ RlOk p r L := by
  unfold coverB at h
  rw [Bool.and_eq_true] at h
  have h3 := of_decide_eq_true h.1
  obtain ⟨r, hr⟩ := Int.eq_ofNat_of_zero_le h3.1
  have hrl : r < p.rails.length := by omega
  exact ⟨r, _, hr, by rw [hr, lnR_eq hrl], Vld.rl hV hrl⟩
theorem any_cg {α : Type} {f g : α → Bool} {l : List α} (h : ∀ x ∈ l, f x = g x) : l.any f = l.any g := by
  induction l with
  | nil => rfl
  | cons x l ih => rw [List.any_cons, List.any_cons, h x (by simp), ih fun y hy => h y (by simp [hy])]
structure GdS (p : Pl) (s : Swp) : Prop where
  h0 : 0 ≤ s.rail
  al : s ∈ alongP p s.rail
theorem alongP_iff {p : Pl} {r : Int} {s : Swp} : s ∈ alongP p r ↔ ∃ k, k < (lnR p r).length - 1 ∧ s = stripAt r.toNat (lnR p r) k := by
  unfold alongP alongL
  rw [List.mem_map]
  constructor
  · rintro ⟨k, hk, rfl⟩; exact ⟨k, List.mem_range.1 hk, rfl⟩
  · rintro ⟨k, hk, rfl⟩; exact ⟨k, List.mem_range.2 hk, rfl⟩
theorem alongP_gd {p : Pl} {r : Int} {s : Swp} (h0 : 0 ≤ r) (h : s ∈ alongP p r) : GdS p s := by
  obtain ⟨k, hk, e⟩ := alongP_iff.1 h
  have e1 : s.rail = r := by rw [e]; show ((r.toNat : Nat) : Int) = r; omega
  exact ⟨by rw [e1]; exact h0, by rw [e1]; exact h⟩
theorem GdS.eq {p : Pl} {s t : Swp} (hs : GdS p s) (ht : GdS p t) (h : ckey s = ckey t) : s = t := by
  have h1 : s.rail = t.rail := congrArg Prod.fst h
  have h2 : s.seg = t.seg := congrArg Prod.snd h
  obtain ⟨k, _, e⟩ := alongP_iff.1 hs.al
  obtain ⟨k2, _, e2⟩ := alongP_iff.1 ht.al
  have a1 : s.seg = (k : Int) := congrArg (·.seg) e
  have a2 : t.seg = (k2 : Int) := congrArg (·.seg) e2
  obtain rfl : k = k2 := by omega
  rw [h1] at e
  exact e.trans e2.symm
theorem tstep_iff {p : Pl} (part : C3) (acc : List Swp) (y : Swp) (hy : GdS p y) (ha : ∀ t ∈ acc, GdS p t) (s : Swp) : s ∈ tstep part acc y ↔ s ∈ acc ∨ (s = y ∧ part.frm < s.en ∧ s.bg < part.to) := by
  unfold tstep
  by_cases hc : part.frm < y.en ∧ y.bg < part.to
  · by_cases hk : ckey y ∈ acc.map ckey
    · obtain ⟨t, ht, e⟩ := List.mem_map.1 hk
      have hty : t = y := (ha t ht).eq hy e
      rw [if_neg (by rw [decide_eq_true hk]; simp)]
      constructor
      · exact fun h => .inl h
      · rintro (h | ⟨rfl, _⟩)
        · exact h
        · rw [← hty]; exact ht
    · rw [if_pos (by rw [decide_eq_true hc.1, decide_eq_true hc.2, decide_eq_false hk]; rfl), List.mem_append, List.mem_singleton]
      constructor
      · rintro (h | rfl)
        · exact .inl h
        · exact .inr ⟨rfl, hc⟩
      · rintro (h | ⟨h, _⟩)
        · exact .inl h
        · exact .inr h
  · rw [if_neg (fun h => by
      rw [Bool.and_eq_true, Bool.and_eq_true] at h
      exact hc ⟨of_decide_eq_true h.1.1, of_decide_eq_true h.1.2⟩)]
    constructor
    · exact fun h => .inl h
    · rintro (h | ⟨rfl, h⟩)
      · exact h
      · exact absurd h hc
theorem tfold_iff {p : Pl} (part : C3) : ∀ (xs acc : List Swp), (∀ s ∈ xs, GdS p s) → (∀ t ∈ acc, GdS p t) → ∀ s, s ∈ xs.foldl (tstep part) acc ↔ s ∈ acc ∨ (s ∈ xs ∧ part.frm < s.en ∧ s.bg < part.to)
  | [], acc, _, _, s => by simp
  | y :: ys, acc, hx, ha, s => by
    have hst := tstep_iff part acc y (hx y (by simp)) ha
    rw [List.foldl_cons, tfold_iff part ys _ (fun t ht => hx t (by simp [ht])) (fun t ht => by
      rcases (hst t).1 ht with h | ⟨rfl, _⟩
      · exact ha t h
      · exact hx _ (by simp)) s, hst s]
    simp only [List.mem_cons]
    constructor
    · rintro ((h | ⟨h, c⟩) | ⟨h, c⟩)
      · exact .inl h
      · exact .inr ⟨.inl h, c⟩
      · exact .inr ⟨.inr h, c⟩
    · rintro (h | ⟨h | h, c⟩)
      · exact .inl (.inl h)
      · exact .inl (.inr ⟨h, c⟩)
      · exact .inr ⟨h, c⟩
theorem touched_iff {p : Pl} : ∀ (parts : List C3) (acc : List Swp), (∀ x ∈ parts, 0 ≤ x.rail) → (∀ t ∈ acc, GdS p t) → ∀ s, s ∈ parts.foldl (tpart p) acc ↔ s ∈ acc ∨ ∃ x ∈ parts, s ∈ alongP p x.rail ∧ x.frm < s.en ∧ s.bg < x.to
  | [], acc, _, _, s => by simp
  | x :: l, acc, hx, ha, s => by
    have hg : ∀ t ∈ alongP p x.rail, GdS p t := fun t ht => alongP_gd (hx x (by simp)) ht
    have hst : ∀ t, t ∈ tpart p acc x ↔ _ := tfold_iff (p := p) x (alongP p x.rail) acc hg ha
    rw [List.foldl_cons, touched_iff l _ (fun y hy => hx y (by simp [hy])) (fun t ht => by
      rcases (hst t).1 ht with h | ⟨h, _⟩
      · exact ha t h
      · exact hg t h) s, hst s]
    constructor
    · rintro ((h | h) | ⟨y, hy, h⟩)
      · exact .inl h
      · exact .inr ⟨x, by simp, h⟩
      · exact .inr ⟨y, by simp [hy], h⟩
    · rintro (h | ⟨y, hy, h⟩)
      · exact .inl (.inl h)
      · rcases List.mem_cons.1 hy with rfl | hy
        · exact .inl (.inr h)
        · exact .inr ⟨y, hy, h⟩
theorem rail_nn {p : Pl} {l : List C3} (h : l.all (coverB p) = true) : ∀ x ∈ l, 0 ≤ x.rail := fun x hx => by
  rw [List.all_eq_true] at h
  have h2 := h x hx
  unfold coverB at h2
  rw [Bool.and_eq_true] at h2
  exact (of_decide_eq_true h2.1).1
end Go.Proofs.YtekambdnmaompaaGreat.SW
