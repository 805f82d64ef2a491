/- What a car touches, as the specification says, plain. -/
import Derived.Test.YtekambdnmaompaaGreatJ6
import Derived.Test.YtekambdnmaompaaGreatJ8
namespace Go.Proofs.YtekambdnmaompaaGreat.SW
set_option linter.unusedVariables false
set_option linter.unusedSimpArgs false
open Go.RowKit

/-- does a strip lie in a part -/
def tq (x : C3) (L : List S) (k : Nat) : Bool := decide (x.frm < ((lenTo L (k + 1) : Nat) : Int)) && decide (((lenTo L k : Nat) : Int) < x.to)
def rpartK (x : C3) (L : List S) (k : Nat) : List (Int × Nat) := ((List.range k).filter (tq x L)).map fun j => (x.rail, j)
def rpart (p : Pl) (x : C3) : List (Int × Nat) := rpartK x (lnR p x.rail) ((lnR p x.rail).length - 1)
/-- the specification's list of strips that a car touches: rail and segment -/
def rtouched (p : Pl) (l : List C3) : List (Int × Nat) := l.flatMap (rpart p)
def fQ (q : Int × Nat) : List Value := [.int .i64 q.1, .int .i64 (q.2 : Int)]
theorem fQ_len (q : Int × Nat) : (fQ q).length = 2 := rfl
theorem fQ_one (q : Int × Nat) : ∀ u ∈ fQ q, u.oneCell' = true := by simp [fQ, Value.oneCell']
theorem rpartK_succ (x : C3) (L : List S) (k : Nat) : rpartK x L (k + 1) = rpartK x L k ++ (if tq x L k = true then [(x.rail, k)] else []) := by
  unfold rpartK
  rw [List.range_succ, List.filter_append, List.map_append]
  congr 1
  cases h : tq x L k <;> simp [List.filter_cons, h]
theorem rpartK_len (x : C3) (L : List S) (k : Nat) : (rpartK x L k).length ≤ k := by
  unfold rpartK
  rw [List.length_map]
  have := List.length_filter_le (tq x L) (List.range k)
  rwa [List.length_range] at this
theorem rtouched_take {p : Pl} {l : List C3} {i : Nat} {x : C3} (h : l[i]? = some x) : rtouched p (l.take (i + 1)) = rtouched p (l.take i) ++ rpart p x := by
  obtain ⟨hi, e⟩ := List.getElem?_eq_some_iff.1 h
  unfold rtouched
  rw [List.take_succ_eq_append_getElem hi, List.flatMap_append, e]
  simp
theorem cover_rlo {p : Pl} (hV : Vld p) {x : C3} (h : coverB p x = true) : ∃ (r : Nat) (L : List S), x.rail = (r : Int) ∧ lnR p x.rail = L ∧ RlOk p r L := by
  unfold coverB at h
  rw [Bool.and_eq_true] at h
  have h3 := of_decide_eq_true h.1
  obtain ⟨r, hr⟩ := Int.eq_ofNat_of_zero_le h3.1
  have hrl : r < p.rails.length := by omega
  exact ⟨r, _, hr, by rw [hr, lnR_eq hrl], Vld.rl hV hrl⟩
theorem rtouched_len {p : Pl} (hV : Vld p) : ∀ (l : List C3), l.all (coverB p) = true → (rtouched p l).length ≤ 41 * l.length
  | [], _ => by simp [rtouched]
  | x :: l, h => by
    rw [List.all_cons, Bool.and_eq_true] at h
    have h1 := rtouched_len hV l h.2
    obtain ⟨r, L, hr, hL, ho⟩ := cover_rlo hV h.1
    have h2 := rpartK_len x (lnR p x.rail) ((lnR p x.rail).length - 1)
    rw [hL] at h2
    have h3 := ho.le
    have e : rtouched p (x :: l) = rpart p x ++ rtouched p l := by simp [rtouched]
    rw [e, List.length_append, List.length_cons]
    unfold rpart
    rw [hL]
    omega
theorem any_cg {α : Type} {f g : α → Bool} {l : List α} (h : ∀ x ∈ l, f x = g x) : l.any f = l.any g := by
  induction l with
  | nil => rfl
  | cons x l ih => rw [List.any_cons, List.any_cons, h x (by simp), ih fun y hy => h y (by simp [hy])]
/-- the strip that a pair names -/
def stripOf (p : Pl) (q : Int × Nat) : Swp := stripAt q.1.toNat (lnR p q.1) q.2
def metQ (p : Pl) (a b : List C3) (hx sx hy sy : Int) : Bool := (rtouched p a).any fun x => (rtouched p b).any fun y => foulB (stripOf p x) (stripOf p y) hx sx hy sy
structure GdS (p : Pl) (s : Swp) : Prop where
  h0 : 0 ≤ s.rail
  al : s ∈ alongP p s.rail
theorem alongP_iff {p : Pl} {r : Int} {s : Swp} : s ∈ alongP p r ↔ ∃ k, k < (lnR p r).length - 1 ∧ s = stripAt r.toNat (lnR p r) k := by
  unfold alongP alongL
  rw [List.mem_map]
  constructor
  · rintro ⟨k, hk, rfl⟩; exact ⟨k, List.mem_range.1 hk, rfl⟩
  · rintro ⟨k, hk, rfl⟩; exact ⟨k, List.mem_range.2 hk, rfl⟩
theorem alongP_gd {p : Pl} {r : Int} {s : Swp} (h0 : 0 ≤ r) (h : s ∈ alongP p r) : GdS p s := by
  obtain ⟨k, hk, e⟩ := alongP_iff.1 h
  have e1 : s.rail = r := by rw [e]; show ((r.toNat : Nat) : Int) = r; omega
  exact ⟨by rw [e1]; exact h0, by rw [e1]; exact h⟩
theorem GdS.eq {p : Pl} {s t : Swp} (hs : GdS p s) (ht : GdS p t) (h : ckey s = ckey t) : s = t := by
  have h1 : s.rail = t.rail := congrArg Prod.fst h
  have h2 : s.seg = t.seg := congrArg Prod.snd h
  obtain ⟨k, _, e⟩ := alongP_iff.1 hs.al
  obtain ⟨k2, _, e2⟩ := alongP_iff.1 ht.al
  have a1 : s.seg = (k : Int) := congrArg (·.seg) e
  have a2 : t.seg = (k2 : Int) := congrArg (·.seg) e2
  obtain rfl : k = k2 := by omega
  rw [h1] at e
  exact e.trans e2.symm
theorem tstep_iff {p : Pl} (part : C3) (acc : List Swp) (y : Swp) (hy : GdS p y) (ha : ∀ t ∈ acc, GdS p t) (s : Swp) : s ∈ tstep part acc y ↔ s ∈ acc ∨ (s = y ∧ part.frm < s.en ∧ s.bg < part.to) := by
  unfold tstep
  by_cases hc : part.frm < y.en ∧ y.bg < part.to
  · by_cases hk : ckey y ∈ acc.map ckey
    · obtain ⟨t, ht, e⟩ := List.mem_map.1 hk
      have hty : t = y := (ha t ht).eq hy e
      rw [if_neg (by rw [decide_eq_true hk]; simp)]
      constructor
      · exact fun h => .inl h
      · rintro (h | ⟨rfl, _⟩)
        · exact h
        · rw [← hty]; exact ht
    · rw [if_pos (by rw [decide_eq_true hc.1, decide_eq_true hc.2, decide_eq_false hk]; rfl), List.mem_append, List.mem_singleton]
      constructor
      · rintro (h | rfl)
        · exact .inl h
        · exact .inr ⟨rfl, hc⟩
      · rintro (h | ⟨h, _⟩)
        · exact .inl h
        · exact .inr h
  · rw [if_neg (fun h => by
      rw [Bool.and_eq_true, Bool.and_eq_true] at h
      exact hc ⟨of_decide_eq_true h.1.1, of_decide_eq_true h.1.2⟩)]
    constructor
    · exact fun h => .inl h
    · rintro (h | ⟨rfl, h⟩)
      · exact h
      · exact absurd h hc
theorem tfold_iff {p : Pl} (part : C3) : ∀ (xs acc : List Swp), (∀ s ∈ xs, GdS p s) → (∀ t ∈ acc, GdS p t) → ∀ s, s ∈ xs.foldl (tstep part) acc ↔ s ∈ acc ∨ (s ∈ xs ∧ part.frm < s.en ∧ s.bg < part.to)
  | [], acc, _, _, s => by simp
  | y :: ys, acc, hx, ha, s => by
    have hst := tstep_iff part acc y (hx y (by simp)) ha
    rw [List.foldl_cons, tfold_iff part ys _ (fun t ht => hx t (by simp [ht])) (fun t ht => by
      rcases (hst t).1 ht with h | ⟨rfl, _⟩
      · exact ha t h
      · exact hx _ (by simp)) s, hst s]
    simp only [List.mem_cons]
    constructor
    · rintro ((h | ⟨h, c⟩) | ⟨h, c⟩)
      · exact .inl h
      · exact .inr ⟨.inl h, c⟩
      · exact .inr ⟨.inr h, c⟩
    · rintro (h | ⟨h | h, c⟩)
      · exact .inl (.inl h)
      · exact .inl (.inr ⟨h, c⟩)
      · exact .inr ⟨h, c⟩
theorem touched_iff {p : Pl} : ∀ (parts : List C3) (acc : List Swp), (∀ x ∈ parts, 0 ≤ x.rail) → (∀ t ∈ acc, GdS p t) → ∀ s, s ∈ parts.foldl (tpart p) acc ↔ s ∈ acc ∨ ∃ x ∈ parts, s ∈ alongP p x.rail ∧ x.frm < s.en ∧ s.bg < x.to
  | [], acc, _, _, s => by simp
  | x :: l, acc, hx, ha, s => by
    have hg : ∀ t ∈ alongP p x.rail, GdS p t := fun t ht => alongP_gd (hx x (by simp)) ht
    have hst : ∀ t, t ∈ tpart p acc x ↔ _ := tfold_iff (p := p) x (alongP p x.rail) acc hg ha
    rw [List.foldl_cons, touched_iff l _ (fun y hy => hx y (by simp [hy])) (fun t ht => by
      rcases (hst t).1 ht with h | ⟨h, _⟩
      · exact ha t h
      · exact hg t h) s, hst s]
    constructor
    · rintro ((h | h) | ⟨y, hy, h⟩)
      · exact .inl h
      · exact .inr ⟨x, by simp, h⟩
      · exact .inr ⟨y, by simp [hy], h⟩
    · rintro (h | ⟨y, hy, h⟩)
      · exact .inl (.inl h)
      · rcases List.mem_cons.1 hy with rfl | hy
        · exact .inl (.inr h)
        · exact .inr ⟨y, hy, h⟩
theorem rpart_iff {p : Pl} {x : C3} {q : Int × Nat} : q ∈ rpart p x ↔ ∃ k, k < (lnR p x.rail).length - 1 ∧ tq x (lnR p x.rail) k = true ∧ q = (x.rail, k) := by
  unfold rpart rpartK
  rw [List.mem_map]
  constructor
  · rintro ⟨k, hk, rfl⟩
    have := List.mem_filter.1 hk
    exact ⟨k, List.mem_range.1 this.1, this.2, rfl⟩
  · rintro ⟨k, h1, h2, rfl⟩
    exact ⟨k, List.mem_filter.2 ⟨List.mem_range.2 h1, h2⟩, rfl⟩
theorem rail_nn {p : Pl} {l : List C3} (h : l.all (coverB p) = true) : ∀ x ∈ l, 0 ≤ x.rail := fun x hx => by
  rw [List.all_eq_true] at h
  have h2 := h x hx
  unfold coverB at h2
  rw [Bool.and_eq_true] at h2
  exact (of_decide_eq_true h2.1).1
theorem touch_same {p : Pl} {l : List C3} (h : l.all (coverB p) = true) (s : Swp) : s ∈ touchedT p l ↔ ∃ q ∈ rtouched p l, stripOf p q = s := by
  unfold touchedT
  rw [touched_iff l [] (rail_nn h) (fun t ht => by cases ht) s]
  unfold rtouched
  constructor
  · rintro (h | ⟨x, hx, hs, h1, h2⟩)
    · cases h
    · obtain ⟨k, hk, rfl⟩ := alongP_iff.1 hs
      refine ⟨(x.rail, k), List.mem_flatMap.2 ⟨x, hx, rpart_iff.2 ⟨k, hk, ?_, rfl⟩⟩, rfl⟩
      unfold tq
      rw [Bool.and_eq_true]
      exact ⟨decide_eq_true h1, decide_eq_true h2⟩
  · rintro ⟨q, hq, rfl⟩
    obtain ⟨x, hx, hq⟩ := List.mem_flatMap.1 hq
    obtain ⟨k, hk, ht, rfl⟩ := rpart_iff.1 hq
    unfold tq at ht
    rw [Bool.and_eq_true] at ht
    exact .inr ⟨x, hx, alongP_iff.2 ⟨k, hk, rfl⟩, of_decide_eq_true ht.1, of_decide_eq_true ht.2⟩
theorem any_image {α β : Type} {f : α → Bool} {l : List α} {m : List β} {g : β → α} (h : ∀ s, s ∈ l ↔ ∃ q ∈ m, g q = s) : l.any f = m.any fun q => f (g q) := by
  rw [Bool.eq_iff_iff, List.any_eq_true, List.any_eq_true]
  constructor
  · rintro ⟨s, hs, hf⟩
    obtain ⟨q, hq, rfl⟩ := (h s).1 hs
    exact ⟨q, hq, hf⟩
  · rintro ⟨q, hq, hf⟩
    exact ⟨g q, (h _).2 ⟨q, hq, rfl⟩, hf⟩
theorem metQ_eq {p : Pl} {a b : List C3} (ha : a.all (coverB p) = true) (hb : b.all (coverB p) = true) (hx sx hy sy : Int) : metT p a b hx sx hy sy = metQ p a b hx sx hy sy := by
  unfold metT metQ
  rw [any_image (touch_same ha)]
  exact any_cg fun q _ => any_image (touch_same hb)
theorem rtouched_ok {p : Pl} (hV : Vld p) {l : List C3} (h : l.all (coverB p) = true) {q : Int × Nat} (hq : q ∈ rtouched p l) : ∃ (r : Nat) (L : List S), q.1 = (r : Int) ∧ lnR p q.1 = L ∧ RlOk p r L ∧ q.2 + 1 < L.length := by
  unfold rtouched at hq
  obtain ⟨x, hx, hq⟩ := List.mem_flatMap.1 hq
  obtain ⟨k, hk, ht, rfl⟩ := rpart_iff.1 hq
  rw [List.all_eq_true] at h
  obtain ⟨r, L, hr, hL, ho⟩ := cover_rlo hV (h x hx)
  refine ⟨r, L, hr, hL, ho, ?_⟩
  rw [hL] at hk
  show k + 1 < L.length
  omega
end Go.Proofs.YtekambdnmaompaaGreat.SW
