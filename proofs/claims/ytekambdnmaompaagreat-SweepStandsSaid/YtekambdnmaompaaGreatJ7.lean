/- The measures of the program and of the document. -/
import Derived.Test.YtekambdnmaompaaGreatJ4
namespace Go.Proofs.YtekambdnmaompaaGreat.SW
set_option linter.unusedVariables false
set_option linter.unusedSimpArgs false
open Go.RowKit

theorem near_seps {x y : Swp} (hx : SwOk x) (hy : SwOk y) (hc : crossB x.a x.b y.a y.b = false) (d : Int) (less : Bool) : nearL x.a x.b y.a y.b d less = (seps x y).any fun z => z.below d less := by
  unfold nearL
  rw [hc]
  simp only [Bool.false_eq_true, if_false, seps, List.any_cons, List.any_nil, Bool.or_false]
  rw [spotNear_sep x.a y.a y.b d less hy.hab, spotNear_sep x.b y.a y.b d less hy.hab, spotNear_sep y.a x.a x.b d less hx.hab, spotNear_sep y.b x.a x.b d less hx.hab]
theorem near_sides {x y : Swp} (hx : SwOk x) (hy : SwOk y) (d : Int) : nearL x.a x.b y.a y.b d false = sidesB x y d := by
  cases hc : crossB x.a x.b y.a y.b with
  | true => unfold nearL sidesB; rw [hc]; simp
  | false => rw [near_seps hx hy hc]; unfold sidesB; rw [hc]; simp
end Go.Proofs.YtekambdnmaompaaGreat.SW

namespace Go.Proofs.YtekambdnmaompaaGreat.SW
set_option linter.unusedVariables false
set_option linter.unusedSimpArgs false
open Go.RowKit

theorem any_or {α : Type} (f g : α → Bool) : ∀ l : List α, (l.any fun x => f x || g x) = (l.any f || l.any g)
  | [] => rfl
  | x :: l => by
    rw [List.any_cons, List.any_cons, List.any_cons, any_or f g l]
    cases f x <;> cases g x <;> cases l.any f <;> simp
theorem any_congr {α : Type} {f g : α → Bool} {l : List α} (h : ∀ x ∈ l, f x = g x) : l.any f = l.any g := by
  induction l with
  | nil => rfl
  | cons x l ih => rw [List.any_cons, List.any_cons, h x (by simp), ih fun y hy => h y (by simp [hy])]
theorem foul_q {x y : Swp} {hx sx hy sy : Int} (ox : SwOk x) (oy : SwOk y) (px : Pr hx sx) (py : Pr hy sy) : foulQ x.a x.b y.a y.b x.bends y.bends hx sx hy sy = foulB x y hx sx hy sy := by
  rw [foul_same ox.bends oy.bends px.h1 px.h3 py.h1 py.h3]
  unfold foulQ foulR
  rw [near_sides ox oy]
  rw [any_or, Bool.or_assoc]
  have e1 : (x.bends.any fun b => spotNearL b y.a y.b (hx + sx + hy) false) = bendsB x y (hx + sx + hy) := by
    unfold bendsB; exact any_congr fun s _ => spotNear_sep s y.a y.b _ false oy.hab
  have e2 : (y.bends.any fun d => spotNearL d x.a x.b (hx + hy + sy) false) = bendsB y x (hx + hy + sy) := by
    unfold bendsB; exact any_congr fun s _ => spotNear_sep s x.a x.b _ false ox.hab
  have e3 : (x.bends.any fun b => y.bends.any fun d => decide ((b.x - d.x) * (b.x - d.x) + (b.y - d.y) * (b.y - d.y) ≤ (hx + sx + hy + sy) * (hx + sx + hy + sy))) = bothB x y (hx + sx + hy + sy) := by
    unfold bothB
    refine any_congr fun s _ => any_congr fun u _ => ?_
    have q : (s.x - u.x) * (s.x - u.x) + (s.y - u.y) * (s.y - u.y) = (u.x - s.x) * (u.x - s.x) + (u.y - s.y) * (u.y - s.y) := by
      rw [show s.x - u.x = -(u.x - s.x) by omega, show s.y - u.y = -(u.y - s.y) by omega, Int.neg_mul_neg, Int.neg_mul_neg]
    rw [q]
    simp [sepSpot, Sp.below, sq2]
    generalize (u.x - s.x) * (u.x - s.x) + (u.y - s.y) * (u.y - s.y) = m
    generalize (hx + sx + hy + sy) * (hx + sx + hy + sy) = n
    rw [Bool.eq_iff_iff]
    simp
    omega
  rw [e1, e2, e3]
  cases sidesB x y (hx + hy) <;> cases bendsB x y (hx + sx + hy) <;> cases bothB x y (hx + sx + hy + sy) <;> cases bendsB y x (hx + hy + sy) <;> rfl
theorem sides_symm (x y : Swp) (r : Int) : sidesB x y r = sidesB y x r := by
  have hc : crossB x.a x.b y.a y.b = crossB y.a y.b x.a x.b := by unfold crossB; exact Bool.and_comm _ _
  unfold sidesB
  rw [hc]
  simp only [seps, List.any_cons, List.any_nil, Bool.or_false]
  cases crossB y.a y.b x.a x.b <;> cases (sepSeg x.a y.a y.b).below r false <;> cases (sepSeg x.b y.a y.b).below r false <;> cases (sepSeg y.a x.a x.b).below r false <;> cases (sepSeg y.b x.a x.b).below r false <;> rfl
theorem spot_symm (s u : S) (r : Int) : (sepSpot s u).below r false = (sepSpot u s).below r false := by
  have q : (s.x - u.x) * (s.x - u.x) + (s.y - u.y) * (s.y - u.y) = (u.x - s.x) * (u.x - s.x) + (u.y - s.y) * (u.y - s.y) := by
    rw [show s.x - u.x = -(u.x - s.x) by omega, show s.y - u.y = -(u.y - s.y) by omega, Int.neg_mul_neg, Int.neg_mul_neg]
  simp [sepSpot, Sp.below, sq2, q]
theorem any_swap {α β : Type} (f : α → β → Bool) (l : List α) (m : List β) : (l.any fun a => m.any fun b => f a b) = (m.any fun b => l.any fun a => f a b) := by
  rw [Bool.eq_iff_iff]
  simp only [List.any_eq_true]
  exact ⟨fun ⟨a, ha, b, hb, h⟩ => ⟨b, hb, a, ha, h⟩, fun ⟨b, hb, a, ha, h⟩ => ⟨a, ha, b, hb, h⟩⟩
theorem both_symm (x y : Swp) (r : Int) : bothB x y r = bothB y x r := by
  unfold bothB
  rw [any_swap]
  exact any_congr fun s _ => any_congr fun u _ => spot_symm _ _ _
theorem foul_symm {x y : Swp} {hx sx hy sy : Int} (ox : SwOk x) (oy : SwOk y) (px : Pr hx sx) (py : Pr hy sy) : foulB x y hx sx hy sy = foulB y x hy sy hx sx := by
  rw [foul_same ox.bends oy.bends px.h1 px.h3 py.h1 py.h3, foul_same oy.bends ox.bends py.h1 py.h3 px.h1 px.h3]
  unfold foulR
  rw [sides_symm y x, both_symm y x, show hy + hx = hx + hy by omega, show hy + sy + hx = hx + hy + sy by omega, show hx + hy + sx = hx + sx + hy by omega, show hx + hy + sy + sx = hx + sx + hy + sy by omega]
  cases sidesB x y (hx + hy) <;> cases bendsB x y (hx + sx + hy) <;> cases bothB x y (hx + sx + hy + sy) <;> cases bendsB y x (hx + hy + sy) <;> rfl
end Go.Proofs.YtekambdnmaompaaGreat.SW

namespace Go.Proofs.YtekambdnmaompaaGreat.SW
set_option linter.unusedVariables false
set_option linter.unusedSimpArgs false
open Go.RowKit

theorem below_iff (z : Sp) (r : Int) : z.below r false = true ↔ z.over ≤ r * r * z.under := by
  generalize hm : r * r * z.under = m
  simp [Sp.below, hm]
  omega
theorem sq_step {a b u : Int} (h0 : 0 ≤ a) (hab : a ≤ b) (hu : 0 ≤ u) : a * a * u ≤ b * b * u :=
  Int.mul_le_mul_of_nonneg_right (Int.mul_le_mul hab hab h0 (by omega)) hu
theorem sides_mono {x y : Swp} (hx : SwOk x) (hy : SwOk y) {a b : Int} (h0 : 0 ≤ a) (hab : a ≤ b) (h : sidesB x y a = true) : sidesB x y b = true := by
  unfold sidesB at h ⊢
  rw [Bool.or_eq_true] at h ⊢
  rcases h with h | h
  · exact .inl h
  · right
    obtain ⟨z, hz, hb⟩ := List.any_eq_true.1 h
    refine List.any_eq_true.2 ⟨z, hz, (below_iff z b).2 ?_⟩
    exact Int.le_trans ((below_iff z a).1 hb) (sq_step h0 hab (Int.le_of_lt (seps_ok hx hy z hz).u0))
theorem gap_zero {x y : Swp} (hx : SwOk x) (hy : SwOk y) (h : ∃ z ∈ seps x y, z.over = 0) : gapW x y = 0 := by
  cases hc : crossB x.a x.b y.a y.b with
  | true => unfold gapW; rw [hc]; rfl
  | false =>
    have eg : gapW x y = gapN (seps x y) 5000 := by unfold gapW; rw [hc]; simp
    obtain ⟨z, hz, hl⟩ := h
    rw [eg]
    rcases Nat.eq_zero_or_pos (gapN (seps x y) 5000) with h0 | h0
    · exact h0
    · have h2 := (gap_spec (seps x y) 5000 fun z hz => Int.le_of_lt (seps_ok hx hy z hz).u0).2.1 1 (by omega) h0 z hz
      have hu := (seps_ok hx hy z hz).u0
      simp [lessB, hl] at h2
      omega
theorem sep_at1 (a b : S) : (sepSeg a a b).over = 0 := by
  unfold sepSeg sepSpot sq2
  simp
theorem sep_at2 (a b : S) : (sepSeg b a b).over = 0 := by
  unfold sepSeg sepSpot sq2
  simp only [Int.sub_self, Int.mul_zero, Int.add_zero, ge_iff_le, Int.le_refl, if_true]
  split
  · rename_i h
    have h1 := sq_nn (b.x - a.x)
    have h2 := sq_nn (b.y - a.y)
    have e : (a.x - b.x) * (a.x - b.x) = (b.x - a.x) * (b.x - a.x) := by rw [show a.x - b.x = -(b.x - a.x) by omega, Int.neg_mul_neg]
    have e2 : (a.y - b.y) * (a.y - b.y) = (b.y - a.y) * (b.y - a.y) := by rw [show a.y - b.y = -(b.y - a.y) by omega, Int.neg_mul_neg]
    show (a.x - b.x) * (a.x - b.x) + (a.y - b.y) * (a.y - b.y) = 0
    rw [e, e2]
    omega
  · rfl
/-- strips of one rail that are neighbors, or the same, have no gap -/
theorem gap_rail {p : Pl} {r : Nat} {L L2 : List S} {k k2 : Nat} (hL : RlOk p r L) (hL2 : RlOk p r L2) (hk : k + 1 < L.length) (hk2 : k2 + 1 < L2.length) (h1 : k ≤ k2 + 1) (h2 : k2 ≤ k + 1) :
    gapW (stripAt r L k) (stripAt r L2 k2) = 0 := by
  obtain rfl : L = L2 := by rw [← hL.eL, ← hL2.eL]
  refine gap_zero (stripAt_ok hL.hR hL.hok hk) (stripAt_ok hL.hR hL.hok hk2) ?_
  by_cases he : k = k2 + 1
  · subst he
    refine ⟨sepSeg (sAt L (k2 + 1)) (sAt L k2) (sAt L (k2 + 1)), by simp [seps, stripAt], sep_at2 _ _⟩
  · by_cases he2 : k2 = k + 1
    · subst he2
      refine ⟨sepSeg (sAt L (k + 1)) (sAt L (k + 1)) (sAt L (k + 1 + 1)), by simp [seps, stripAt], sep_at1 _ _⟩
    · obtain rfl : k = k2 := by omega
      refine ⟨sepSeg (sAt L k) (sAt L k) (sAt L (k + 1)), by simp [seps, stripAt], sep_at1 _ _⟩
end Go.Proofs.YtekambdnmaompaaGreat.SW
