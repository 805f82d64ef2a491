/- Plain: fouls of wider profiles, of rails that meet, and of cars on ways. -/
import Derived.Test.YtekambdnmaompaaGreatJM
import Derived.Test.YtekambdnmaompaaGreatL2A
import Derived.Test.YtekambdnmaompaaGreatJG
import Derived.Test.YtekambdnmaompaaGreatK13
import Derived.Test.YtekambdnmaompaaGreatJ8
namespace Go.Proofs.YtekambdnmaompaaGreat.SW
set_option linter.unusedVariables false
set_option linter.unusedSimpArgs false
open Go.RowKit

theorem mem_f4 {R : Nat → Nat → Nat → Nat → Bool} {a x b k : Nat} {f : Fo4} : f ∈ f4 R a x b k ↔ ∃ y, y < k ∧ (a < b ∨ x ≤ y) ∧ R a x b y = true ∧ f = ⟨(a : Int), (x : Int), (b : Int), (y : Int)⟩ := by
  unfold f4
  rw [List.mem_map]
  constructor
  · rintro ⟨y, hy, rfl⟩
    obtain ⟨h1, h2⟩ := List.mem_filter.1 hy
    rw [Bool.and_eq_true, Bool.or_eq_true, decide_eq_true_iff, decide_eq_true_iff] at h2
    exact ⟨y, List.mem_range.1 h1, h2.1, h2.2, rfl⟩
  · rintro ⟨y, h1, h2, h3, rfl⟩
    refine ⟨y, List.mem_filter.2 ⟨List.mem_range.2 h1, ?_⟩, rfl⟩
    rw [Bool.and_eq_true, Bool.or_eq_true, decide_eq_true_iff, decide_eq_true_iff]
    exact ⟨h2, h3⟩
/-- a pair of the list of fouls -/
def FoulN (p : Pl) (l : List S) (a x b y : Nat) : Prop := a < p.rails.length ∧ x < l.length ∧ a ≤ b ∧ b < p.rails.length ∧ y < l.length ∧ (a < b ∨ x ≤ y) ∧ rF p l a x b y = true
theorem mem_foulsL {p : Pl} {l : List S} {f : Fo4} : f ∈ foulsL p l ↔ ∃ a x b y : Nat, FoulN p l a x b y ∧ f = ⟨(a : Int), (x : Int), (b : Int), (y : Int)⟩ := by
  unfold foulsL f1 f2 f3
  simp only [List.mem_flatMap, List.mem_range, mem_f4]
  constructor
  · rintro ⟨a, ha, x, hx, j, hj, y, hy, h1, h2, rfl⟩
    exact ⟨a, x, a + j, y, ⟨ha, hx, by omega, by omega, hy, h1, h2⟩, rfl⟩
  · rintro ⟨a, x, b, y, ⟨ha, hx, hab, hb, hy, h1, h2⟩, rfl⟩
    refine ⟨a, ha, x, hx, b - a, by omega, y, hy, ?_⟩
    rw [show a + (b - a) = b by omega]
    exact ⟨h1, h2, rfl⟩
theorem mem_foulsN {p : Pl} {l : List S} {a x b y : Nat} : (⟨(a : Int), (x : Int), (b : Int), (y : Int)⟩ : Fo4) ∈ foulsL p l ↔ FoulN p l a x b y := by
  rw [mem_foulsL]
  constructor
  · rintro ⟨a2, x2, b2, y2, h, e⟩
    injection e with e1 e2 e3 e4
    obtain rfl : a = a2 := by omega
    obtain rfl : x = x2 := by omega
    obtain rfl : b = b2 := by omega
    obtain rfl : y = y2 := by omega
    exact h
  · intro h
    exact ⟨a, x, b, y, h, rfl⟩
theorem rails_symm {p : Pl} {r r2 : Nat} {L L2 : List S} {hx sx hy sy : Int} (hL : RlOk p r L) (hL2 : RlOk p r2 L2) (px : Pr hx sx) (py : Pr hy sy) : railsB L L2 r r2 hx sx hy sy = railsB L2 L r2 r hy sy hx sx := by
  unfold railsB
  rw [any_swap]
  refine any_cg fun k hk => any_cg fun i hi => ?_
  have g1 := List.mem_range.1 hi; have g2 := List.mem_range.1 hk
  exact foul_symm (stripAt_ok hL.hR hL.hok (by omega)) (stripAt_ok hL2.hR hL2.hok (by omega)) px py
theorem foul_touch {x y : Swp} {hx sx hy sy : Int} (ox : SwOk x) (oy : SwOk y) (px : Pr hx sx) (py : Pr hy sy) (e : x.a = y.a ∨ x.a = y.b ∨ x.b = y.a ∨ x.b = y.b) : foulB x y hx sx hy sy = true := by
  rw [foul_same ox.bends oy.bends px.h1 px.h3 py.h1 py.h3]
  have hg : ∃ z ∈ seps x y, z.over = 0 := by
    rcases e with e | e | e | e
    · exact ⟨sepSeg x.a y.a y.b, by simp [seps], by rw [e]; exact sep_at1 _ _⟩
    · exact ⟨sepSeg x.a y.a y.b, by simp [seps], by rw [e]; exact sep_at2 _ _⟩
    · exact ⟨sepSeg x.b y.a y.b, by simp [seps], by rw [e]; exact sep_at1 _ _⟩
    · exact ⟨sepSeg x.b y.a y.b, by simp [seps], by rw [e]; exact sep_at2 _ _⟩
  have hs : sidesB x y (hx + hy) = true := by
    unfold sidesB
    rw [Bool.or_eq_true]
    right
    obtain ⟨z, hz, e⟩ := hg
    refine List.any_eq_true.2 ⟨z, hz, (below_iff z _).2 ?_⟩
    rw [e]
    have a1 := px.h1; have b1 := py.h1
    exact Int.mul_nonneg (Int.mul_nonneg (by omega) (by omega)) (Int.le_of_lt (seps_ok ox oy z hz).u0)
  unfold foulR
  rw [hs, Bool.true_or]
theorem len_last {p : Pl} {r : Nat} (h : r < p.rails.length) : lenAt p (r : Int) = lastEn p (r : Int) := by
  unfold lastEn
  rw [lnR_eq h]
  simp [lenAt, lensOf, h, lenZ, lenOf]
theorem covOne_ok {p : Pl} (hV : Vld p) {m b f t : Int} (h0 : 0 ≤ m) (h1 : m < 2 * (p.rails.length : Int)) : ∀ x ∈ covOne p m b f t, coverB p x = true := by
  intro x hx
  obtain ⟨r, hr⟩ := Int.eq_ofNat_of_zero_le (show 0 ≤ m / 2 by omega)
  have hrl : r < p.rails.length := by omega
  have hb := lenAt_bd hV (r : Int)
  have hl := len_last hrl
  unfold covOne at hx
  rw [hr, hl] at hx
  rw [hl] at hb
  have hri : railIn p (r : Int) = true := decide_eq_true (by omega)
  unfold coverB
  split at hx
  · cases hx
  · rename_i hlt
    split at hx
    · obtain rfl := List.mem_singleton.1 hx
      generalize lastEn p (r : Int) = e at *
      simp only [Bool.and_eq_true, Bool.not_eq_true', decide_eq_false_iff_not]
      exact ⟨hri, by omega, by omega, by omega⟩
    · obtain rfl := List.mem_singleton.1 hx
      generalize lastEn p (r : Int) = e at *
      simp only [Bool.and_eq_true, Bool.not_eq_true', decide_eq_false_iff_not]
      exact ⟨hri, by omega, by omega, by omega⟩
theorem covL_ok {p : Pl} {l : List E} {front len : Int} (h : covIf p l front len) : (covL p (l.map endNo) (front - len) front).all (coverB p) = true ∧ (covL p (l.map endNo) (front - len) front).length ≤ l.length := by
  refine ⟨?_, ?_⟩
  · rw [List.all_eq_true]
    intro x hx
    unfold covL covTo at hx
    obtain ⟨j, hj, hx⟩ := List.mem_flatMap.1 hx
    have hj2 := List.mem_range.1 hj
    have hn := way_nums h.2.1 ((l.map endNo)[j]) (List.getElem_mem hj2)
    rw [List.getElem?_eq_getElem hj2, Option.getD_some] at hx
    exact covOne_ok h.1 hn.1 hn.2 x hx
  · have := covTo_len p (l.map endNo) (front - len) front (l.map endNo).length
    rw [List.length_map] at this
    unfold covL
    rw [List.length_map]
    exact this
theorem find_strip (L : List S) (t : Int) (h0 : 0 ≤ t) : ∀ n, t < ((lenTo L n : Nat) : Int) → ∃ k, k < n ∧ ((lenTo L k : Nat) : Int) ≤ t ∧ t < ((lenTo L (k + 1) : Nat) : Int)
  | 0, h => by simp [lenTo] at h; omega
  | n + 1, h => by
    by_cases h1 : t < ((lenTo L n : Nat) : Int)
    · obtain ⟨k, a, b, c⟩ := find_strip L t h0 n h1
      exact ⟨k, by omega, b, c⟩
    · exact ⟨n, by omega, by omega, h⟩
theorem touched_mem {p : Pl} {l : List C3} (h : l.all (coverB p) = true) (s : Swp) : s ∈ touchedT p l ↔ ∃ x ∈ l, s ∈ alongP p x.rail ∧ x.frm < s.en ∧ s.bg < x.to := by
  unfold touchedT
  rw [touched_iff l [] (rail_nn h) (fun t ht => by cases ht) s]
  simp
theorem cover_in {p : Pl} {x : C3} (h : coverB p x = true) : 0 ≤ x.frm ∧ x.frm < x.to ∧ x.to ≤ lastEn p x.rail := by
  unfold coverB at h
  simp only [Bool.and_eq_true, Bool.not_eq_true', decide_eq_false_iff_not] at h
  omega
/-- cars that cover the same millimeter are not clear -/
theorem met_same {p : Pl} (hV : Vld p) {c d : List C3} (hc : c.all (coverB p) = true) (hd : d.all (coverB p) = true) {hx sx hy sy : Int} (px : Pr hx sx) (py : Pr hy sy) {x y : C3} (hxc : x ∈ c) (hyd : y ∈ d) (e : x.rail = y.rail) (h1 : x.frm < y.to) (h2 : y.frm < x.to) : metT p c d hx sx hy sy = true := by
  have cx := List.all_eq_true.1 hc x hxc
  have cy := List.all_eq_true.1 hd y hyd
  obtain ⟨r, L, er, eL, hL⟩ := cover_rlo hV cx
  obtain ⟨x0, x1, x2⟩ := cover_in cx
  obtain ⟨y0, y1, y2⟩ := cover_in cy
  have hle : lastEn p x.rail = ((lenTo L (L.length - 1) : Nat) : Int) := by unfold lastEn; rw [eL]
  obtain ⟨t, ht⟩ : ∃ t, max x.frm y.frm = t := ⟨_, rfl⟩
  obtain ⟨k, hk, k1, k2⟩ := find_strip L t (by omega) (L.length - 1) (by omega)
  have hin : stripAt r L k ∈ alongP p x.rail := alongP_iff.2 ⟨k, by rw [eL]; exact hk, by rw [eL, er]; rfl⟩
  have hin2 : stripAt r L k ∈ alongP p y.rail := by rw [← e]; exact hin
  have m1 : stripAt r L k ∈ touchedT p c := (touched_mem hc _).2 ⟨x, hxc, hin, by show x.frm < ((lenTo L (k + 1) : Nat) : Int); omega, by show ((lenTo L k : Nat) : Int) < x.to; omega⟩
  have m2 : stripAt r L k ∈ touchedT p d := (touched_mem hd _).2 ⟨y, hyd, hin2, by show y.frm < ((lenTo L (k + 1) : Nat) : Int); omega, by show ((lenTo L k : Nat) : Int) < y.to; omega⟩
  have ok := stripAt_ok (r := r) hL.hR hL.hok (show k + 1 < L.length by omega)
  unfold metT
  exact List.any_eq_true.2 ⟨_, m1, List.any_eq_true.2 ⟨_, m2, foul_touch ok ok px py (.inl rfl)⟩⟩
/-- the pair that the law looks for -/
def uOf (x y : C3) : Fo4 := if y.rail < x.rail then ⟨y.rail, 1, x.rail, 0⟩ else ⟨x.rail, 0, y.rail, 1⟩
/-- cars that are not clear stand on rails that are foul -/
theorem met_fouls {p : Pl} (hV : Vld p) {c d : List C3} (hc : c.all (coverB p) = true) (hd : d.all (coverB p) = true) {hx sx hy sy : Int} (px : Pr hx sx) (py : Pr hy sy) (h : metT p c d hx sx hy sy = true) : ∃ x ∈ c, ∃ y ∈ d, uOf x y ∈ foulsL p [⟨hx, sx⟩, ⟨hy, sy⟩] := by
  unfold metT at h
  obtain ⟨s, hs, h⟩ := List.any_eq_true.1 h
  obtain ⟨t, ht, h⟩ := List.any_eq_true.1 h
  obtain ⟨x, hxc, hsx, _, _⟩ := (touched_mem hc s).1 hs
  obtain ⟨y, hyd, hty, _, _⟩ := (touched_mem hd t).1 ht
  obtain ⟨r, L, er, eL, hL⟩ := cover_rlo hV (List.all_eq_true.1 hc x hxc)
  obtain ⟨r2, L2, er2, eL2, hL2⟩ := cover_rlo hV (List.all_eq_true.1 hd y hyd)
  obtain ⟨k, hk, rfl⟩ := alongP_iff.1 hsx
  obtain ⟨j, hj, rfl⟩ := alongP_iff.1 hty
  rw [eL] at hk h
  rw [eL2] at hj h
  have t1 : x.rail.toNat = r := by omega
  have t2 : y.rail.toNat = r2 := by omega
  rw [t1, t2] at h
  have hb : railsB L L2 r r2 hx sx hy sy = true := by
    unfold railsB
    exact any_range_of hk (any_range_of hj h)
  refine ⟨x, hxc, y, hyd, ?_⟩
  unfold uOf
  have q1 := hL.hr; have q2 := hL2.hr
  by_cases hlt : r2 < r
  · rw [if_pos (by omega), er, er2]
    rw [er] at eL; rw [er2] at eL2
    refine mem_foulsN (x := 1) (y := 0) |>.2 ⟨q2, by simp, by omega, q1, by simp, .inl hlt, ?_⟩
    unfold rF
    simp only [List.getElem?_cons_zero, List.getElem?_cons_succ]
    rw [eL, eL2, ← rails_symm hL hL2 px py]
    exact hb
  · rw [if_neg (by omega), er, er2]
    rw [er] at eL; rw [er2] at eL2
    refine mem_foulsN (x := 0) (y := 1) |>.2 ⟨q1, by simp, by omega, q2, by simp, .inr (by omega), ?_⟩
    unfold rF
    simp only [List.getElem?_cons_zero, List.getElem?_cons_succ]
    rw [eL, eL2]
    exact hb
theorem few_le {p : Pl} (h : fewB p = true) : p.rails.length ≤ 12 := by
  unfold fewB at h
  simp only [Bool.and_eq_true, decide_eq_true_eq] at h
  exact h.2.2.1
theorem foulsL_le (p : Pl) (l : List S) (h1 : p.rails.length ≤ 12) (h2 : l.length ≤ 6) : (foulsL p l).length ≤ 6000 := by
  have h := f_len (R := rF p l) (N := p.rails.length) (n := l.length) (a := p.rails.length) (x := 0) (j := 0) (y := 0) h1 h2 (Nat.le_refl _) (Nat.zero_le _) (Nat.zero_le _) (Nat.zero_le _) 0
  unfold foulsL
  simp only [List.length_append] at h
  omega
def fS (s : S) : List Value := [.int .i64 s.x, .int .i64 s.y]
end Go.Proofs.YtekambdnmaompaaGreat.SW
