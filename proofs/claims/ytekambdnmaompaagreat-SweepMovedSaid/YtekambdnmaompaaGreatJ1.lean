/- Separations of strips; the words for them. -/
import Derived.BigQuiet
import Derived.BigRegion
import Derived.Deep.Cut
import Derived.Deep.CutRange
import Derived.Deep.DeepCutAuto
import Derived.Deep.LoopGhost
import Derived.Deep.QuietTactic
import Derived.Deep.RegionHeld3
import Derived.Laws.Bits64b
import Derived.Lib.Hide
import Derived.Lib.Mul64
import Derived.Outline
import Derived.Test.YtekambdnmaompaaGreatG3
import Derived.Test.YtekambdnmaompaaGreatMem
import Derived.WalkKit
namespace Go.Proofs.YtekambdnmaompaaGreat.SW
set_option linter.unusedVariables false
set_option linter.unusedSimpArgs false

/-- the square of a distance, as a fraction -/
structure Sp where
  over : Int
  under : Int
def sq2 (x y : Int) : Int := x * x + y * y
def sepSpot (a b : S) : Sp := ⟨sq2 (b.x - a.x) (b.y - a.y), 1⟩
def sepSeg (s a b : S) : Sp :=
  if (b.x - a.x) * (s.x - a.x) + (b.y - a.y) * (s.y - a.y) ≤ 0 then sepSpot s a
  else if (b.x - a.x) * (s.x - a.x) + (b.y - a.y) * (s.y - a.y) ≥ sq2 (b.x - a.x) (b.y - a.y) then sepSpot s b
  else ⟨((b.x - a.x) * (s.y - a.y) - (b.y - a.y) * (s.x - a.x)) * ((b.x - a.x) * (s.y - a.y) - (b.y - a.y) * (s.x - a.x)), sq2 (b.x - a.x) (b.y - a.y)⟩
/-- what the program compares -/
def Sp.cmp (z : Sp) (d : Int) : Int := if z.over < d * d * z.under then -1 else if z.over = d * d * z.under then 0 else 1
def Sp.below (z : Sp) (d : Int) (less : Bool) : Bool := decide (z.over < d * d * z.under) || (decide (z.over = d * d * z.under) && !less)
theorem sq2_neg (a b c d : Int) : sq2 (a - b) (c - d) = sq2 (b - a) (d - c) := by
  unfold sq2
  rw [show a - b = -(b - a) by omega, show c - d = -(d - c) by omega, Int.neg_mul_neg, Int.neg_mul_neg]
theorem countP_mono {p : Nat → Bool} : ∀ (n : Nat), (∀ a b, a ≤ b → b < n → p a = true → p b = true) →
    (List.range n).countP (fun i => !p i) ≤ n ∧ (∀ i, i < (List.range n).countP (fun i => !p i) → p i = false) ∧ ((List.range n).countP (fun i => !p i) < n → p ((List.range n).countP (fun i => !p i)) = true)
  | 0, _ => by simp
  | n + 1, hm => by
    obtain ⟨h1, h2, h3⟩ := countP_mono n (fun a b h hb => hm a b h (by omega))
    rw [List.range_succ, List.countP_append]
    simp only [List.countP_cons, List.countP_nil, Nat.zero_add]
    generalize (List.range n).countP (fun i => !p i) = r at *
    cases hp : p n with
    | true =>
      simp only [Bool.not_true, Bool.false_eq_true, if_false, Nat.add_zero]
      refine ⟨by omega, h2, fun _ => ?_⟩
      by_cases e : r = n
      · subst e; exact hp
      · exact h3 (by omega)
    | false =>
      simp only [Bool.not_false, if_true]
      have e : r = n := by
        apply Decidable.byContradiction
        intro hne
        have := hm r n h1 (by omega) (h3 (by omega))
        rw [hp] at this; cases this
      subst e
      refine ⟨Nat.le_refl _, fun i hi => ?_, fun h => by omega⟩
      by_cases e : i = r
      · subst e; exact hp
      · exact h2 i (by omega)
def lessB (z : Sp) (d : Nat) : Bool := decide (z.over < (d : Int) * d * z.under)
theorem lessB_mono {z : Sp} (h : 0 ≤ z.under) {a b : Nat} (hab : a ≤ b) (ha : lessB z a = true) : lessB z b = true := by
  unfold lessB at *
  rw [decide_eq_true_iff] at *
  have h1 : (a : Int) * a ≤ (b : Int) * b := by
    have := Nat.mul_le_mul hab hab
    exact_mod_cast this
  have := Int.mul_le_mul_of_nonneg_right h1 h
  omega
def floorN (z : Sp) (most : Nat) : Nat := (List.range most).countP (fun i => !lessB z (i + 1))
theorem floor_spec {z : Sp} (h : 0 ≤ z.under) (m : Nat) : floorN z m ≤ m ∧ (∀ k, 1 ≤ k → k ≤ floorN z m → lessB z k = false) ∧ (floorN z m < m → lessB z (floorN z m + 1) = true) := by
  obtain ⟨h1, h2, h3⟩ := countP_mono (p := fun i => lessB z (i + 1)) m (fun a b hab _ ha => lessB_mono h (by omega) ha)
  refine ⟨h1, fun k hk hkr => ?_, h3⟩
  have := h2 (k - 1) (by unfold floorN at hkr; omega)
  rwa [show k - 1 + 1 = k by omega] at this
def gapN (zs : List Sp) (m : Nat) : Nat := zs.foldl (fun m z => floorN z m) m
/-- the greatest distance below which nothing is near -/
def IsGap (f : Nat → Bool) (m n : Nat) : Prop := n ≤ m ∧ (∀ k, 1 ≤ k → k ≤ n → f k = false) ∧ (n < m → f (n + 1) = true)
/-- halving -/
theorem IsGap.half {f : Nat → Bool} {m low : Nat} (hm : ∀ a b, 1 ≤ a → a ≤ b → f a = true → f b = true) (h0 : low = 0 ∨ f low = false) (h1 : low + 1 = m + 1 ∨ f (low + 1) = true) (hl : low ≤ m) : IsGap f m low := by
  refine ⟨hl, fun k hk hkl => ?_, fun h => by rcases h1 with h1 | h1; omega; exact h1⟩
  rcases h0 with rfl | h0
  · omega
  · cases hf : f k with
    | false => rfl
    | true => rw [hm k low hk hkl hf] at h0; cases h0
/-- one of the four directions -/
def Axis (c e : Int) : Prop := (c = 1 ∧ e = 0) ∨ (c = -1 ∧ e = 0) ∨ (c = 0 ∧ e = 1) ∨ (c = 0 ∧ e = -1)
theorem sq_nn (x : Int) : 0 ≤ x * x := by
  rcases Int.le_total 0 x with h | h
  · exact Int.mul_nonneg h h
  · have := Int.mul_nonneg (show 0 ≤ -x by omega) (show 0 ≤ -x by omega)
    rwa [Int.neg_mul_neg] at this
theorem axis_le {c e : Int} (h : Axis c e) (x y : Int) : (c * x + e * y) * (c * x + e * y) ≤ sq2 x y := by
  have hx := sq_nn x
  have hy := sq_nn y
  unfold sq2
  rcases h with ⟨rfl, rfl⟩ | ⟨rfl, rfl⟩ | ⟨rfl, rfl⟩ | ⟨rfl, rfl⟩
  · simp; omega
  · simp [Int.neg_mul_neg]; omega
  · simp; omega
  · simp [Int.neg_mul_neg]; omega
theorem sq_mono {a b : Int} (ha : 0 ≤ a) (hab : a < b) : a * a < b * b := by
  have h1 := Int.mul_le_mul_of_nonneg_left (show a + 1 ≤ b by omega) ha
  have h2 := Int.mul_le_mul_of_nonneg_right (show a + 1 ≤ b by omega) (show 0 ≤ b by omega)
  rw [Int.mul_add] at h1
  rw [Int.add_mul] at h2
  omega
theorem far_spot {c e : Int} (hce : Axis c e) {s a : S} {d : Int} (h0 : 0 ≤ d) (h1 : d < c * (s.x - a.x) + e * (s.y - a.y)) : (sepSpot s a).below d false = false ∧ (sepSpot a s).below d false = false := by
  have h2 := axis_le hce (s.x - a.x) (s.y - a.y)
  have h3 := sq_mono h0 h1
  have h4 : d * d < sq2 (s.x - a.x) (s.y - a.y) := by omega
  have h5 : d * d < sq2 (a.x - s.x) (a.y - s.y) := by rw [sq2_neg]; exact h4
  constructor
  · simp only [Sp.below, sepSpot, Int.mul_one]
    simp; omega
  · simp only [Sp.below, sepSpot, Int.mul_one]
    simp; omega
theorem far_seg {c e : Int} (hce : Axis c e) {s a b : S} {d : Int} (h0 : 0 ≤ d) (h1 : d < c * (s.x - a.x) + e * (s.y - a.y)) (h2 : d < c * (s.x - b.x) + e * (s.y - b.y)) : (sepSeg s a b).below d false = false := by
  unfold sepSeg
  split
  · exact (far_spot hce h0 h1).1
  · split
    · exact (far_spot hce h0 h2).1
    · rename_i g1 g2
      obtain ⟨ux, hux⟩ : ∃ z, b.x - a.x = z := ⟨_, rfl⟩
      obtain ⟨uy, huy⟩ : ∃ z, b.y - a.y = z := ⟨_, rfl⟩
      obtain ⟨vx, hvx⟩ : ∃ z, s.x - a.x = z := ⟨_, rfl⟩
      obtain ⟨vy, hvy⟩ : ∃ z, s.y - a.y = z := ⟨_, rfl⟩
      have e1 : s.x - b.x = vx - ux := by omega
      have e2 : s.y - b.y = vy - uy := by omega
      rw [e1, e2] at h2
      rw [hvx, hvy] at h1
      rw [hux, huy, hvx, hvy] at g1 g2 ⊢
      clear hux huy hvx hvy e1 e2
      obtain ⟨al, hal⟩ : ∃ z, ux * vx + uy * vy = z := ⟨_, rfl⟩
      obtain ⟨L, hL⟩ : ∃ z, sq2 ux uy = z := ⟨_, rfl⟩
      obtain ⟨cr, hcr⟩ : ∃ z, (ux * vy - uy * vx) * (ux * vy - uy * vx) = z := ⟨_, rfl⟩
      rw [hal, hL] at g2
      rw [hal] at g1
      have hL2 : ux * ux + uy * uy = L := hL
      have hw := axis_le hce (L * vx - al * ux) (L * vy - al * uy)
      have hww : sq2 (L * vx - al * ux) (L * vy - al * uy) = L * cr := by unfold sq2; grind
      have hf : c * (L * vx - al * ux) + e * (L * vy - al * uy) = (L - al) * (c * vx + e * vy) + al * (c * (vx - ux) + e * (vy - uy)) := by grind
      have k1 := Int.mul_lt_mul_of_pos_left h1 (show 0 < L - al by omega)
      have k2 := Int.mul_lt_mul_of_pos_left h2 (show 0 < al by omega)
      have hfl : L * d < c * (L * vx - al * ux) + e * (L * vy - al * uy) := by
        rw [hf]
        have : L * d = (L - al) * d + al * d := by rw [Int.sub_mul]; omega
        omega
      have hLp : 0 < L := by omega
      have k3 := sq_mono (Int.mul_nonneg (Int.le_of_lt hLp) h0) hfl
      rw [hww] at hw
      have k4 : L * (d * d * L) < L * cr := by
        have : L * d * (L * d) = L * (d * d * L) := by grind
        omega
      have k5 : d * d * L < cr := Int.lt_of_mul_lt_mul_left k4 (Int.le_of_lt hLp)
      simp only [Sp.below, hL, hcr]
      simp; omega
def turnV (a b c : S) : Int := (b.x - a.x) * (c.y - a.y) - (b.y - a.y) * (c.x - a.x)
theorem far_cross {c e : Int} {p q r t : S} {d : Int} (h0 : 0 ≤ d) (h1 : d < c * (p.x - r.x) + e * (p.y - r.y)) (h2 : d < c * (p.x - t.x) + e * (p.y - t.y)) (h3 : d < c * (q.x - r.x) + e * (q.y - r.y)) (h4 : d < c * (q.x - t.x) + e * (q.y - t.y))
    (g1 : turnV p q r < 0 ∧ 0 < turnV p q t ∨ turnV p q t < 0 ∧ 0 < turnV p q r) (g2 : turnV r t p < 0 ∧ 0 < turnV r t q ∨ turnV r t q < 0 ∧ 0 < turnV r t p) : False := by
  have id1 : (turnV r t q - turnV r t p) * (turnV p q t * r.x - turnV p q r * t.x) = (turnV p q t - turnV p q r) * (turnV r t q * p.x - turnV r t p * q.x) := by unfold turnV; grind
  have id2 : (turnV r t q - turnV r t p) * (turnV p q t * r.y - turnV p q r * t.y) = (turnV p q t - turnV p q r) * (turnV r t q * p.y - turnV r t p * q.y) := by unfold turnV; grind
  generalize turnV r t q = B at *
  generalize turnV r t p = A at *
  generalize turnV p q t = T at *
  generalize turnV p q r = R at *
  obtain ⟨fp, hp⟩ : ∃ z, c * p.x + e * p.y = z := ⟨_, rfl⟩
  obtain ⟨fq, hq⟩ : ∃ z, c * q.x + e * q.y = z := ⟨_, rfl⟩
  obtain ⟨fr, hr⟩ : ∃ z, c * r.x + e * r.y = z := ⟨_, rfl⟩
  obtain ⟨ft, ht⟩ : ∃ z, c * t.x + e * t.y = z := ⟨_, rfl⟩
  have l1 : fr < fp := by rw [Int.mul_sub, Int.mul_sub] at h1; omega
  have l2 : ft < fp := by rw [Int.mul_sub, Int.mul_sub] at h2; omega
  have l3 : fr < fq := by rw [Int.mul_sub, Int.mul_sub] at h3; omega
  have l4 : ft < fq := by rw [Int.mul_sub, Int.mul_sub] at h4; omega
  have key : (B - A) * (T * fr - R * ft) = (T - R) * (B * fp - A * fq) := by
    have k1 : (B - A) * (T * fr - R * ft) = c * ((B - A) * (T * r.x - R * t.x)) + e * ((B - A) * (T * r.y - R * t.y)) := by
      rw [← hr, ← ht]; grind only
    have k2 : (T - R) * (B * fp - A * fq) = c * ((T - R) * (B * p.x - A * q.x)) + e * ((T - R) * (B * p.y - A * q.y)) := by
      rw [← hp, ← hq]; grind only
    rw [k1, k2, id1, id2]
  clear id1 id2 h1 h2 h3 h4 hp hq hr ht
  obtain ⟨m, hm1, hm2⟩ : ∃ m, (fr ≤ m ∧ ft ≤ m) ∧ m < fp ∧ m < fq := ⟨max fr ft, by omega, by omega⟩
  -- the one side is at most (B - A)(T - R) m, the other more
  have e1 : (B - A) * (T * fr - R * ft) = (B - A) * ((T - R) * m) - ((B - A) * T * (m - fr) + (A - B) * R * (m - ft)) := by grind
  have e2 : (T - R) * (B * fp - A * fq) = (B - A) * ((T - R) * m) + ((T - R) * B * (fp - m) + (R - T) * A * (fq - m)) := by grind
  rcases g1 with ⟨r0, t0⟩ | ⟨t0, r0⟩ <;> rcases g2 with ⟨a0, b0⟩ | ⟨b0, a0⟩
  · have x1 : 0 ≤ (B - A) * T * (m - fr) := Int.mul_nonneg (Int.mul_nonneg (by omega) (by omega)) (by omega)
    have x2 : 0 ≤ (A - B) * R * (m - ft) := Int.mul_nonneg (by have := Int.mul_nonneg (show 0 ≤ B - A by omega) (show 0 ≤ -R by omega); grind) (by omega)
    have x3 : 0 < (T - R) * B * (fp - m) := Int.mul_pos (Int.mul_pos (by omega) (by omega)) (by omega)
    have x4 : 0 < (R - T) * A * (fq - m) := Int.mul_pos (by have := Int.mul_pos (show 0 < T - R by omega) (show 0 < -A by omega); grind) (by omega)
    omega
  · have x1 : (B - A) * T * (m - fr) ≤ 0 := by have := Int.mul_nonneg (Int.mul_nonneg (show 0 ≤ A - B by omega) (show 0 ≤ T by omega)) (show 0 ≤ m - fr by omega); grind
    have x2 : (A - B) * R * (m - ft) ≤ 0 := by have := Int.mul_nonneg (Int.mul_nonneg (show 0 ≤ A - B by omega) (show 0 ≤ -R by omega)) (show 0 ≤ m - ft by omega); grind
    have x3 : (T - R) * B * (fp - m) < 0 := by have := Int.mul_pos (Int.mul_pos (show 0 < T - R by omega) (show 0 < -B by omega)) (show 0 < fp - m by omega); grind
    have x4 : (R - T) * A * (fq - m) < 0 := by have := Int.mul_pos (Int.mul_pos (show 0 < T - R by omega) (show 0 < A by omega)) (show 0 < fq - m by omega); grind
    omega
  · have x1 : (B - A) * T * (m - fr) ≤ 0 := by have := Int.mul_nonneg (Int.mul_nonneg (show 0 ≤ B - A by omega) (show 0 ≤ -T by omega)) (show 0 ≤ m - fr by omega); grind
    have x2 : (A - B) * R * (m - ft) ≤ 0 := by have := Int.mul_nonneg (Int.mul_nonneg (show 0 ≤ B - A by omega) (show 0 ≤ R by omega)) (show 0 ≤ m - ft by omega); grind
    have x3 : (T - R) * B * (fp - m) < 0 := by have := Int.mul_pos (Int.mul_pos (show 0 < R - T by omega) (show 0 < B by omega)) (show 0 < fp - m by omega); grind
    have x4 : (R - T) * A * (fq - m) < 0 := by have := Int.mul_pos (Int.mul_pos (show 0 < R - T by omega) (show 0 < -A by omega)) (show 0 < fq - m by omega); grind
    omega
  · have x1 : 0 ≤ (B - A) * T * (m - fr) := by have := Int.mul_nonneg (Int.mul_nonneg (show 0 ≤ A - B by omega) (show 0 ≤ -T by omega)) (show 0 ≤ m - fr by omega); grind
    have x2 : 0 ≤ (A - B) * R * (m - ft) := Int.mul_nonneg (Int.mul_nonneg (by omega) (by omega)) (by omega)
    have x3 : 0 < (T - R) * B * (fp - m) := by have := Int.mul_pos (Int.mul_pos (show 0 < R - T by omega) (show 0 < -B by omega)) (show 0 < fp - m by omega); grind
    have x4 : 0 < (R - T) * A * (fq - m) := Int.mul_pos (Int.mul_pos (by omega) (by omega)) (by omega)
    omega
def sgnI (x : Int) : Int := if x < 0 then -1 else if x = 0 then 0 else 1
def cmpI (p q : Int) : Int := if p < q then -1 else if p = q then 0 else 1
theorem cmp_sgn (p q : Int) : cmpI p q = sgnI (p - q) := by
  unfold cmpI sgnI
  split <;> split <;> (try split) <;> (try split) <;> first | rfl | omega
def sideV (a b s : S) : Int := cmpI ((b.x - a.x) * (s.y - a.y)) ((b.y - a.y) * (s.x - a.x))
theorem side_turn (a b s : S) : sideV a b s = sgnI (turnV a b s) := cmp_sgn _ _
theorem sgn_vals (x : Int) : (sgnI x = -1 ∧ x < 0) ∨ (sgnI x = 0 ∧ x = 0) ∨ (sgnI x = 1 ∧ 0 < x) := by
  unfold sgnI
  split
  · exact .inl ⟨rfl, by assumption⟩
  · split
    · exact .inr (.inl ⟨rfl, by assumption⟩)
    · exact .inr (.inr ⟨rfl, by omega⟩)
theorem sgn_opp {x y : Int} (h : sgnI x * sgnI y < 0) : x < 0 ∧ 0 < y ∨ y < 0 ∧ 0 < x := by
  rcases sgn_vals x with ⟨e, g⟩ | ⟨e, g⟩ | ⟨e, g⟩ <;> rcases sgn_vals y with ⟨e2, g2⟩ | ⟨e2, g2⟩ | ⟨e2, g2⟩ <;> rw [e, e2] at h <;> omega
def crossB (a b c d : S) : Bool := decide (sideV a b c * sideV a b d < 0) && decide (sideV c d a * sideV c d b < 0)
theorem cross_opp {a b c d : S} (h : crossB a b c d = true) : (turnV a b c < 0 ∧ 0 < turnV a b d ∨ turnV a b d < 0 ∧ 0 < turnV a b c) ∧ (turnV c d a < 0 ∧ 0 < turnV c d b ∨ turnV c d b < 0 ∧ 0 < turnV c d a) := by
  unfold crossB at h
  simp only [Bool.and_eq_true, decide_eq_true_eq, side_turn] at h
  exact ⟨sgn_opp h.1, sgn_opp h.2⟩
/-- a strip with what a car sweeps there -/
structure Swp where
  rail : Int
  seg : Int
  a : S
  b : S
  bg : Int
  en : Int
  bends : List S
def seps (x y : Swp) : List Sp := [sepSeg x.a y.a y.b, sepSeg x.b y.a y.b, sepSeg y.a x.a x.b, sepSeg y.b x.a x.b]
def sidesB (x y : Swp) (r : Int) : Bool := crossB x.a x.b y.a y.b || (seps x y).any (fun z => z.below r false)
def gapW (x y : Swp) : Nat := if crossB x.a x.b y.a y.b then 0 else gapN (seps x y) 5000
def bendsB (x y : Swp) (r : Int) : Bool := x.bends.any fun s => (sepSeg s y.a y.b).below r false
def bothB (x y : Swp) (r : Int) : Bool := x.bends.any fun s => y.bends.any fun u => (sepSpot s u).below r false
def farB (x y : Swp) (r : Int) : Bool :=
  decide (r < min x.a.x x.b.x - max y.a.x y.b.x) || decide (r < min y.a.x y.b.x - max x.a.x x.b.x) || decide (r < min x.a.y x.b.y - max y.a.y y.b.y) || decide (r < min y.a.y y.b.y - max x.a.y x.b.y)
theorem farB_symm (x y : Swp) (r : Int) : farB x y r = farB y x r := by
  unfold farB
  generalize decide (r < min x.a.x x.b.x - max y.a.x y.b.x) = p
  generalize decide (r < min y.a.x y.b.x - max x.a.x x.b.x) = q
  generalize decide (r < min x.a.y x.b.y - max y.a.y y.b.y) = u
  generalize decide (r < min y.a.y y.b.y - max x.a.y x.b.y) = v
  revert p q u v; decide
theorem Axis.neg {c e : Int} (h : Axis c e) : Axis (-c) (-e) := by
  rcases h with ⟨rfl, rfl⟩ | ⟨rfl, rfl⟩ | ⟨rfl, rfl⟩ | ⟨rfl, rfl⟩
  · exact .inr (.inl ⟨rfl, rfl⟩)
  · exact .inl ⟨rfl, rfl⟩
  · exact .inr (.inr (.inr ⟨rfl, rfl⟩))
  · exact .inr (.inr (.inl ⟨rfl, rfl⟩))
theorem far_axis {x y : Swp} {r : Int} (h : farB x y r = true) : ∃ c e, Axis c e ∧ ∀ p, p = x.a ∨ p = x.b → ∀ q, q = y.a ∨ q = y.b → r < c * (p.x - q.x) + e * (p.y - q.y) := by
  unfold farB at h
  simp only [Bool.or_eq_true, decide_eq_true_eq] at h
  rcases h with ((h | h) | h) | h
  · refine ⟨1, 0, .inl ⟨rfl, rfl⟩, fun p hp q hq => ?_⟩
    rcases hp with rfl | rfl <;> rcases hq with rfl | rfl <;> simp <;> omega
  · refine ⟨-1, 0, .inr (.inl ⟨rfl, rfl⟩), fun p hp q hq => ?_⟩
    rcases hp with rfl | rfl <;> rcases hq with rfl | rfl <;> simp <;> omega
  · refine ⟨0, 1, .inr (.inr (.inl ⟨rfl, rfl⟩)), fun p hp q hq => ?_⟩
    rcases hp with rfl | rfl <;> rcases hq with rfl | rfl <;> simp <;> omega
  · refine ⟨0, -1, .inr (.inr (.inr ⟨rfl, rfl⟩)), fun p hp q hq => ?_⟩
    rcases hp with rfl | rfl <;> rcases hq with rfl | rfl <;> simp <;> omega
theorem axis_flip {c e r : Int} {p q : S} (h : r < c * (p.x - q.x) + e * (p.y - q.y)) : r < -c * (q.x - p.x) + -e * (q.y - p.y) := by
  have : -c * (q.x - p.x) + -e * (q.y - p.y) = c * (p.x - q.x) + e * (p.y - q.y) := by grind
  omega
theorem far_sides {x y : Swp} {r : Int} (h0 : 0 ≤ r) (h : farB x y r = true) : sidesB x y r = false := by
  obtain ⟨c, e, hce, hh⟩ := far_axis h
  unfold sidesB
  rw [Bool.or_eq_false_iff]
  constructor
  · cases hc : crossB x.a x.b y.a y.b with
    | false => rfl
    | true =>
      obtain ⟨g1, g2⟩ := cross_opp hc
      exact (far_cross h0 (hh x.a (.inl rfl) y.a (.inl rfl)) (hh x.a (.inl rfl) y.b (.inr rfl)) (hh x.b (.inr rfl) y.a (.inl rfl)) (hh x.b (.inr rfl) y.b (.inr rfl)) g1 g2).elim
  · rw [List.any_eq_false]
    intro z hz
    simp only [seps, List.mem_cons, List.not_mem_nil, or_false] at hz
    rw [Bool.not_eq_true]
    rcases hz with rfl | rfl | rfl | rfl
    · exact far_seg hce h0 (hh _ (.inl rfl) _ (.inl rfl)) (hh _ (.inl rfl) _ (.inr rfl))
    · exact far_seg hce h0 (hh _ (.inr rfl) _ (.inl rfl)) (hh _ (.inr rfl) _ (.inr rfl))
    · exact far_seg hce.neg h0 (axis_flip (hh _ (.inl rfl) _ (.inl rfl))) (axis_flip (hh _ (.inr rfl) _ (.inl rfl)))
    · exact far_seg hce.neg h0 (axis_flip (hh _ (.inl rfl) _ (.inr rfl))) (axis_flip (hh _ (.inr rfl) _ (.inr rfl)))
theorem far_bends {x y : Swp} {r : Int} (hx : ∀ s ∈ x.bends, s = x.a ∨ s = x.b) (h0 : 0 ≤ r) (h : farB x y r = true) : bendsB x y r = false := by
  obtain ⟨c, e, hce, hh⟩ := far_axis h
  unfold bendsB
  rw [List.any_eq_false]
  intro s hs
  rw [Bool.not_eq_true]
  exact far_seg hce h0 (hh _ (hx s hs) _ (.inl rfl)) (hh _ (hx s hs) _ (.inr rfl))
theorem far_both {x y : Swp} {r : Int} (hx : ∀ s ∈ x.bends, s = x.a ∨ s = x.b) (hy : ∀ s ∈ y.bends, s = y.a ∨ s = y.b) (h0 : 0 ≤ r) (h : farB x y r = true) : bothB x y r = false := by
  obtain ⟨c, e, hce, hh⟩ := far_axis h
  unfold bothB
  rw [List.any_eq_false]
  intro s hs
  rw [Bool.not_eq_true, List.any_eq_false]
  intro u hu
  rw [Bool.not_eq_true]
  exact (far_spot hce h0 (hh _ (hx s hs) _ (hy u hu))).1
/-- the program's look at two strips -/
def foulB (x y : Swp) (hx sx hy sy : Int) : Bool :=
  (!farB x y (hx + hy) && sidesB x y (hx + hy)) || ((!farB x y (hx + sx + hy) && bendsB x y (hx + sx + hy)) || ((!farB x y (hx + hy + sy) && bendsB y x (hx + hy + sy)) || (!farB x y (hx + sx + hy + sy) && bothB x y (hx + sx + hy + sy))))
def foulR (x y : Swp) (hx sx hy sy : Int) : Bool :=
  sidesB x y (hx + hy) || (bendsB x y (hx + sx + hy) || (bendsB y x (hx + hy + sy) || bothB x y (hx + sx + hy + sy)))
theorem and_far {f g : Bool} (h : f = true → g = false) : (!f && g) = g := by
  cases f
  · rfl
  · simp [h rfl]
theorem foul_same {x y : Swp} {hx sx hy sy : Int} (bx : ∀ s ∈ x.bends, s = x.a ∨ s = x.b) (b_y : ∀ s ∈ y.bends, s = y.a ∨ s = y.b) (h1 : 0 ≤ hx) (h2 : 0 ≤ sx) (h3 : 0 ≤ hy) (h4 : 0 ≤ sy) : foulB x y hx sx hy sy = foulR x y hx sx hy sy := by
  unfold foulB foulR
  rw [and_far (fun h => far_sides (by omega) h), and_far (fun h => far_bends bx (by omega) h), and_far (fun h => far_bends b_y (by omega) (by rw [farB_symm]; exact h)), and_far (fun h => far_both bx b_y (by omega) h)]
end Go.Proofs.YtekambdnmaompaaGreat.SW

namespace Go.Proofs.YtekambdnmaompaaGreat.SW
set_option linter.unusedVariables false
set_option linter.unusedSimpArgs false
open Go.RowKit

theorem hTake {P : Program} {ops : Array Oper} {Q : Exit → Act → World → Prop} {md : Region.Mode} {S : World → Prop} {i : Nat} {d : Tmp} {oi : Oper} {v : Value} {fuel : Nat} {listed : Array Bool} {a : Act} {w : World} (hi : ops[i]? = some oi) (hd : oi.dst = some d)
    (hs : Region.noSelect ops = true) (hf : Region.free md ops listed i = true) (hr : (Region.ready md ops listed).contains i = true)
    (hQ : ∀ c a w, Q (.panic c) (a.put (some d) v) w → Q (.panic c) a w) (hy : YieldsIf P ops S oi v a) (hS : S w)
    (h : wpAnyH P md ops Q S fuel (listed.setIfInBounds i true) (a.put (some d) v) w) : wpAnyH P md ops Q S (fuel + 1) listed a w :=
  wpAnyH_take hi hs hf hr (by rw [hd]; exact hQ) hy hS (by rw [hd]; exact h)
/-- four cells -/
def C4 (k1 k2 : Nat) (a b c d : Value) (w' : World) : Prop := w'.cell? ⟨k1, 0, none⟩ = some a ∧ w'.cell? ⟨k1, 1, none⟩ = some b ∧ w'.cell? ⟨k2, 0, none⟩ = some c ∧ w'.cell? ⟨k2, 1, none⟩ = some d
theorem nanI_any (x : Int) (w : World) : Calls Tryz.prog 158 #[.int .i64 x] w fun e w' => e = .returned (.bool false) ∧ w = w' := by
  go_enter Tryz.func158, Tryz.ntmps158
  go_wp2
  go_ret
  exact ⟨rfl, rfl⟩
theorem nanU_any (x : Int) (w : World) : Calls Tryz.prog 159 #[.int .u64 x] w fun e w' => e = .returned (.bool false) ∧ w = w' := by
  go_enter Tryz.func159, Tryz.ntmps159
  go_wp2
  go_ret
  exact ⟨rfl, rfl⟩
set_option maxHeartbeats 1000000 in
theorem compareI_any (x y : Int) (w : World) : Calls Tryz.prog 134 #[.int .i64 x, .int .i64 y] w fun e w' => e = .returned (.int .i64 (cmpI x y)) ∧ w = w' := by
  have HC := Lib.hid (show cmpI x y = if x < y then -1 else if x = y then 0 else 1 from rfl)
  by_cases h1 : x < y
  · have HV := Lib.hid (show cmpI x y = -1 by rw [HC.out, if_pos h1])
    clear HC
    go_enter Tryz.func134, Tryz.ntmps134
    go_wp2_with fail
    refine (nanI_any _ _).mono ?_
    rintro e w1 ⟨rfl, rfl⟩
    go_wp2_with fail
    refine (nanI_any _ _).mono ?_
    rintro e w1 ⟨rfl, rfl⟩
    go_wp2
    go_ret
    exact ⟨by rw [HV.out]; rfl, rfl⟩
  · by_cases h2 : y < x
    · have HV := Lib.hid (show cmpI x y = 1 by rw [HC.out, if_neg h1, if_neg (by omega)])
      clear HC
      go_enter Tryz.func134, Tryz.ntmps134
      go_wp2_with fail
      refine (nanI_any _ _).mono ?_
      rintro e w1 ⟨rfl, rfl⟩
      go_wp2_with fail
      refine (nanI_any _ _).mono ?_
      rintro e w1 ⟨rfl, rfl⟩
      go_wp2
      go_ret
      exact ⟨by rw [HV.out]; rfl, rfl⟩
    · have HV := Lib.hid (show cmpI x y = 0 by rw [HC.out, if_neg h1, if_pos (by omega)])
      clear HC
      go_enter Tryz.func134, Tryz.ntmps134
      go_wp2_with fail
      refine (nanI_any _ _).mono ?_
      rintro e w1 ⟨rfl, rfl⟩
      go_wp2_with fail
      refine (nanI_any _ _).mono ?_
      rintro e w1 ⟨rfl, rfl⟩
      go_wp2
      go_ret
      exact ⟨by rw [HV.out]; rfl, rfl⟩
set_option maxHeartbeats 1000000 in
theorem compareU_any (x y : Int) (w : World) : Calls Tryz.prog 137 #[.int .u64 x, .int .u64 y] w fun e w' => e = .returned (.int .i64 (cmpI x y)) ∧ w = w' := by
  have HC := Lib.hid (show cmpI x y = if x < y then -1 else if x = y then 0 else 1 from rfl)
  by_cases h1 : x < y
  · have HV := Lib.hid (show cmpI x y = -1 by rw [HC.out, if_pos h1])
    clear HC
    go_enter Tryz.func137, Tryz.ntmps137
    go_wp2_with fail
    refine (nanU_any _ _).mono ?_
    rintro e w1 ⟨rfl, rfl⟩
    go_wp2_with fail
    refine (nanU_any _ _).mono ?_
    rintro e w1 ⟨rfl, rfl⟩
    go_wp2
    go_ret
    exact ⟨by rw [HV.out]; rfl, rfl⟩
  · by_cases h2 : y < x
    · have HV := Lib.hid (show cmpI x y = 1 by rw [HC.out, if_neg h1, if_neg (by omega)])
      clear HC
      go_enter Tryz.func137, Tryz.ntmps137
      go_wp2_with fail
      refine (nanU_any _ _).mono ?_
      rintro e w1 ⟨rfl, rfl⟩
      go_wp2_with fail
      refine (nanU_any _ _).mono ?_
      rintro e w1 ⟨rfl, rfl⟩
      go_wp2
      go_ret
      exact ⟨by rw [HV.out]; rfl, rfl⟩
    · have HV := Lib.hid (show cmpI x y = 0 by rw [HC.out, if_neg h1, if_pos (by omega)])
      clear HC
      go_enter Tryz.func137, Tryz.ntmps137
      go_wp2_with fail
      refine (nanU_any _ _).mono ?_
      rintro e w1 ⟨rfl, rfl⟩
      go_wp2_with fail
      refine (nanU_any _ _).mono ?_
      rintro e w1 ⟨rfl, rfl⟩
      go_wp2
      go_ret
      exact ⟨by rw [HV.out]; rfl, rfl⟩
/-- the first of two numbers that is not 0 -/
def orI (a b : Int) : Int := if a ≠ 0 then a else b
set_option maxHeartbeats 1000000 in
theorem or_any (g : Nat) (a b : Int) (w : World) (h0 : w.cell? ⟨g, 0, none⟩ = some (.int .i64 a)) (h1 : w.cell? ⟨g, 1, none⟩ = some (.int .i64 b)) :
    Calls Tryz.prog 136 #[.slice (some ⟨g, 0, none⟩) 2 2] w fun e w' => e = .returned (.int .i64 (orI a b)) ∧ w = w' := by
  have HO := Lib.hid (show orI a b = if a ≠ 0 then a else b from rfl)
  go_enter Tryz.func136, Tryz.ntmps136
  go_wp2
  go_loop [8] (fun s => ∃ i : Nat, i ≤ 2 ∧ s = .int .i64 (i : Int) ∧ (1 ≤ i → a = 0) ∧ (2 ≤ i → b = 0)) (fun s => 2 - (intOf s).toNat)
  case atStart => exact ⟨0, by omega, rfl, (fun h => by omega), fun h => by omega⟩
  case round =>
    obtain ⟨i, hi, rfl, h3, h4⟩ := hrel
    rcases (show i = 0 ∨ i = 1 ∨ i = 2 by omega) with rfl | rfl | rfl
    · clear h3 h4
      by_cases ha : a = 0
      · have HA := Lib.hid ha
        have ha2 : (a != 0) = false := by simp [ha]
        clear ha
        go_wp2
        go_round
        case rel => exact ⟨1, by omega, rfl, (fun _ => HA.out), fun h => by omega⟩
        case measure => simp [intOf]
      · have HV := Lib.hid (show orI a b = a by rw [HO.out, if_pos ha])
        have ha2 : (a != 0) = true := by simp [ha]
        go_wp2
        go_ret
        exact ⟨by rw [HV.out]; rfl, rfl⟩
    · have ha := h3 (by omega)
      clear h3 h4
      by_cases hb : b = 0
      · have HA := Lib.hid ha
        have HBB := Lib.hid hb
        have hb2 : (b != 0) = false := by simp [hb]
        clear ha hb
        go_wp2
        go_round
        case rel => exact ⟨2, by omega, rfl, (fun _ => HA.out), fun _ => HBB.out⟩
        case measure => simp [intOf]
      · have HV := Lib.hid (show orI a b = b by rw [HO.out, if_neg (by simp [ha])])
        have hb2 : (b != 0) = true := by simp [hb]
        clear ha
        go_wp2
        go_ret
        exact ⟨by rw [HV.out]; rfl, rfl⟩
    · have HV := Lib.hid (show orI a b = 0 by rw [HO.out, if_neg (by simp [h3 (by omega)]), h4 (by omega)])
      clear h3 h4
      go_wp2
      go_ret
      exact ⟨by rw [HV.out]; rfl, rfl⟩
/-- product of two words -/
theorem u_mask (a : Nat) (ha : a < 18446744073709551616) : bits .and .u64 (a : Int) 4294967295 = ((a % 4294967296 : Nat) : Int) := by
  have h := bits_and_u64_nat a 4294967295 ha (by omega)
  rwa [show a &&& 4294967295 = a % 4294967296 from Nat.and_two_pow_sub_one_eq_mod a 32] at h
theorem u_wrap {a : Nat} (ha : a < 18446744073709551616) : IntKind.u64.wrap (a : Int) = (a : Int) := by rw [IntKind.wrap_u64]; omega
theorem u_rest (a : Nat) : IntKind.u64.wrap (a : Int) = ((a % 18446744073709551616 : Nat) : Int) := by rw [IntKind.wrap_u64]; omega
theorem u_half (a : Nat) : (a : Int) / 4294967296 = ((a / 4294967296 : Nat) : Int) := by omega
set_option maxHeartbeats 1000000 in
theorem mul64_any (x y : Nat) (hx : x < 18446744073709551616) (hy : y < 18446744073709551616) (w : World) :
    Calls Tryz.prog 138 #[.int .u64 x, .int .u64 y] w fun e w' => e = .returned (.tuple #[.int .u64 ((x * y / 18446744073709551616 : Nat) : Int), .int .u64 ((x * y % 18446744073709551616 : Nat) : Int)]) ∧ w = w' := by
  obtain ⟨bd, bt, bw, hhi⟩ := Lib.mul64_hi x y hx hy
  have ba := Lib.half_mul_le (a := x / 4294967296) (b := y / 4294967296) (by omega) (by omega)
  have bb := Lib.half_mul_le (a := x / 4294967296) (b := y % 4294967296) (by omega) (by omega)
  have bc := Lib.half_mul_le (a := x % 4294967296) (b := y / 4294967296) (by omega) (by omega)
  go_enter Tryz.func138, Tryz.ntmps138
  go_wp2
  simp only [u_mask x hx, u_mask y hy, u_half, ← Int.natCast_mul, ← Int.natCast_add, u_wrap bd, u_wrap (show x / 4294967296 * (y % 4294967296) < 18446744073709551616 by omega), u_wrap bt, u_mask _ bt, u_wrap (show x % 4294967296 * (y / 4294967296) < 18446744073709551616 by omega), u_wrap bw, u_wrap (show x / 4294967296 * (y / 4294967296) < 18446744073709551616 by omega),
    u_wrap (show x / 4294967296 * (y / 4294967296) + (x / 4294967296 * (y % 4294967296) + x % 4294967296 * (y % 4294967296) / 4294967296) / 4294967296 < 18446744073709551616 by omega),
    u_wrap (show x / 4294967296 * (y / 4294967296) + (x / 4294967296 * (y % 4294967296) + x % 4294967296 * (y % 4294967296) / 4294967296) / 4294967296 + ((x / 4294967296 * (y % 4294967296) + x % 4294967296 * (y % 4294967296) / 4294967296) % 4294967296 + x % 4294967296 * (y / 4294967296)) / 4294967296 < 18446744073709551616 by omega), u_rest (x * y)]
  rw [hhi]
  go_ret2
  exact ⟨rfl, rfl⟩
set_option maxHeartbeats 1000000 in
theorem product_any (x y : Nat) (hx : x < 18446744073709551616) (hy : y < 18446744073709551616) (w : World) :
    Calls Tryz.prog 113 #[.int .u64 x, .int .u64 y] w fun e w' => e = .returned (.agg #[.int .u64 ((x * y / 18446744073709551616 : Nat) : Int), .int .u64 ((x * y % 18446744073709551616 : Nat) : Int)]) ∧ Below w.heap.size w w' := by
  obtain ⟨hi, hhi⟩ : ∃ z, x * y / 18446744073709551616 = z := ⟨_, rfl⟩
  obtain ⟨lo, hlo⟩ : ∃ z, x * y % 18446744073709551616 = z := ⟨_, rfl⟩
  have HM := Lib.hid (show ∀ w, Calls Tryz.prog 138 #[.int .u64 (x : Int), .int .u64 (y : Int)] w fun e w' => e = .returned (.tuple #[.int .u64 (hi : Int), .int .u64 (lo : Int)]) ∧ w = w' from fun w => by rw [← hhi, ← hlo]; exact mul64_any x y hx hy w)
  rw [hhi, hlo]
  clear hhi hlo
  go_enter Tryz.func113, Tryz.ntmps113
  go_wp2_with fail
  refine (HM.out _).mono ?_
  rintro e w1 ⟨rfl, rfl⟩
  go_wp2
  exact bodyPost_ret (v := .agg #[.int .u64 (hi : Int), .int .u64 (lo : Int)]) (by simp [results, Tryz.results113, go_sem]) rfl ⟨rfl, (Below.refl _ _).alloc (Nat.le_refl _) _⟩
/-- comparing two words after two words is comparing the numbers -/
theorem or_words (p q : Nat) : orI (cmpI ((p / 18446744073709551616 : Nat) : Int) ((q / 18446744073709551616 : Nat) : Int)) (cmpI ((p % 18446744073709551616 : Nat) : Int) ((q % 18446744073709551616 : Nat) : Int)) = cmpI (p : Int) (q : Int) := by
  unfold orI cmpI
  have := Nat.div_add_mod p 18446744073709551616
  have := Nat.div_add_mod q 18446744073709551616
  have := Nat.mod_lt p (show 0 < 18446744073709551616 by omega)
  have := Nat.mod_lt q (show 0 < 18446744073709551616 by omega)
  generalize p / 18446744073709551616 = a at *
  generalize p % 18446744073709551616 = b at *
  generalize q / 18446744073709551616 = c at *
  generalize q % 18446744073709551616 = d at *
  split <;> split <;> (try split) <;> (try split) <;> (try split) <;> omega
/-- a number of two words -/
def wd (p : Nat) : List Value := [.int .u64 ((p / 18446744073709551616 : Nat) : Int), .int .u64 ((p % 18446744073709551616 : Nat) : Int)]
set_option maxRecDepth 100000 in
set_option maxHeartbeats 2000000 in
theorem wideCmp_any (p q : Nat) (w : World) : Calls Tryz.prog 112 #[.agg (wd p).toArray, .agg (wd q).toArray] w fun e w' => e = .returned (.int .i64 (cmpI (p : Int) (q : Int))) ∧ Below w.heap.size w w' := by
  rw [← or_words]
  unfold wd
  generalize ((p / 18446744073709551616 : Nat) : Int) = a
  generalize ((p % 18446744073709551616 : Nat) : Int) = b
  generalize ((q / 18446744073709551616 : Nat) : Int) = c
  generalize ((q % 18446744073709551616 : Nat) : Int) = d
  have hb := ((Below.refl _ w).alloc (Nat.le_refl _) (.cells #[.int .u64 a, .int .u64 b] 148)).alloc (by simp) (.cells #[.int .u64 c, .int .u64 d] 148)
  obtain ⟨W1, hW1⟩ : ∃ z, (w.alloc (.cells #[.int .u64 a, .int .u64 b] 148)).alloc (.cells #[.int .u64 c, .int .u64 d] 148) = z := ⟨_, rfl⟩
  have c0 := fun i => cell_keep1 (o := .cells #[.int .u64 c, .int .u64 d] 148) (cell_new1 w #[.int .u64 a, .int .u64 b] 148 i) (by simp)
  have c1 := fun i => cell_new1 (w.alloc (.cells #[.int .u64 a, .int .u64 b] 148)) #[.int .u64 c, .int .u64 d] 148 i
  rw [show (w.alloc (.cells #[.int .u64 a, .int .u64 b] 148)).heap.size = w.heap.size + 1 by simp] at c1
  have hz : ((w.alloc (.cells #[.int .u64 a, .int .u64 b] 148)).alloc (.cells #[.int .u64 c, .int .u64 d] 148)).heap.size = w.heap.size + 2 := by simp
  rw [hW1] at hb c0 c1 hz
  have HK := Lib.hid (show ∀ wx, Below W1.heap.size W1 wx → C4 w.heap.size (w.heap.size + 1) (.int .u64 a) (.int .u64 b) (.int .u64 c) (.int .u64 d) wx from fun wx h =>
    ⟨(h.cell (p := ⟨w.heap.size, 0, none⟩) (by simp; omega)).trans (c0 0), (h.cell (p := ⟨w.heap.size, 1, none⟩) (by simp; omega)).trans (c0 1), (h.cell (p := ⟨w.heap.size + 1, 0, none⟩) (by simp; omega)).trans (c1 0), (h.cell (p := ⟨w.heap.size + 1, 1, none⟩) (by simp; omega)).trans (c1 1)⟩)
  have HB1 := Lib.hid hb
  clear hb c0 c1 hz
  go_enter Tryz.func112, Tryz.ntmps112
  go_upto_region 1 with (fail)
  clear hW1
  have HS := Lib.hid (HK.out _ (Below.refl _ _).drew)
  refine wp_region_held_drew (S := C4 w.heap.size (w.heap.size + 1) (.int .u64 a) (.int .u64 b) (.int .u64 c) (.int .u64 d)) (by kernel_rfl) HS.out (fun _ => ?_)
  refine hTake (i := 0) (d := 5) (v := .pointer (some ⟨w.heap.size, 0, none⟩)) rfl rfl (by kernel_rfl) (by kernel_rfl) (by kernel_rfl) (fun _ _ _ h => h) (Or.inl ⟨rfl, ?gr⟩) HS.out ?_
  case gr =>
    rintro W' ⟨s0, s1, s2, s3⟩
    go_simp
  simp only [Act.put, List.setIfInBounds_toArray, List.set_cons_zero, List.set_cons_succ]
  refine hTake (i := 1) (d := 6) (v := .int .u64 a) rfl rfl (by kernel_rfl) (by kernel_rfl) (by kernel_rfl) (fun _ _ _ h => h) (Or.inl ⟨rfl, ?gr⟩) HS.out ?_
  case gr =>
    rintro W' ⟨s0, s1, s2, s3⟩
    go_simp
  simp only [Act.put, List.setIfInBounds_toArray, List.set_cons_zero, List.set_cons_succ]
  refine hTake (i := 2) (d := 7) (v := .pointer (some ⟨w.heap.size + 1, 0, none⟩)) rfl rfl (by kernel_rfl) (by kernel_rfl) (by kernel_rfl) (fun _ _ _ h => h) (Or.inl ⟨rfl, ?gr⟩) HS.out ?_
  case gr =>
    rintro W' ⟨s0, s1, s2, s3⟩
    go_simp
  simp only [Act.put, List.setIfInBounds_toArray, List.set_cons_zero, List.set_cons_succ]
  refine hTake (i := 3) (d := 8) (v := .int .u64 c) rfl rfl (by kernel_rfl) (by kernel_rfl) (by kernel_rfl) (fun _ _ _ h => h) (Or.inl ⟨rfl, ?gr⟩) HS.out ?_
  case gr =>
    rintro W' ⟨s0, s1, s2, s3⟩
    go_simp
  simp only [Act.put, List.setIfInBounds_toArray, List.set_cons_zero, List.set_cons_succ]
  refine hTake (i := 5) (d := 10) (v := .pointer (some ⟨w.heap.size, 1, none⟩)) rfl rfl (by kernel_rfl) (by kernel_rfl) (by kernel_rfl) (fun _ _ _ h => h) (Or.inl ⟨rfl, ?gr⟩) HS.out ?_
  case gr =>
    rintro W' ⟨s0, s1, s2, s3⟩
    go_simp
  simp only [Act.put, List.setIfInBounds_toArray, List.set_cons_zero, List.set_cons_succ]
  refine hTake (i := 6) (d := 11) (v := .int .u64 b) rfl rfl (by kernel_rfl) (by kernel_rfl) (by kernel_rfl) (fun _ _ _ h => h) (Or.inl ⟨rfl, ?gr⟩) HS.out ?_
  case gr =>
    rintro W' ⟨s0, s1, s2, s3⟩
    go_simp
  simp only [Act.put, List.setIfInBounds_toArray, List.set_cons_zero, List.set_cons_succ]
  refine hTake (i := 7) (d := 12) (v := .pointer (some ⟨w.heap.size + 1, 1, none⟩)) rfl rfl (by kernel_rfl) (by kernel_rfl) (by kernel_rfl) (fun _ _ _ h => h) (Or.inl ⟨rfl, ?gr⟩) HS.out ?_
  case gr =>
    rintro W' ⟨s0, s1, s2, s3⟩
    go_simp
  simp only [Act.put, List.setIfInBounds_toArray, List.set_cons_zero, List.set_cons_succ]
  refine hTake (i := 8) (d := 13) (v := .int .u64 d) rfl rfl (by kernel_rfl) (by kernel_rfl) (by kernel_rfl) (fun _ _ _ h => h) (Or.inl ⟨rfl, ?gr⟩) HS.out ?_
  case gr =>
    rintro W' ⟨s0, s1, s2, s3⟩
    go_simp
  simp only [Act.put, List.setIfInBounds_toArray, List.set_cons_zero, List.set_cons_succ]
  refine wpAnyH_ready (rs := [4]) (by kernel_rfl) (by simp) ?_
  refine AllReadyH.cons rfl (fun K hK => ?_) AllReadyH.nil
  rw [if_pos (by rfl)]
  go_simp
  go_at_call 137
  refine (compareU_any _ _ _).mono ?_
  rintro e v5 ⟨rfl, rfl⟩
  refine hK.out _ _ HS.out (fun _ => ?_)
  clear hK K
  try simp only [Act.put, List.setIfInBounds_toArray, List.set_cons_zero, List.set_cons_succ]
  refine wpAnyH_ready (rs := [9]) (by kernel_rfl) (by simp) ?_
  refine AllReadyH.cons rfl (fun K hK => ?_) AllReadyH.nil
  rw [if_pos (by rfl)]
  go_simp
  go_at_call 137
  refine (compareU_any _ _ _).mono ?_
  rintro e v5 ⟨rfl, rfl⟩
  refine hK.out _ _ HS.out (fun _ => ?_)
  clear hK K
  try simp only [Act.put, List.setIfInBounds_toArray, List.set_cons_zero, List.set_cons_succ]
  refine wpAnyH_ready (rs := [10]) (by kernel_rfl) (by simp) ?_
  refine AllReadyH.cons rfl (fun K hK => ?_) AllReadyH.nil
  rw [if_pos (by rfl)]
  go_simp
  have hal := (Below.refl W1.heap.size W1.drew).alloc (Nat.le_refl _) (.cells #[.int .i64 (cmpI a c), .int .i64 (cmpI b d)] 3)
  have HS := Lib.hid (HK.out _ ((Below.refl _ _).drew.trans hal))
  refine hK.out _ _ HS.out (fun _ => ?_)
  clear hK K
  try simp only [Act.put, List.setIfInBounds_toArray, List.set_cons_zero, List.set_cons_succ]
  refine wpAnyH_ready (rs := [11]) (by kernel_rfl) (by simp) ?_
  refine AllReadyH.cons rfl (fun K hK => ?_) AllReadyH.nil
  rw [if_pos (by rfl)]
  go_simp
  go_at_call 136
  refine (or_any _ _ _ _ (cell_new1 _ _ _ 0) (cell_new1 _ _ _ 1)).mono ?_
  rintro e v6 ⟨rfl, rfl⟩
  refine hK.out _ _ HS.out (fun _ => ?_)
  clear hK K
  try simp only [Act.put, List.setIfInBounds_toArray, List.set_cons_zero, List.set_cons_succ]
  refine hTake (i := 12) (d := 4) (v := .int .i64 (orI (cmpI a c) (cmpI b d))) rfl rfl (by kernel_rfl) (by kernel_rfl) (by kernel_rfl) (fun _ _ _ h => h) (Or.inl ⟨rfl, ?gr⟩) HS.out ?_
  case gr =>
    rintro W' ⟨s0, s1, s2, s3⟩
    go_simp
  simp only [Act.put, List.setIfInBounds_toArray, List.set_cons_zero, List.set_cons_succ]
  refine wpAnyH_done (by kernel_rfl) ?_ _
  go_wp2
  go_ret
  exact ⟨rfl, HB1.out.trans (((Below.refl _ _).drew.trans hal).mono HB1.out.size)⟩
end Go.Proofs.YtekambdnmaompaaGreat.SW

namespace Go.Proofs.YtekambdnmaompaaGreat.SW
set_option linter.unusedVariables false
set_option linter.unusedSimpArgs false
open Go.RowKit

/-- a separation in memory -/
def sepC (z : Sp) : List Value := wd z.over.toNat ++ [.int .u64 z.under]
theorem sepC_eq (z : Sp) : (sepC z).toArray = #[.int .u64 ((z.over.toNat / 18446744073709551616 : Nat) : Int), .int .u64 ((z.over.toNat % 18446744073709551616 : Nat) : Int), .int .u64 z.under] := rfl
structure SpOk (z : Sp) : Prop where
  o0 : 0 ≤ z.over
  o1 : z.over < 340282366920938463463374607431768211456
  u0 : 0 < z.under
  u1 : z.under < 9223372036854775808
/-- three cells -/
def C3c (k : Nat) (a b c : Value) (w' : World) : Prop := w'.cell? ⟨k, 0, none⟩ = some a ∧ w'.cell? ⟨k, 1, none⟩ = some b ∧ w'.cell? ⟨k, 2, none⟩ = some c
set_option maxRecDepth 100000 in
set_option maxHeartbeats 2000000 in
theorem sepCmp_any (z : Sp) (d : Int) (w : World) (hz : SpOk z) (hd1 : d * d < 9223372036854775808) :
    Calls Tryz.prog 88 #[.agg (sepC z).toArray, .int .i64 d] w fun e w' => e = .returned (.int .i64 (z.cmp d)) ∧ Below w.heap.size w w' := by
  have hd0 := sq_nn d
  obtain ⟨D, hD⟩ : ∃ D : Nat, d * d = (D : Int) := ⟨(d * d).toNat, by omega⟩
  obtain ⟨U, hU⟩ : ∃ U : Nat, z.under = (U : Int) := ⟨z.under.toNat, by have := hz.u0; omega⟩
  obtain ⟨O, hO⟩ : ∃ O : Nat, z.over = (O : Int) := ⟨z.over.toNat, by have := hz.o0; omega⟩
  have hU1 : U < 9223372036854775808 := by have := hz.u1; omega
  have hO1 : z.over.toNat = O := by omega
  have HV := Lib.hid (show z.cmp d = cmpI (O : Int) ((D * U : Nat) : Int) by
    unfold Sp.cmp cmpI
    rw [hD, hU, hO, Int.natCast_mul])
  rw [HV.out]
  rw [sepC_eq, hO1, hU]
  rw [hD] at hd1
  have hDD : D < 9223372036854775808 := by omega
  obtain ⟨a, ha⟩ : ∃ z, ((O / 18446744073709551616 : Nat) : Int) = z := ⟨_, rfl⟩
  obtain ⟨b, hb⟩ : ∃ z, ((O % 18446744073709551616 : Nat) : Int) = z := ⟨_, rfl⟩
  have HW := Lib.hid (show ∀ w, Calls Tryz.prog 112 #[.agg #[.int .u64 a, .int .u64 b], .agg #[.int .u64 ((D * U / 18446744073709551616 : Nat) : Int), .int .u64 ((D * U % 18446744073709551616 : Nat) : Int)]] w fun e w' => e = .returned (.int .i64 (cmpI (O : Int) ((D * U : Nat) : Int))) ∧ Below w.heap.size w w' from fun w => by rw [← ha, ← hb]; exact wideCmp_any O (D * U) w)
  have HM := Lib.hid (show ∀ w, Calls Tryz.prog 113 #[.int .u64 (D : Int), .int .u64 (U : Int)] w fun e w' => e = .returned (.agg #[.int .u64 ((D * U / 18446744073709551616 : Nat) : Int), .int .u64 ((D * U % 18446744073709551616 : Nat) : Int)]) ∧ Below w.heap.size w w' from fun w => product_any D U (by omega) (by omega) w)
  rw [ha, hb]
  generalize ((D * U / 18446744073709551616 : Nat) : Int) = p1 at *
  generalize ((D * U % 18446744073709551616 : Nat) : Int) = p2 at *
  obtain ⟨r, hr⟩ : ∃ z, cmpI (O : Int) ((D * U : Nat) : Int) = z := ⟨_, rfl⟩
  rw [hr] at HW ⊢
  have w1' : IntKind.i64.wrap (D : Int) = (D : Int) := by rw [IntKind.wrap_i64]; omega
  have w2' : IntKind.u64.wrap (D : Int) = (D : Int) := by rw [IntKind.wrap_u64]; omega
  have hb0 := (Below.refl _ w).alloc (Nat.le_refl _) (.cells #[.int .u64 a, .int .u64 b, .int .u64 (U : Int)] 150)
  have c0 := fun i => cell_new1 w #[.int .u64 a, .int .u64 b, .int .u64 (U : Int)] 150 i
  have hzz : (w.alloc (.cells #[.int .u64 a, .int .u64 b, .int .u64 (U : Int)] 150)).heap.size = w.heap.size + 1 := by simp
  obtain ⟨W1, hW1⟩ : ∃ z, w.alloc (.cells #[.int .u64 a, .int .u64 b, .int .u64 (U : Int)] 150) = z := ⟨_, rfl⟩
  rw [hW1] at hb0 c0 hzz
  have HK := Lib.hid (show ∀ wx, Below W1.heap.size W1 wx → C3c w.heap.size (.int .u64 a) (.int .u64 b) (.int .u64 (U : Int)) wx from fun wx h =>
    ⟨(h.cell (p := ⟨w.heap.size, 0, none⟩) (by simp; omega)).trans (c0 0), (h.cell (p := ⟨w.heap.size, 1, none⟩) (by simp; omega)).trans (c0 1), (h.cell (p := ⟨w.heap.size, 2, none⟩) (by simp; omega)).trans (c0 2)⟩)
  have HB1 := Lib.hid hb0
  clear hb0 c0 hzz HV hO hO1 hU hz ha hb hr
  go_enter Tryz.func88, Tryz.ntmps88
  go_upto_region 1 with (fail)
  clear hW1
  have hbq : Below W1.heap.size W1 W1.drew := (Below.refl _ _).drew
  have HS := Lib.hid (HK.out _ hbq)
  refine wp_region_held_drew (S := C3c w.heap.size (.int .u64 a) (.int .u64 b) (.int .u64 (U : Int))) (by kernel_rfl) HS.out (fun _ => ?_)
  refine hTake (i := 0) (d := 5) (v := .pointer (some ⟨w.heap.size, 0, none⟩)) rfl rfl (by kernel_rfl) (by kernel_rfl) (by kernel_rfl) (fun _ _ _ h => h) (Or.inl ⟨rfl, ?gr⟩) HS.out ?_
  case gr =>
    rintro W' ⟨s0, s1, s2⟩
    go_simp
  simp only [Act.put, List.setIfInBounds_toArray, List.set_cons_zero, List.set_cons_succ]
  refine hTake (i := 1) (d := 6) (v := .agg #[.int .u64 a, .int .u64 b]) rfl rfl (by kernel_rfl) (by kernel_rfl) (by kernel_rfl) (fun _ _ _ h => h) (Or.inl ⟨rfl, ?gr⟩) HS.out ?_
  case gr =>
    rintro W' ⟨s0, s1, s2⟩
    go_simp
  simp only [Act.put, List.setIfInBounds_toArray, List.set_cons_zero, List.set_cons_succ]
  refine hTake (i := 2) (d := 7) (v := .int .i64 d) rfl rfl (by kernel_rfl) (by kernel_rfl) (by kernel_rfl) (fun _ _ _ h => h) (Or.inl ⟨rfl, ?gr⟩) HS.out ?_
  case gr =>
    rintro W' ⟨s0, s1, s2⟩
    go_simp
  simp only [Act.put, List.setIfInBounds_toArray, List.set_cons_zero, List.set_cons_succ]
  refine hTake (i := 3) (d := 8) (v := .int .i64 d) rfl rfl (by kernel_rfl) (by kernel_rfl) (by kernel_rfl) (fun _ _ _ h => h) (Or.inl ⟨rfl, ?gr⟩) HS.out ?_
  case gr =>
    rintro W' ⟨s0, s1, s2⟩
    go_simp
  simp only [Act.put, List.setIfInBounds_toArray, List.set_cons_zero, List.set_cons_succ]
  refine hTake (i := 4) (d := 9) (v := .int .i64 (D : Int)) rfl rfl (by kernel_rfl) (by kernel_rfl) (by kernel_rfl) (fun _ _ _ h => h) (Or.inl ⟨rfl, ?gr⟩) HS.out ?_
  case gr =>
    rintro W' ⟨s0, s1, s2⟩
    go_simp
  simp only [Act.put, List.setIfInBounds_toArray, List.set_cons_zero, List.set_cons_succ]
  refine hTake (i := 5) (d := 10) (v := .int .u64 (D : Int)) rfl rfl (by kernel_rfl) (by kernel_rfl) (by kernel_rfl) (fun _ _ _ h => h) (Or.inl ⟨rfl, ?gr⟩) HS.out ?_
  case gr =>
    rintro W' ⟨s0, s1, s2⟩
    go_simp
  simp only [Act.put, List.setIfInBounds_toArray, List.set_cons_zero, List.set_cons_succ]
  refine hTake (i := 6) (d := 11) (v := .pointer (some ⟨w.heap.size, 2, none⟩)) rfl rfl (by kernel_rfl) (by kernel_rfl) (by kernel_rfl) (fun _ _ _ h => h) (Or.inl ⟨rfl, ?gr⟩) HS.out ?_
  case gr =>
    rintro W' ⟨s0, s1, s2⟩
    go_simp
  simp only [Act.put, List.setIfInBounds_toArray, List.set_cons_zero, List.set_cons_succ]
  refine hTake (i := 7) (d := 12) (v := .int .u64 (U : Int)) rfl rfl (by kernel_rfl) (by kernel_rfl) (by kernel_rfl) (fun _ _ _ h => h) (Or.inl ⟨rfl, ?gr⟩) HS.out ?_
  case gr =>
    rintro W' ⟨s0, s1, s2⟩
    go_simp
  simp only [Act.put, List.setIfInBounds_toArray, List.set_cons_zero, List.set_cons_succ]
  refine wpAnyH_ready (rs := [8]) (by kernel_rfl) (by simp) ?_
  refine AllReadyH.cons rfl (fun K hK => ?_) AllReadyH.nil
  rw [if_pos (by rfl)]
  go_simp
  go_at_call 113
  (with_reducible refine (HM.out _).mono ?_)
  rintro e v5 ⟨rfl, hb5⟩
  replace hbq := hbq.trans (hb5.mono hbq.size)
  have HS := Lib.hid (HK.out _ hbq)
  clear hb5
  refine hK.out _ _ HS.out (fun _ => ?_)
  clear hK K
  try simp only [Act.put, List.setIfInBounds_toArray, List.set_cons_zero, List.set_cons_succ]
  refine wpAnyH_ready (rs := [9]) (by kernel_rfl) (by simp) ?_
  refine AllReadyH.cons rfl (fun K hK => ?_) AllReadyH.nil
  rw [if_pos (by rfl)]
  go_simp
  go_at_call 112
  (with_reducible refine (HW.out _).mono ?_)
  rintro e v6 ⟨rfl, hb5⟩
  replace hbq := hbq.trans (hb5.mono hbq.size)
  have HS := Lib.hid (HK.out _ hbq)
  clear hb5
  refine hK.out _ _ HS.out (fun _ => ?_)
  clear hK K
  try simp only [Act.put, List.setIfInBounds_toArray, List.set_cons_zero, List.set_cons_succ]
  refine hTake (i := 10) (d := 4) (v := .int .i64 r) rfl rfl (by kernel_rfl) (by kernel_rfl) (by kernel_rfl) (fun _ _ _ h => h) (Or.inl ⟨rfl, ?gr⟩) HS.out ?_
  case gr =>
    rintro W' ⟨s0, s1, s2⟩
    go_simp
  simp only [Act.put, List.setIfInBounds_toArray, List.set_cons_zero, List.set_cons_succ]
  refine wpAnyH_done (by kernel_rfl) ?_ _
  go_wp2
  go_ret
  exact ⟨rfl, HB1.out.trans (hbq.mono HB1.out.size)⟩
theorem sepSpot_ok {a b : S} (ha : inR a) (hb : inR b) : 0 ≤ (sepSpot a b).over ∧ (sepSpot a b).over ≤ 800000000000000 := by
  have h1 := sq_bound (b.x - a.x) 20000000 (by have := hb.1; have := ha.2.1; omega) (by have := hb.2.1; have := ha.1; omega)
  have h2 := sq_bound (b.y - a.y) 20000000 (by have := hb.2.2.1; have := ha.2.2.2; omega) (by have := hb.2.2.2; have := ha.2.2.1; omega)
  simp only [sepSpot, sq2]
  omega
set_option maxRecDepth 100000 in
set_option maxHeartbeats 2000000 in
theorem fromSpot_any (a b : S) (w : World) (ha : inR a) (hb : inR b) :
    Calls Tryz.prog 135 #[.agg #[.int .i64 a.x, .int .i64 a.y], .agg #[.int .i64 b.x, .int .i64 b.y]] w fun e w' => e = .returned (.agg (sepC (sepSpot a b)).toArray) ∧ Below w.heap.size w w' := by
  obtain ⟨a1, a2, a3, a4⟩ := id ha
  obtain ⟨b1, b2, b3, b4⟩ := id hb
  have q1 := sq_bound (b.x - a.x) 20000000 (by omega) (by omega)
  have q2 := sq_bound (b.y - a.y) 20000000 (by omega) (by omega)
  obtain ⟨h0, h1⟩ := sepSpot_ok ha hb
  have HV := Lib.hid (show (sepC (sepSpot a b)).toArray = #[.int .u64 0, .int .u64 ((b.x - a.x) * (b.x - a.x) + (b.y - a.y) * (b.y - a.y)), .int .u64 1] by
    rw [sepC_eq]
    have e : (sepSpot a b).over = (b.x - a.x) * (b.x - a.x) + (b.y - a.y) * (b.y - a.y) := rfl
    rw [show (((sepSpot a b).over.toNat / 18446744073709551616 : Nat) : Int) = 0 by omega, show (((sepSpot a b).over.toNat % 18446744073709551616 : Nat) : Int) = (sepSpot a b).over by omega, e]
    rfl)
  rw [HV.out]
  clear h0 h1
  go_enter Tryz.func135, Tryz.ntmps135
  go_wp2
  go_quiet (fail)
  go_wp2
  exact bodyPost_ret (v := .agg #[.int .u64 0, .int .u64 ((b.x - a.x) * (b.x - a.x) + (b.y - a.y) * (b.y - a.y)), .int .u64 1]) (by simp [results, Tryz.results135, go_sem]) rfl ⟨rfl, (((bDrewN ((((Below.refl _ w).alloc (Nat.le_refl _) _).alloc (by simp) _).alloc (by simp; omega) _) _).setCell (by simp; omega) _).setCell (by simp; omega) _).setCell (by simp; omega) _⟩
theorem mul_bd {x y c d : Int} (hx1 : -c ≤ x) (hx2 : x ≤ c) (hy1 : -d ≤ y) (hy2 : y ≤ d) : -(c * d) ≤ x * y ∧ x * y ≤ c * d := by
  have hc : 0 ≤ c := by omega
  have hd : 0 ≤ d := by omega
  have e1 : 0 ≤ (c - x) * (d + y) := Int.mul_nonneg (by omega) (by omega)
  have e2 : 0 ≤ (c + x) * (d - y) := Int.mul_nonneg (by omega) (by omega)
  have e3 : 0 ≤ (c - x) * (d - y) := Int.mul_nonneg (by omega) (by omega)
  have e4 : 0 ≤ (c + x) * (d + y) := Int.mul_nonneg (by omega) (by omega)
  have f1 : (c - x) * (d + y) = c * d + c * y - x * d - x * y := by grind
  have f2 : (c + x) * (d - y) = c * d - c * y + x * d - x * y := by grind
  have f3 : (c - x) * (d - y) = c * d - c * y - x * d + x * y := by grind
  have f4 : (c + x) * (d + y) = c * d + c * y + x * d + x * y := by grind
  omega
set_option maxRecDepth 100000 in
set_option maxHeartbeats 2000000 in
theorem side_any (a b s : S) (w : World) (ha : inR a) (hb : inR b) (hs : inR s) :
    Calls Tryz.prog 110 #[.agg #[.int .i64 a.x, .int .i64 a.y], .agg #[.int .i64 b.x, .int .i64 b.y], .agg #[.int .i64 s.x, .int .i64 s.y]] w fun e w' => e = .returned (.int .i64 (sideV a b s)) ∧ Below w.heap.size w w' := by
  obtain ⟨a1, a2, a3, a4⟩ := id ha
  obtain ⟨b1, b2, b3, b4⟩ := id hb
  obtain ⟨s1, s2, s3, s4⟩ := id hs
  have q1 := mul_bd (x := b.x - a.x) (y := s.y - a.y) (c := 20000000) (d := 20000000) (by omega) (by omega) (by omega) (by omega)
  have q2 := mul_bd (x := b.y - a.y) (y := s.x - a.x) (c := 20000000) (d := 20000000) (by omega) (by omega) (by omega) (by omega)
  have HC := Lib.hid (show ∀ w, Calls Tryz.prog 134 #[.int .i64 ((b.x - a.x) * (s.y - a.y)), .int .i64 ((b.y - a.y) * (s.x - a.x))] w fun e w' => e = .returned (.int .i64 (sideV a b s)) ∧ w = w' from fun w => compareI_any _ _ w)
  obtain ⟨r, hr⟩ : ∃ z, sideV a b s = z := ⟨_, rfl⟩
  rw [hr] at HC ⊢
  clear hr
  go_enter Tryz.func110, Tryz.ntmps110
  go_wp2_with fail
  refine (HC.out _).mono ?_
  rintro e w1 ⟨rfl, rfl⟩
  go_wp2
  go_ret
  exact ⟨rfl, (((Below.refl _ w).alloc (Nat.le_refl _) _).alloc (by simp) _).alloc (by simp; omega) _⟩
theorem sideV_bd (a b s : S) : -1 ≤ sideV a b s ∧ sideV a b s ≤ 1 := by
  unfold sideV cmpI
  split
  · omega
  · split <;> omega

/-- four spots in four boxes -/
def P4 (k : Nat) (a b c d : S) (w' : World) : Prop := w'.cell? ⟨k, 0, none⟩ = some (.int .i64 a.x) ∧ w'.cell? ⟨k, 1, none⟩ = some (.int .i64 a.y) ∧ w'.cell? ⟨k + 1, 0, none⟩ = some (.int .i64 b.x) ∧ w'.cell? ⟨k + 1, 1, none⟩ = some (.int .i64 b.y) ∧
  w'.cell? ⟨k + 1 + 1, 0, none⟩ = some (.int .i64 c.x) ∧ w'.cell? ⟨k + 1 + 1, 1, none⟩ = some (.int .i64 c.y) ∧ w'.cell? ⟨k + 1 + 1 + 1, 0, none⟩ = some (.int .i64 d.x) ∧ w'.cell? ⟨k + 1 + 1 + 1, 1, none⟩ = some (.int .i64 d.y)
theorem P4.start (w : World) (a b c d : S) : P4 w.heap.size a b c d ((((w.alloc (.cells #[.int .i64 a.x, .int .i64 a.y] 82)).alloc (.cells #[.int .i64 b.x, .int .i64 b.y] 82)).alloc (.cells #[.int .i64 c.x, .int .i64 c.y] 82)).alloc (.cells #[.int .i64 d.x, .int .i64 d.y] 82)) := by
  have h := fun i => box_cells4 w #[.int .i64 a.x, .int .i64 a.y] #[.int .i64 b.x, .int .i64 b.y] #[.int .i64 c.x, .int .i64 c.y] #[.int .i64 d.x, .int .i64 d.y] 82 82 82 82 i
  have h0 := fun i => cell_keep1 (o := .cells #[.int .i64 d.x, .int .i64 d.y] 82) (cell_keep1 (o := .cells #[.int .i64 c.x, .int .i64 c.y] 82) (cell_keep1 (o := .cells #[.int .i64 b.x, .int .i64 b.y] 82) (cell_new1 w #[.int .i64 a.x, .int .i64 a.y] 82 i) (by simp)) (by simp; omega)) (by simp; omega)
  exact ⟨h0 0, h0 1, (h 0).1, (h 1).1, (h 0).2.1, (h 1).2.1, (h 0).2.2.1, (h 1).2.2.1⟩
theorem P4.keep {k : Nat} {a b c d : S} {w w' : World} (h : P4 k a b c d w) (hb : Below w.heap.size w w') (hk : k + 3 < w.heap.size) : P4 k a b c d w' := by
  obtain ⟨h0, h1, h2, h3, h4, h5, h6, h7⟩ := h
  exact ⟨(hb.cell (p := ⟨k, 0, none⟩) (by simp; omega)).trans h0, (hb.cell (p := ⟨k, 1, none⟩) (by simp; omega)).trans h1, (hb.cell (p := ⟨k + 1, 0, none⟩) (by simp; omega)).trans h2, (hb.cell (p := ⟨k + 1, 1, none⟩) (by simp; omega)).trans h3,
    (hb.cell (p := ⟨k + 1 + 1, 0, none⟩) (by simp; omega)).trans h4, (hb.cell (p := ⟨k + 1 + 1, 1, none⟩) (by simp; omega)).trans h5, (hb.cell (p := ⟨k + 1 + 1 + 1, 0, none⟩) (by simp; omega)).trans h6, (hb.cell (p := ⟨k + 1 + 1 + 1, 1, none⟩) (by simp; omega)).trans h7⟩
set_option maxRecDepth 100000 in
set_option maxHeartbeats 4000000 in
theorem cross_any (a b c d : S) (w : World) (ha : inR a) (hb : inR b) (hc : inR c) (hd : inR d) :
    Calls Tryz.prog 86 #[.agg #[.int .i64 a.x, .int .i64 a.y], .agg #[.int .i64 b.x, .int .i64 b.y], .agg #[.int .i64 c.x, .int .i64 c.y], .agg #[.int .i64 d.x, .int .i64 d.y]] w fun e w' => e = .returned (.bool (crossB a b c d)) ∧ Below w.heap.size w w' := by
  have hp := P4.start w a b c d
  have hb1 := ((((Below.refl _ w).alloc (Nat.le_refl _) (.cells #[.int .i64 a.x, .int .i64 a.y] 82)).alloc (by simp) (.cells #[.int .i64 b.x, .int .i64 b.y] 82)).alloc (by simp; omega) (.cells #[.int .i64 c.x, .int .i64 c.y] 82)).alloc (by simp; omega) (.cells #[.int .i64 d.x, .int .i64 d.y] 82)
  have hz : ((((w.alloc (.cells #[.int .i64 a.x, .int .i64 a.y] 82)).alloc (.cells #[.int .i64 b.x, .int .i64 b.y] 82)).alloc (.cells #[.int .i64 c.x, .int .i64 c.y] 82)).alloc (.cells #[.int .i64 d.x, .int .i64 d.y] 82)).heap.size = w.heap.size + 4 := by simp
  obtain ⟨W1, hW1⟩ : ∃ z, ((((w.alloc (.cells #[.int .i64 a.x, .int .i64 a.y] 82)).alloc (.cells #[.int .i64 b.x, .int .i64 b.y] 82)).alloc (.cells #[.int .i64 c.x, .int .i64 c.y] 82)).alloc (.cells #[.int .i64 d.x, .int .i64 d.y] 82)) = z := ⟨_, rfl⟩
  rw [hW1] at hp hb1 hz
  have HK := Lib.hid (show ∀ wx, Below W1.heap.size W1 wx → P4 w.heap.size a b c d wx from fun wx h => hp.keep h (by omega))
  have HB1 := Lib.hid hb1
  obtain ⟨x1, hx1⟩ : ∃ z, sideV a b c = z := ⟨_, rfl⟩
  obtain ⟨x2, hx2⟩ : ∃ z, sideV a b d = z := ⟨_, rfl⟩
  obtain ⟨x3, hx3⟩ : ∃ z, sideV c d a = z := ⟨_, rfl⟩
  obtain ⟨x4, hx4⟩ : ∃ z, sideV c d b = z := ⟨_, rfl⟩
  have b1 := sideV_bd a b c
  have b2 := sideV_bd a b d
  have b3 := sideV_bd c d a
  have b4 := sideV_bd c d b
  rw [hx1] at b1; rw [hx2] at b2; rw [hx3] at b3; rw [hx4] at b4
  have m12 := mul_bd (c := 1) (d := 1) b1.1 b1.2 b2.1 b2.2
  have m34 := mul_bd (c := 1) (d := 1) b3.1 b3.2 b4.1 b4.2
  have HS1 := Lib.hid (show ∀ w, Calls Tryz.prog 110 #[.agg #[.int .i64 a.x, .int .i64 a.y], .agg #[.int .i64 b.x, .int .i64 b.y], .agg #[.int .i64 c.x, .int .i64 c.y]] w fun e w' => e = .returned (.int .i64 x1) ∧ Below w.heap.size w w' from fun w => by rw [← hx1]; exact side_any a b c w ha hb hc)
  have HS2 := Lib.hid (show ∀ w, Calls Tryz.prog 110 #[.agg #[.int .i64 a.x, .int .i64 a.y], .agg #[.int .i64 b.x, .int .i64 b.y], .agg #[.int .i64 d.x, .int .i64 d.y]] w fun e w' => e = .returned (.int .i64 x2) ∧ Below w.heap.size w w' from fun w => by rw [← hx2]; exact side_any a b d w ha hb hd)
  have HS3 := Lib.hid (show ∀ w, Calls Tryz.prog 110 #[.agg #[.int .i64 c.x, .int .i64 c.y], .agg #[.int .i64 d.x, .int .i64 d.y], .agg #[.int .i64 a.x, .int .i64 a.y]] w fun e w' => e = .returned (.int .i64 x3) ∧ Below w.heap.size w w' from fun w => by rw [← hx3]; exact side_any c d a w hc hd ha)
  have HS4 := Lib.hid (show ∀ w, Calls Tryz.prog 110 #[.agg #[.int .i64 c.x, .int .i64 c.y], .agg #[.int .i64 d.x, .int .i64 d.y], .agg #[.int .i64 b.x, .int .i64 b.y]] w fun e w' => e = .returned (.int .i64 x4) ∧ Below w.heap.size w w' from fun w => by rw [← hx4]; exact side_any c d b w hc hd hb)
  have HV := Lib.hid (show crossB a b c d = (decide (x1 * x2 < 0) && decide (x3 * x4 < 0)) by unfold crossB; rw [hx1, hx2, hx3, hx4])
  obtain ⟨p, hp12⟩ : ∃ z, x1 * x2 = z := ⟨_, rfl⟩
  obtain ⟨q, hq34⟩ : ∃ z, x3 * x4 = z := ⟨_, rfl⟩
  rw [hp12, hq34] at HV
  rw [hp12] at m12
  rw [hq34] at m34
  have w1' : IntKind.i64.wrap p = p := by rw [IntKind.wrap_i64]; omega
  have w2' : IntKind.i64.wrap q = q := by rw [IntKind.wrap_i64]; omega
  rw [HV.out]
  clear hp hb1 hz hx1 hx2 hx3 hx4 b1 b2 b3 b4 m12 m34 ha hb hc hd
  by_cases hneg : p < 0
  · have HN := Lib.hid hneg
    have hn2 : decide (p < 0) = true := decide_eq_true hneg
    rw [hn2]
    go_enter Tryz.func86, Tryz.ntmps86
    go_upto_region 1 with (fail)
    clear hW1
    have hbq : Below W1.heap.size W1 W1.drew := (Below.refl _ _).drew
    have HS := Lib.hid (HK.out _ hbq)
    refine wp_region_held_drew (S := P4 w.heap.size a b c d) (by kernel_rfl) HS.out (fun _ => ?_)
    refine hTake (i := 0) (d := 9) (v := .agg #[.int .i64 a.x, .int .i64 a.y]) rfl rfl (by kernel_rfl) (by kernel_rfl) (by kernel_rfl) (fun _ _ _ h => h) (Or.inl ⟨rfl, ?gr⟩) HS.out ?_
    case gr =>
      rintro W' ⟨s0, s1, s2, s3, s4, s5, s6, s7⟩
      go_simp
    simp only [Act.put, List.setIfInBounds_toArray, List.set_cons_zero, List.set_cons_succ]
    refine hTake (i := 1) (d := 10) (v := .agg #[.int .i64 b.x, .int .i64 b.y]) rfl rfl (by kernel_rfl) (by kernel_rfl) (by kernel_rfl) (fun _ _ _ h => h) (Or.inl ⟨rfl, ?gr⟩) HS.out ?_
    case gr =>
      rintro W' ⟨s0, s1, s2, s3, s4, s5, s6, s7⟩
      go_simp
    simp only [Act.put, List.setIfInBounds_toArray, List.set_cons_zero, List.set_cons_succ]
    refine hTake (i := 2) (d := 11) (v := .agg #[.int .i64 c.x, .int .i64 c.y]) rfl rfl (by kernel_rfl) (by kernel_rfl) (by kernel_rfl) (fun _ _ _ h => h) (Or.inl ⟨rfl, ?gr⟩) HS.out ?_
    case gr =>
      rintro W' ⟨s0, s1, s2, s3, s4, s5, s6, s7⟩
      go_simp
    simp only [Act.put, List.setIfInBounds_toArray, List.set_cons_zero, List.set_cons_succ]
    refine hTake (i := 4) (d := 13) (v := .agg #[.int .i64 a.x, .int .i64 a.y]) rfl rfl (by kernel_rfl) (by kernel_rfl) (by kernel_rfl) (fun _ _ _ h => h) (Or.inl ⟨rfl, ?gr⟩) HS.out ?_
    case gr =>
      rintro W' ⟨s0, s1, s2, s3, s4, s5, s6, s7⟩
      go_simp
    simp only [Act.put, List.setIfInBounds_toArray, List.set_cons_zero, List.set_cons_succ]
    refine hTake (i := 5) (d := 14) (v := .agg #[.int .i64 b.x, .int .i64 b.y]) rfl rfl (by kernel_rfl) (by kernel_rfl) (by kernel_rfl) (fun _ _ _ h => h) (Or.inl ⟨rfl, ?gr⟩) HS.out ?_
    case gr =>
      rintro W' ⟨s0, s1, s2, s3, s4, s5, s6, s7⟩
      go_simp
    simp only [Act.put, List.setIfInBounds_toArray, List.set_cons_zero, List.set_cons_succ]
    refine hTake (i := 6) (d := 15) (v := .agg #[.int .i64 d.x, .int .i64 d.y]) rfl rfl (by kernel_rfl) (by kernel_rfl) (by kernel_rfl) (fun _ _ _ h => h) (Or.inl ⟨rfl, ?gr⟩) HS.out ?_
    case gr =>
      rintro W' ⟨s0, s1, s2, s3, s4, s5, s6, s7⟩
      go_simp
    simp only [Act.put, List.setIfInBounds_toArray, List.set_cons_zero, List.set_cons_succ]
    refine wpAnyH_ready (rs := [3]) (by kernel_rfl) (by simp) ?_
    refine AllReadyH.cons rfl (fun K hK => ?_) AllReadyH.nil
    rw [if_pos (by rfl)]
    go_simp
    go_at_call 110
    (with_reducible refine (HS1.out _).mono ?_)
    rintro e v1 ⟨rfl, hb5⟩
    replace hbq := hbq.trans (hb5.mono hbq.size)
    have HS := Lib.hid (HK.out _ hbq)
    clear hb5
    refine hK.out _ _ HS.out (fun _ => ?_)
    clear hK K
    try simp only [Act.put, List.setIfInBounds_toArray, List.set_cons_zero, List.set_cons_succ]
    refine wpAnyH_ready (rs := [7]) (by kernel_rfl) (by simp) ?_
    refine AllReadyH.cons rfl (fun K hK => ?_) AllReadyH.nil
    rw [if_pos (by rfl)]
    go_simp
    go_at_call 110
    (with_reducible refine (HS2.out _).mono ?_)
    rintro e v2 ⟨rfl, hb5⟩
    replace hbq := hbq.trans (hb5.mono hbq.size)
    have HS := Lib.hid (HK.out _ hbq)
    clear hb5
    refine hK.out _ _ HS.out (fun _ => ?_)
    clear hK K
    try simp only [Act.put, List.setIfInBounds_toArray, List.set_cons_zero, List.set_cons_succ]
    refine hTake (i := 8) (d := 17) (v := .int .i64 p) rfl rfl (by kernel_rfl) (by kernel_rfl) (by kernel_rfl) (fun _ _ _ h => h) (Or.inl ⟨rfl, ?gr⟩) HS.out ?_
    case gr =>
      rintro W' ⟨s0, s1, s2, s3, s4, s5, s6, s7⟩
      go_simp
    simp only [Act.put, List.setIfInBounds_toArray, List.set_cons_zero, List.set_cons_succ]
    refine hTake (i := 9) (d := 18) (v := .bool true) rfl rfl (by kernel_rfl) (by kernel_rfl) (by kernel_rfl) (fun _ _ _ h => h) (Or.inl ⟨rfl, ?gr⟩) HS.out ?_
    case gr =>
      rintro W' ⟨s0, s1, s2, s3, s4, s5, s6, s7⟩
      go_simp
    simp only [Act.put, List.setIfInBounds_toArray, List.set_cons_zero, List.set_cons_succ]
    refine hTake (i := 10) (d := 19) (v := .bool true) rfl rfl (by kernel_rfl) (by kernel_rfl) (by kernel_rfl) (fun _ _ _ h => h) (Or.inl ⟨rfl, ?gr⟩) HS.out ?_
    case gr =>
      rintro W' ⟨s0, s1, s2, s3, s4, s5, s6, s7⟩
      go_simp
    simp only [Act.put, List.setIfInBounds_toArray, List.set_cons_zero, List.set_cons_succ]
    refine hTake (i := 11) (d := 20) (v := .agg #[.int .i64 c.x, .int .i64 c.y]) rfl rfl (by kernel_rfl) (by kernel_rfl) (by kernel_rfl) (fun _ _ _ h => h) (Or.inl ⟨rfl, ?gr⟩) HS.out ?_
    case gr =>
      rintro W' ⟨s0, s1, s2, s3, s4, s5, s6, s7⟩
      go_simp
    simp only [Act.put, List.setIfInBounds_toArray, List.set_cons_zero, List.set_cons_succ]
    refine hTake (i := 12) (d := 21) (v := .agg #[.int .i64 d.x, .int .i64 d.y]) rfl rfl (by kernel_rfl) (by kernel_rfl) (by kernel_rfl) (fun _ _ _ h => h) (Or.inl ⟨rfl, ?gr⟩) HS.out ?_
    case gr =>
      rintro W' ⟨s0, s1, s2, s3, s4, s5, s6, s7⟩
      go_simp
    simp only [Act.put, List.setIfInBounds_toArray, List.set_cons_zero, List.set_cons_succ]
    refine hTake (i := 13) (d := 22) (v := .agg #[.int .i64 a.x, .int .i64 a.y]) rfl rfl (by kernel_rfl) (by kernel_rfl) (by kernel_rfl) (fun _ _ _ h => h) (Or.inl ⟨rfl, ?gr⟩) HS.out ?_
    case gr =>
      rintro W' ⟨s0, s1, s2, s3, s4, s5, s6, s7⟩
      go_simp
    simp only [Act.put, List.setIfInBounds_toArray, List.set_cons_zero, List.set_cons_succ]
    refine hTake (i := 15) (d := 24) (v := .agg #[.int .i64 c.x, .int .i64 c.y]) rfl rfl (by kernel_rfl) (by kernel_rfl) (by kernel_rfl) (fun _ _ _ h => h) (Or.inl ⟨rfl, ?gr⟩) HS.out ?_
    case gr =>
      rintro W' ⟨s0, s1, s2, s3, s4, s5, s6, s7⟩
      go_simp
    simp only [Act.put, List.setIfInBounds_toArray, List.set_cons_zero, List.set_cons_succ]
    refine hTake (i := 16) (d := 25) (v := .agg #[.int .i64 d.x, .int .i64 d.y]) rfl rfl (by kernel_rfl) (by kernel_rfl) (by kernel_rfl) (fun _ _ _ h => h) (Or.inl ⟨rfl, ?gr⟩) HS.out ?_
    case gr =>
      rintro W' ⟨s0, s1, s2, s3, s4, s5, s6, s7⟩
      go_simp
    simp only [Act.put, List.setIfInBounds_toArray, List.set_cons_zero, List.set_cons_succ]
    refine hTake (i := 17) (d := 26) (v := .agg #[.int .i64 b.x, .int .i64 b.y]) rfl rfl (by kernel_rfl) (by kernel_rfl) (by kernel_rfl) (fun _ _ _ h => h) (Or.inl ⟨rfl, ?gr⟩) HS.out ?_
    case gr =>
      rintro W' ⟨s0, s1, s2, s3, s4, s5, s6, s7⟩
      go_simp
    simp only [Act.put, List.setIfInBounds_toArray, List.set_cons_zero, List.set_cons_succ]
    refine wpAnyH_ready (rs := [14]) (by kernel_rfl) (by simp) ?_
    refine AllReadyH.cons rfl (fun K hK => ?_) AllReadyH.nil
    rw [if_pos (by rfl)]
    go_simp
    go_at_call 110
    (with_reducible refine (HS3.out _).mono ?_)
    rintro e v3 ⟨rfl, hb5⟩
    replace hbq := hbq.trans (hb5.mono hbq.size)
    have HS := Lib.hid (HK.out _ hbq)
    clear hb5
    refine hK.out _ _ HS.out (fun _ => ?_)
    clear hK K
    try simp only [Act.put, List.setIfInBounds_toArray, List.set_cons_zero, List.set_cons_succ]
    refine wpAnyH_ready (rs := [18]) (by kernel_rfl) (by simp) ?_
    refine AllReadyH.cons rfl (fun K hK => ?_) AllReadyH.nil
    rw [if_pos (by rfl)]
    go_simp
    go_at_call 110
    (with_reducible refine (HS4.out _).mono ?_)
    rintro e v4 ⟨rfl, hb5⟩
    replace hbq := hbq.trans (hb5.mono hbq.size)
    have HS := Lib.hid (HK.out _ hbq)
    clear hb5
    refine hK.out _ _ HS.out (fun _ => ?_)
    clear hK K
    try simp only [Act.put, List.setIfInBounds_toArray, List.set_cons_zero, List.set_cons_succ]
    refine hTake (i := 19) (d := 28) (v := .int .i64 q) rfl rfl (by kernel_rfl) (by kernel_rfl) (by kernel_rfl) (fun _ _ _ h => h) (Or.inl ⟨rfl, ?gr⟩) HS.out ?_
    case gr =>
      rintro W' ⟨s0, s1, s2, s3, s4, s5, s6, s7⟩
      go_simp
    simp only [Act.put, List.setIfInBounds_toArray, List.set_cons_zero, List.set_cons_succ]
    refine hTake (i := 20) (d := 29) (v := .bool (decide (q < 0))) rfl rfl (by kernel_rfl) (by kernel_rfl) (by kernel_rfl) (fun _ _ _ h => h) (Or.inl ⟨rfl, ?gr⟩) HS.out ?_
    case gr =>
      rintro W' ⟨s0, s1, s2, s3, s4, s5, s6, s7⟩
      go_simp
    simp only [Act.put, List.setIfInBounds_toArray, List.set_cons_zero, List.set_cons_succ]
    refine hTake (i := 21) (d := 30) (v := .bool (decide (q < 0))) rfl rfl (by kernel_rfl) (by kernel_rfl) (by kernel_rfl) (fun _ _ _ h => h) (Or.inl ⟨rfl, ?gr⟩) HS.out ?_
    case gr =>
      rintro W' ⟨s0, s1, s2, s3, s4, s5, s6, s7⟩
      go_simp
    simp only [Act.put, List.setIfInBounds_toArray, List.set_cons_zero, List.set_cons_succ]
    refine hTake (i := 22) (d := 8) (v := .bool (decide (q < 0))) rfl rfl (by kernel_rfl) (by kernel_rfl) (by kernel_rfl) (fun _ _ _ h => h) (Or.inl ⟨rfl, ?gr⟩) HS.out ?_
    case gr =>
      rintro W' ⟨s0, s1, s2, s3, s4, s5, s6, s7⟩
      go_simp
    simp only [Act.put, List.setIfInBounds_toArray, List.set_cons_zero, List.set_cons_succ]
    refine wpAnyH_done (by kernel_rfl) ?_ _
    go_wp2
    go_ret
    exact ⟨by simp, HB1.out.trans (hbq.mono HB1.out.size)⟩
  · have hn2 : decide (p < 0) = false := by rw [decide_eq_false_iff_not]; exact hneg
    rw [hn2]
    go_enter Tryz.func86, Tryz.ntmps86
    go_upto_region 1 with (fail)
    clear hW1
    have hbq : Below W1.heap.size W1 W1.drew := (Below.refl _ _).drew
    have HS := Lib.hid (HK.out _ hbq)
    refine wp_region_held_drew (S := P4 w.heap.size a b c d) (by kernel_rfl) HS.out (fun _ => ?_)
    refine hTake (i := 0) (d := 9) (v := .agg #[.int .i64 a.x, .int .i64 a.y]) rfl rfl (by kernel_rfl) (by kernel_rfl) (by kernel_rfl) (fun _ _ _ h => h) (Or.inl ⟨rfl, ?gr⟩) HS.out ?_
    case gr =>
      rintro W' ⟨s0, s1, s2, s3, s4, s5, s6, s7⟩
      go_simp
    simp only [Act.put, List.setIfInBounds_toArray, List.set_cons_zero, List.set_cons_succ]
    refine hTake (i := 1) (d := 10) (v := .agg #[.int .i64 b.x, .int .i64 b.y]) rfl rfl (by kernel_rfl) (by kernel_rfl) (by kernel_rfl) (fun _ _ _ h => h) (Or.inl ⟨rfl, ?gr⟩) HS.out ?_
    case gr =>
      rintro W' ⟨s0, s1, s2, s3, s4, s5, s6, s7⟩
      go_simp
    simp only [Act.put, List.setIfInBounds_toArray, List.set_cons_zero, List.set_cons_succ]
    refine hTake (i := 2) (d := 11) (v := .agg #[.int .i64 c.x, .int .i64 c.y]) rfl rfl (by kernel_rfl) (by kernel_rfl) (by kernel_rfl) (fun _ _ _ h => h) (Or.inl ⟨rfl, ?gr⟩) HS.out ?_
    case gr =>
      rintro W' ⟨s0, s1, s2, s3, s4, s5, s6, s7⟩
      go_simp
    simp only [Act.put, List.setIfInBounds_toArray, List.set_cons_zero, List.set_cons_succ]
    refine hTake (i := 4) (d := 13) (v := .agg #[.int .i64 a.x, .int .i64 a.y]) rfl rfl (by kernel_rfl) (by kernel_rfl) (by kernel_rfl) (fun _ _ _ h => h) (Or.inl ⟨rfl, ?gr⟩) HS.out ?_
    case gr =>
      rintro W' ⟨s0, s1, s2, s3, s4, s5, s6, s7⟩
      go_simp
    simp only [Act.put, List.setIfInBounds_toArray, List.set_cons_zero, List.set_cons_succ]
    refine hTake (i := 5) (d := 14) (v := .agg #[.int .i64 b.x, .int .i64 b.y]) rfl rfl (by kernel_rfl) (by kernel_rfl) (by kernel_rfl) (fun _ _ _ h => h) (Or.inl ⟨rfl, ?gr⟩) HS.out ?_
    case gr =>
      rintro W' ⟨s0, s1, s2, s3, s4, s5, s6, s7⟩
      go_simp
    simp only [Act.put, List.setIfInBounds_toArray, List.set_cons_zero, List.set_cons_succ]
    refine hTake (i := 6) (d := 15) (v := .agg #[.int .i64 d.x, .int .i64 d.y]) rfl rfl (by kernel_rfl) (by kernel_rfl) (by kernel_rfl) (fun _ _ _ h => h) (Or.inl ⟨rfl, ?gr⟩) HS.out ?_
    case gr =>
      rintro W' ⟨s0, s1, s2, s3, s4, s5, s6, s7⟩
      go_simp
    simp only [Act.put, List.setIfInBounds_toArray, List.set_cons_zero, List.set_cons_succ]
    refine wpAnyH_ready (rs := [3]) (by kernel_rfl) (by simp) ?_
    refine AllReadyH.cons rfl (fun K hK => ?_) AllReadyH.nil
    rw [if_pos (by rfl)]
    go_simp
    go_at_call 110
    (with_reducible refine (HS1.out _).mono ?_)
    rintro e v1 ⟨rfl, hb5⟩
    replace hbq := hbq.trans (hb5.mono hbq.size)
    have HS := Lib.hid (HK.out _ hbq)
    clear hb5
    refine hK.out _ _ HS.out (fun _ => ?_)
    clear hK K
    try simp only [Act.put, List.setIfInBounds_toArray, List.set_cons_zero, List.set_cons_succ]
    refine wpAnyH_ready (rs := [7]) (by kernel_rfl) (by simp) ?_
    refine AllReadyH.cons rfl (fun K hK => ?_) AllReadyH.nil
    rw [if_pos (by rfl)]
    go_simp
    go_at_call 110
    (with_reducible refine (HS2.out _).mono ?_)
    rintro e v2 ⟨rfl, hb5⟩
    replace hbq := hbq.trans (hb5.mono hbq.size)
    have HS := Lib.hid (HK.out _ hbq)
    clear hb5
    refine hK.out _ _ HS.out (fun _ => ?_)
    clear hK K
    try simp only [Act.put, List.setIfInBounds_toArray, List.set_cons_zero, List.set_cons_succ]
    refine hTake (i := 8) (d := 17) (v := .int .i64 p) rfl rfl (by kernel_rfl) (by kernel_rfl) (by kernel_rfl) (fun _ _ _ h => h) (Or.inl ⟨rfl, ?gr⟩) HS.out ?_
    case gr =>
      rintro W' ⟨s0, s1, s2, s3, s4, s5, s6, s7⟩
      go_simp
    simp only [Act.put, List.setIfInBounds_toArray, List.set_cons_zero, List.set_cons_succ]
    refine hTake (i := 9) (d := 18) (v := .bool false) rfl rfl (by kernel_rfl) (by kernel_rfl) (by kernel_rfl) (fun _ _ _ h => h) (Or.inl ⟨rfl, ?gr⟩) HS.out ?_
    case gr =>
      rintro W' ⟨s0, s1, s2, s3, s4, s5, s6, s7⟩
      go_simp
    simp only [Act.put, List.setIfInBounds_toArray, List.set_cons_zero, List.set_cons_succ]
    refine hTake (i := 10) (d := 19) (v := .bool false) rfl rfl (by kernel_rfl) (by kernel_rfl) (by kernel_rfl) (fun _ _ _ h => h) (Or.inl ⟨rfl, ?gr⟩) HS.out ?_
    case gr =>
      rintro W' ⟨s0, s1, s2, s3, s4, s5, s6, s7⟩
      go_simp
    simp only [Act.put, List.setIfInBounds_toArray, List.set_cons_zero, List.set_cons_succ]
    refine hTake (i := 11) (d := 20) (v := undef) rfl rfl (by kernel_rfl) (by kernel_rfl) (by kernel_rfl) (fun _ _ _ h => h) (Or.inr ⟨rfl, rfl⟩) HS.out ?_
    simp only [Act.put, List.setIfInBounds_toArray, List.set_cons_zero, List.set_cons_succ]
    refine hTake (i := 12) (d := 21) (v := undef) rfl rfl (by kernel_rfl) (by kernel_rfl) (by kernel_rfl) (fun _ _ _ h => h) (Or.inr ⟨rfl, rfl⟩) HS.out ?_
    simp only [Act.put, List.setIfInBounds_toArray, List.set_cons_zero, List.set_cons_succ]
    refine hTake (i := 13) (d := 22) (v := undef) rfl rfl (by kernel_rfl) (by kernel_rfl) (by kernel_rfl) (fun _ _ _ h => h) (Or.inr ⟨rfl, rfl⟩) HS.out ?_
    simp only [Act.put, List.setIfInBounds_toArray, List.set_cons_zero, List.set_cons_succ]
    refine hTake (i := 14) (d := 23) (v := undef) rfl rfl (by kernel_rfl) (by kernel_rfl) (by kernel_rfl) (fun _ _ _ h => h) (Or.inr ⟨rfl, rfl⟩) HS.out ?_
    simp only [Act.put, List.setIfInBounds_toArray, List.set_cons_zero, List.set_cons_succ]
    refine hTake (i := 15) (d := 24) (v := undef) rfl rfl (by kernel_rfl) (by kernel_rfl) (by kernel_rfl) (fun _ _ _ h => h) (Or.inr ⟨rfl, rfl⟩) HS.out ?_
    simp only [Act.put, List.setIfInBounds_toArray, List.set_cons_zero, List.set_cons_succ]
    refine hTake (i := 16) (d := 25) (v := undef) rfl rfl (by kernel_rfl) (by kernel_rfl) (by kernel_rfl) (fun _ _ _ h => h) (Or.inr ⟨rfl, rfl⟩) HS.out ?_
    simp only [Act.put, List.setIfInBounds_toArray, List.set_cons_zero, List.set_cons_succ]
    refine hTake (i := 17) (d := 26) (v := undef) rfl rfl (by kernel_rfl) (by kernel_rfl) (by kernel_rfl) (fun _ _ _ h => h) (Or.inr ⟨rfl, rfl⟩) HS.out ?_
    simp only [Act.put, List.setIfInBounds_toArray, List.set_cons_zero, List.set_cons_succ]
    refine hTake (i := 18) (d := 27) (v := undef) rfl rfl (by kernel_rfl) (by kernel_rfl) (by kernel_rfl) (fun _ _ _ h => h) (Or.inr ⟨rfl, rfl⟩) HS.out ?_
    simp only [Act.put, List.setIfInBounds_toArray, List.set_cons_zero, List.set_cons_succ]
    refine hTake (i := 19) (d := 28) (v := undef) rfl rfl (by kernel_rfl) (by kernel_rfl) (by kernel_rfl) (fun _ _ _ h => h) (Or.inr ⟨rfl, rfl⟩) HS.out ?_
    simp only [Act.put, List.setIfInBounds_toArray, List.set_cons_zero, List.set_cons_succ]
    refine hTake (i := 20) (d := 29) (v := undef) rfl rfl (by kernel_rfl) (by kernel_rfl) (by kernel_rfl) (fun _ _ _ h => h) (Or.inr ⟨rfl, rfl⟩) HS.out ?_
    simp only [Act.put, List.setIfInBounds_toArray, List.set_cons_zero, List.set_cons_succ]
    refine hTake (i := 21) (d := 30) (v := .bool false) rfl rfl (by kernel_rfl) (by kernel_rfl) (by kernel_rfl) (fun _ _ _ h => h) (Or.inl ⟨rfl, ?gr⟩) HS.out ?_
    case gr =>
      rintro W' ⟨s0, s1, s2, s3, s4, s5, s6, s7⟩
      go_simp
    simp only [Act.put, List.setIfInBounds_toArray, List.set_cons_zero, List.set_cons_succ]
    refine hTake (i := 22) (d := 8) (v := .bool false) rfl rfl (by kernel_rfl) (by kernel_rfl) (by kernel_rfl) (fun _ _ _ h => h) (Or.inl ⟨rfl, ?gr⟩) HS.out ?_
    case gr =>
      rintro W' ⟨s0, s1, s2, s3, s4, s5, s6, s7⟩
      go_simp
    simp only [Act.put, List.setIfInBounds_toArray, List.set_cons_zero, List.set_cons_succ]
    refine wpAnyH_done (by kernel_rfl) ?_ _
    go_wp2
    go_ret
    exact ⟨by simp, HB1.out.trans (hbq.mono HB1.out.size)⟩
end Go.Proofs.YtekambdnmaompaaGreat.SW

namespace Go.Proofs.YtekambdnmaompaaGreat.SW
set_option linter.unusedVariables false
set_option linter.unusedSimpArgs false
open Go.RowKit

theorem sepSeg_ok {s a b : S} (hs : inR s) (ha : inR a) (hb : inR b) (hab : 0 < sq2 (b.x - a.x) (b.y - a.y)) : SpOk (sepSeg s a b) := by
  obtain ⟨a1, a2, a3, a4⟩ := id ha
  obtain ⟨b1, b2, b3, b4⟩ := id hb
  obtain ⟨s1, s2, s3, s4⟩ := id hs
  have h1 := sq_bound (b.x - a.x) 20000000 (by omega) (by omega)
  have h2 := sq_bound (b.y - a.y) 20000000 (by omega) (by omega)
  unfold sepSeg
  split
  · have := sepSpot_ok hs ha
    exact ⟨this.1, by omega, by simp [sepSpot], by simp [sepSpot]⟩
  · split
    · have := sepSpot_ok hs hb
      exact ⟨this.1, by omega, by simp [sepSpot], by simp [sepSpot]⟩
    · have q1 := mul_bd (x := b.x - a.x) (y := s.y - a.y) (c := 20000000) (d := 20000000) (by omega) (by omega) (by omega) (by omega)
      have q2 := mul_bd (x := b.y - a.y) (y := s.x - a.x) (c := 20000000) (d := 20000000) (by omega) (by omega) (by omega) (by omega)
      generalize (b.x - a.x) * (s.y - a.y) = p at *
      generalize (b.y - a.y) * (s.x - a.x) = q at *
      have q3 := sq_bound (p - q) 800000000000000 (by omega) (by omega)
      refine ⟨q3.1, ?_, hab, ?_⟩
      · show (p - q) * (p - q) < _
        omega
      · show sq2 (b.x - a.x) (b.y - a.y) < _
        unfold sq2; omega
structure SgIn (s a b : S) : Prop where
  hs : inR s
  ha : inR a
  hb : inR b
theorem SgIn.facts {s a b : S} (h : SgIn s a b) (w : World) : ∃ W1, ((((w.alloc (.cells #[.int .i64 s.x, .int .i64 s.y] 82)).alloc (.cells #[.int .i64 a.x, .int .i64 a.y] 82)).alloc (.cells #[.int .i64 b.x, .int .i64 b.y] 82)).alloc (.cells #[.int .u64 0, .int .u64 0, .int .u64 0] 150)) = W1 ∧
    Below w.heap.size w W1 ∧ W1.heap.size = w.heap.size + 4 ∧ W1.cell? ⟨w.heap.size, 0, none⟩ = some (.int .i64 s.x) ∧ W1.cell? ⟨w.heap.size, 1, none⟩ = some (.int .i64 s.y) ∧ W1.cell? ⟨w.heap.size + 1, 0, none⟩ = some (.int .i64 a.x) ∧ W1.cell? ⟨w.heap.size + 1, 1, none⟩ = some (.int .i64 a.y) ∧
    W1.cell? ⟨w.heap.size + 1 + 1, 0, none⟩ = some (.int .i64 b.x) ∧ W1.cell? ⟨w.heap.size + 1 + 1, 1, none⟩ = some (.int .i64 b.y) ∧ (∀ i, i < 3 → W1.cell? ⟨w.heap.size + 1 + 1 + 1, i, none⟩ = some (.int .u64 0)) ∧ ∀ i, W1.frozen? ⟨w.heap.size + 1 + 1 + 1, i, none⟩ = false := by
  have hr := fun i => box_cells4 w #[.int .i64 s.x, .int .i64 s.y] #[.int .i64 a.x, .int .i64 a.y] #[.int .i64 b.x, .int .i64 b.y] #[.int .u64 0, .int .u64 0, .int .u64 0] 82 82 82 150 i
  have h0 := fun i => cell_keep1 (o := .cells #[.int .u64 0, .int .u64 0, .int .u64 0] 150) (cell_keep1 (o := .cells #[.int .i64 b.x, .int .i64 b.y] 82) (cell_keep1 (o := .cells #[.int .i64 a.x, .int .i64 a.y] 82) (cell_new1 w #[.int .i64 s.x, .int .i64 s.y] 82 i) (by simp)) (by simp; omega)) (by simp; omega)
  refine ⟨_, rfl, (((((Below.refl _ w).alloc (Nat.le_refl _) _).alloc (by simp) _).alloc (by simp; omega) _).alloc (by simp; omega) _), by simp, h0 0, h0 1, (hr 0).1, (hr 1).1, (hr 0).2.1, (hr 1).2.1, fun i hi => ?_, fun i => (hr i).2.2.2⟩
  rcases (show i = 0 ∨ i = 1 ∨ i = 2 by omega) with rfl | rfl | rfl
  · exact (hr 0).2.2.1
  · exact (hr 1).2.2.1
  · exact (hr 2).2.2.1
theorem set3_read {w : World} {k : Nat} {a b c x y z : Value} (h0 : w.cell? ⟨k, 0, none⟩ = some a) (h1 : w.cell? ⟨k, 1, none⟩ = some b) (h2 : w.cell? ⟨k, 2, none⟩ = some c) :
    (((w.setCell ⟨k, 0, none⟩ x).setCell ⟨k, 1, none⟩ y).setCell ⟨k, 2, none⟩ z).cell? ⟨k, 0, none⟩ = some x ∧ (((w.setCell ⟨k, 0, none⟩ x).setCell ⟨k, 1, none⟩ y).setCell ⟨k, 2, none⟩ z).cell? ⟨k, 1, none⟩ = some y ∧ (((w.setCell ⟨k, 0, none⟩ x).setCell ⟨k, 1, none⟩ y).setCell ⟨k, 2, none⟩ z).cell? ⟨k, 2, none⟩ = some z :=
  ⟨by simp [go_sem, h0], by simp [go_sem, h1], by simp [go_sem, h2]⟩
set_option maxRecDepth 100000 in
set_option maxHeartbeats 4000000 in
theorem fromSeg_any (s a b : S) (w : World) (H : SgIn s a b) (hab : 0 < sq2 (b.x - a.x) (b.y - a.y)) :
    Calls Tryz.prog 111 #[.agg #[.int .i64 s.x, .int .i64 s.y], .agg #[.int .i64 a.x, .int .i64 a.y], .agg #[.int .i64 b.x, .int .i64 b.y]] w fun e w' => e = .returned (.agg (sepC (sepSeg s a b)).toArray) ∧ Below w.heap.size w w' := by
  obtain ⟨W1, hW1, hb1, hz, c0, c1, c2, c3, c4, c5, c6, c7⟩ := H.facts w
  obtain ⟨a1, a2, a3, a4⟩ := id H.ha
  obtain ⟨b1, b2, b3, b4⟩ := id H.hb
  obtain ⟨s1, s2, s3, s4⟩ := id H.hs
  have m1 := sq_bound (b.x - a.x) 20000000 (by omega) (by omega)
  have m2 := sq_bound (b.y - a.y) 20000000 (by omega) (by omega)
  have m3 := mul_bd (x := b.x - a.x) (y := s.x - a.x) (c := 20000000) (d := 20000000) (by omega) (by omega) (by omega) (by omega)
  have m4 := mul_bd (x := b.y - a.y) (y := s.y - a.y) (c := 20000000) (d := 20000000) (by omega) (by omega) (by omega) (by omega)
  have m5 := mul_bd (x := b.x - a.x) (y := s.y - a.y) (c := 20000000) (d := 20000000) (by omega) (by omega) (by omega) (by omega)
  have m6 := mul_bd (x := b.y - a.y) (y := s.x - a.x) (c := 20000000) (d := 20000000) (by omega) (by omega) (by omega) (by omega)
  have HB1 := Lib.hid hb1
  have HC6 := Lib.hid c6; have HC7 := Lib.hid c7
  have HSA := Lib.hid (show ∀ w, Calls Tryz.prog 135 #[.agg #[.int .i64 s.x, .int .i64 s.y], .agg #[.int .i64 a.x, .int .i64 a.y]] w fun e w' => e = .returned (.agg (sepC (sepSpot s a)).toArray) ∧ Below w.heap.size w w' from fun w => fromSpot_any s a w H.hs H.ha)
  have HSB := Lib.hid (show ∀ w, Calls Tryz.prog 135 #[.agg #[.int .i64 s.x, .int .i64 s.y], .agg #[.int .i64 b.x, .int .i64 b.y]] w fun e w' => e = .returned (.agg (sepC (sepSpot s b)).toArray) ∧ Below w.heap.size w w' from fun w => fromSpot_any s b w H.hs H.hb)
  have HE := Lib.hid (show sepSeg s a b = if (b.x - a.x) * (s.x - a.x) + (b.y - a.y) * (s.y - a.y) ≤ 0 then sepSpot s a else if (b.x - a.x) * (s.x - a.x) + (b.y - a.y) * (s.y - a.y) ≥ sq2 (b.x - a.x) (b.y - a.y) then sepSpot s b else ⟨((b.x - a.x) * (s.y - a.y) - (b.y - a.y) * (s.x - a.x)) * ((b.x - a.x) * (s.y - a.y) - (b.y - a.y) * (s.x - a.x)), sq2 (b.x - a.x) (b.y - a.y)⟩ from rfl)
  have HAB := Lib.hid hab
  have HBQ := Lib.hid (show ∀ n, Below W1.heap.size W1 (W1.drewN n) from fun n => bDrewN (Below.refl _ _) n)
  clear hb1 c6 c7 hab H
  by_cases h0 : (b.x - a.x) * (s.x - a.x) + (b.y - a.y) * (s.y - a.y) ≤ 0
  · have HV := Lib.hid (show sepSeg s a b = sepSpot s a by rw [HE.out, if_pos h0])
    rw [HV.out]
    obtain ⟨p1, p2, p3, hpp⟩ : ∃ p1 p2 p3, (sepC (sepSpot s a)).toArray = #[.int .u64 p1, .int .u64 p2, .int .u64 p3] := ⟨_, _, _, sepC_eq _⟩
    rw [hpp] at HSA ⊢
    clear hpp
    go_enter Tryz.func111, Tryz.ntmps111
    go_wp2
    go_quiet (fail)
    go_wp2
    go_quiet (fail)
    go_wp2_with fail
    (with_reducible refine (HSA.out _).mono ?_)
    rintro e w5 ⟨rfl, hb5⟩
    have h5 := (HBQ.out _).trans hb5
    have f0 := (h5.cell (p := ⟨w.heap.size + 1 + 1 + 1, 0, none⟩) (by simp; omega)).trans (HC6.out 0 (by omega))
    have f1 := (h5.cell (p := ⟨w.heap.size + 1 + 1 + 1, 1, none⟩) (by simp; omega)).trans (HC6.out 1 (by omega))
    have f2 := (h5.cell (p := ⟨w.heap.size + 1 + 1 + 1, 2, none⟩) (by simp; omega)).trans (HC6.out 2 (by omega))
    have g0 := (h5.frozen (p := ⟨w.heap.size + 1 + 1 + 1, 0, none⟩) (by simp; omega)).trans (HC7.out 0)
    have g1 := (h5.frozen (p := ⟨w.heap.size + 1 + 1 + 1, 1, none⟩) (by simp; omega)).trans (HC7.out 1)
    have g2 := (h5.frozen (p := ⟨w.heap.size + 1 + 1 + 1, 2, none⟩) (by simp; omega)).trans (HC7.out 2)
    have HB5 := Lib.hid (HB1.out.trans (h5.mono HB1.out.size))
    clear hb5 h5 c0 c1 c2 c3 c4 c5 hW1
    go_wp2
    exact bodyPost_ret (v := .agg #[.int .u64 p1, .int .u64 p2, .int .u64 p3]) (by simp [results, Tryz.results111, go_sem, (set3_read f0 f1 f2).1, (set3_read f0 f1 f2).2.1, (set3_read f0 f1 f2).2.2]) rfl ⟨rfl, ((HB5.out.setCell (by simp; omega) _).setCell (by simp; omega) _).setCell (by simp; omega) _⟩
  · have n0 : decide ((b.x - a.x) * (s.x - a.x) + (b.y - a.y) * (s.y - a.y) ≤ 0) = false := by rw [decide_eq_false_iff_not]; exact h0
    by_cases h1 : (b.x - a.x) * (s.x - a.x) + (b.y - a.y) * (s.y - a.y) ≥ (b.x - a.x) * (b.x - a.x) + (b.y - a.y) * (b.y - a.y)
    · have HV := Lib.hid (show sepSeg s a b = sepSpot s b by rw [HE.out, if_neg h0]; exact if_pos h1)
      rw [HV.out]
      obtain ⟨p1, p2, p3, hpp⟩ : ∃ p1 p2 p3, (sepC (sepSpot s b)).toArray = #[.int .u64 p1, .int .u64 p2, .int .u64 p3] := ⟨_, _, _, sepC_eq _⟩
      rw [hpp] at HSB ⊢
      clear hpp
      go_enter Tryz.func111, Tryz.ntmps111
      go_wp2
      go_quiet (fail)
      go_wp2
      go_quiet (fail)
      go_wp2_with fail
      (with_reducible refine (HSB.out _).mono ?_)
      rintro e w5 ⟨rfl, hb5⟩
      have h5 := (HBQ.out _).trans hb5
      have f0 := (h5.cell (p := ⟨w.heap.size + 1 + 1 + 1, 0, none⟩) (by simp; omega)).trans (HC6.out 0 (by omega))
      have f1 := (h5.cell (p := ⟨w.heap.size + 1 + 1 + 1, 1, none⟩) (by simp; omega)).trans (HC6.out 1 (by omega))
      have f2 := (h5.cell (p := ⟨w.heap.size + 1 + 1 + 1, 2, none⟩) (by simp; omega)).trans (HC6.out 2 (by omega))
      have g0 := (h5.frozen (p := ⟨w.heap.size + 1 + 1 + 1, 0, none⟩) (by simp; omega)).trans (HC7.out 0)
      have g1 := (h5.frozen (p := ⟨w.heap.size + 1 + 1 + 1, 1, none⟩) (by simp; omega)).trans (HC7.out 1)
      have g2 := (h5.frozen (p := ⟨w.heap.size + 1 + 1 + 1, 2, none⟩) (by simp; omega)).trans (HC7.out 2)
      have HB5 := Lib.hid (HB1.out.trans (h5.mono HB1.out.size))
      clear hb5 h5 c0 c1 c2 c3 c4 c5 hW1
      go_wp2
      exact bodyPost_ret (v := .agg #[.int .u64 p1, .int .u64 p2, .int .u64 p3]) (by simp [results, Tryz.results111, go_sem, (set3_read f0 f1 f2).1, (set3_read f0 f1 f2).2.1, (set3_read f0 f1 f2).2.2]) rfl ⟨rfl, ((HB5.out.setCell (by simp; omega) _).setCell (by simp; omega) _).setCell (by simp; omega) _⟩
    · have HV := Lib.hid (show sepSeg s a b = ⟨((b.x - a.x) * (s.y - a.y) - (b.y - a.y) * (s.x - a.x)) * ((b.x - a.x) * (s.y - a.y) - (b.y - a.y) * (s.x - a.x)), sq2 (b.x - a.x) (b.y - a.y)⟩ by rw [HE.out, if_neg h0]; exact if_neg h1)
      have n1 : decide ((b.x - a.x) * (b.x - a.x) + (b.y - a.y) * (b.y - a.y) ≤ (b.x - a.x) * (s.x - a.x) + (b.y - a.y) * (s.y - a.y)) = false := by rw [decide_eq_false_iff_not]; exact h1
      obtain ⟨X, hX⟩ : ∃ X : Nat, (X : Int) = if (b.x - a.x) * (s.y - a.y) - (b.y - a.y) * (s.x - a.x) < 0 then -((b.x - a.x) * (s.y - a.y) - (b.y - a.y) * (s.x - a.x)) else (b.x - a.x) * (s.y - a.y) - (b.y - a.y) * (s.x - a.x) := by
        refine ⟨(if (b.x - a.x) * (s.y - a.y) - (b.y - a.y) * (s.x - a.x) < 0 then -((b.x - a.x) * (s.y - a.y) - (b.y - a.y) * (s.x - a.x)) else (b.x - a.x) * (s.y - a.y) - (b.y - a.y) * (s.x - a.x)).toNat, Int.toNat_of_nonneg ?_⟩
        split <;> omega
      have hXX : ((X * X : Nat) : Int) = ((b.x - a.x) * (s.y - a.y) - (b.y - a.y) * (s.x - a.x)) * ((b.x - a.x) * (s.y - a.y) - (b.y - a.y) * (s.x - a.x)) := by
        rw [Int.natCast_mul, hX]
        split
        · rw [Int.neg_mul_neg]
        · rfl
      have hXb : X ≤ 800000000000000 := by
        have : (X : Int) ≤ 800000000000000 := by rw [hX]; split <;> omega
        omega
      have HP := Lib.hid (show (sepC (sepSeg s a b)).toArray = #[.int .u64 ((X * X / 18446744073709551616 : Nat) : Int), .int .u64 ((X * X % 18446744073709551616 : Nat) : Int), .int .u64 ((b.x - a.x) * (b.x - a.x) + (b.y - a.y) * (b.y - a.y))] by
        rw [sepC_eq, HV.out]
        have e : (((b.x - a.x) * (s.y - a.y) - (b.y - a.y) * (s.x - a.x)) * ((b.x - a.x) * (s.y - a.y) - (b.y - a.y) * (s.x - a.x))).toNat = X * X := by rw [← hXX]; exact Int.toNat_natCast _
        show #[Value.int .u64 (((((b.x - a.x) * (s.y - a.y) - (b.y - a.y) * (s.x - a.x)) * ((b.x - a.x) * (s.y - a.y) - (b.y - a.y) * (s.x - a.x))).toNat / 18446744073709551616 : Nat) : Int), Value.int .u64 (((((b.x - a.x) * (s.y - a.y) - (b.y - a.y) * (s.x - a.x)) * ((b.x - a.x) * (s.y - a.y) - (b.y - a.y) * (s.x - a.x))).toNat % 18446744073709551616 : Nat) : Int), Value.int .u64 (sq2 (b.x - a.x) (b.y - a.y))] = _
        rw [e]
        rfl)
      rw [HP.out]
      have HPR := Lib.hid (show ∀ w, Calls Tryz.prog 113 #[.int .u64 (X : Int), .int .u64 (X : Int)] w fun e w' => e = .returned (.agg #[.int .u64 ((X * X / 18446744073709551616 : Nat) : Int), .int .u64 ((X * X % 18446744073709551616 : Nat) : Int)]) ∧ Below w.heap.size w w' from fun w => product_any X X (by omega) (by omega) w)
      generalize ((X * X / 18446744073709551616 : Nat) : Int) = p1 at *
      generalize ((X * X % 18446744073709551616 : Nat) : Int) = p2 at *
      have w3' : IntKind.u64.wrap ((b.x - a.x) * (b.x - a.x) + (b.y - a.y) * (b.y - a.y)) = (b.x - a.x) * (b.x - a.x) + (b.y - a.y) * (b.y - a.y) := by rw [IntKind.wrap_u64]; omega
      by_cases hneg : (b.x - a.x) * (s.y - a.y) - (b.y - a.y) * (s.x - a.x) < 0
      · have hXe : -((b.x - a.x) * (s.y - a.y) - (b.y - a.y) * (s.x - a.x)) = (X : Int) := by rw [hX, if_pos hneg]
        have hXe2 : (b.y - a.y) * (s.x - a.x) - (b.x - a.x) * (s.y - a.y) = (X : Int) := by omega
        have n2 : decide ((b.x - a.x) * (s.y - a.y) - (b.y - a.y) * (s.x - a.x) < 0) = true := decide_eq_true hneg
        have w1' : IntKind.u64.wrap (X : Int) = (X : Int) := by rw [IntKind.wrap_u64]; omega
        clear hX hXX HV HP HE
        go_enter Tryz.func111, Tryz.ntmps111
        go_wp2
        go_quiet (fail)
        go_wp2
        go_quiet (fail)
        go_wp2_with fail
        (with_reducible refine (HPR.out _).mono ?_)
        rintro e w5 ⟨rfl, hb5⟩
        have h5 := (HBQ.out _).trans hb5
        have f0 := (h5.cell (p := ⟨w.heap.size + 1 + 1 + 1, 0, none⟩) (by simp; omega)).trans (HC6.out 0 (by omega))
        have f1 := (h5.cell (p := ⟨w.heap.size + 1 + 1 + 1, 1, none⟩) (by simp; omega)).trans (HC6.out 1 (by omega))
        have f2 := (h5.cell (p := ⟨w.heap.size + 1 + 1 + 1, 2, none⟩) (by simp; omega)).trans (HC6.out 2 (by omega))
        have g0 := (h5.frozen (p := ⟨w.heap.size + 1 + 1 + 1, 0, none⟩) (by simp; omega)).trans (HC7.out 0)
        have g1 := (h5.frozen (p := ⟨w.heap.size + 1 + 1 + 1, 1, none⟩) (by simp; omega)).trans (HC7.out 1)
        have g2 := (h5.frozen (p := ⟨w.heap.size + 1 + 1 + 1, 2, none⟩) (by simp; omega)).trans (HC7.out 2)
        have HB5 := Lib.hid (HB1.out.trans (h5.mono HB1.out.size))
        clear hb5 h5 c0 c1 c2 c3 c4 c5 hW1
        go_wp2
        exact bodyPost_ret (v := .agg #[.int .u64 p1, .int .u64 p2, .int .u64 ((b.x - a.x) * (b.x - a.x) + (b.y - a.y) * (b.y - a.y))]) (by simp [results, Tryz.results111, go_sem, (set3_read f0 f1 f2).1, (set3_read f0 f1 f2).2.1, (set3_read f0 f1 f2).2.2]) rfl ⟨rfl, ((HB5.out.setCell (by simp; omega) _).setCell (by simp; omega) _).setCell (by simp; omega) _⟩
      · have hXe : (b.x - a.x) * (s.y - a.y) - (b.y - a.y) * (s.x - a.x) = (X : Int) := by rw [hX, if_neg hneg]
        have n2 : decide ((b.x - a.x) * (s.y - a.y) - (b.y - a.y) * (s.x - a.x) < 0) = false := by rw [decide_eq_false_iff_not]; exact hneg
        rw [hXe] at hneg n2
        have w1' : IntKind.u64.wrap (X : Int) = (X : Int) := by rw [IntKind.wrap_u64]; omega
        clear hX hXX HV HP HE
        go_enter Tryz.func111, Tryz.ntmps111
        go_wp2
        go_quiet (fail)
        go_wp2
        go_quiet (fail)
        go_wp2_with fail
        (with_reducible refine (HPR.out _).mono ?_)
        rintro e w5 ⟨rfl, hb5⟩
        have h5 := (HBQ.out _).trans hb5
        have f0 := (h5.cell (p := ⟨w.heap.size + 1 + 1 + 1, 0, none⟩) (by simp; omega)).trans (HC6.out 0 (by omega))
        have f1 := (h5.cell (p := ⟨w.heap.size + 1 + 1 + 1, 1, none⟩) (by simp; omega)).trans (HC6.out 1 (by omega))
        have f2 := (h5.cell (p := ⟨w.heap.size + 1 + 1 + 1, 2, none⟩) (by simp; omega)).trans (HC6.out 2 (by omega))
        have g0 := (h5.frozen (p := ⟨w.heap.size + 1 + 1 + 1, 0, none⟩) (by simp; omega)).trans (HC7.out 0)
        have g1 := (h5.frozen (p := ⟨w.heap.size + 1 + 1 + 1, 1, none⟩) (by simp; omega)).trans (HC7.out 1)
        have g2 := (h5.frozen (p := ⟨w.heap.size + 1 + 1 + 1, 2, none⟩) (by simp; omega)).trans (HC7.out 2)
        have HB5 := Lib.hid (HB1.out.trans (h5.mono HB1.out.size))
        clear hb5 h5 c0 c1 c2 c3 c4 c5 hW1
        go_wp2
        exact bodyPost_ret (v := .agg #[.int .u64 p1, .int .u64 p2, .int .u64 ((b.x - a.x) * (b.x - a.x) + (b.y - a.y) * (b.y - a.y))]) (by simp [results, Tryz.results111, go_sem, (set3_read f0 f1 f2).1, (set3_read f0 f1 f2).2.1, (set3_read f0 f1 f2).2.2]) rfl ⟨rfl, ((HB5.out.setCell (by simp; omega) _).setCell (by simp; omega) _).setCell (by simp; omega) _⟩
end Go.Proofs.YtekambdnmaompaaGreat.SW

namespace Go.Proofs.YtekambdnmaompaaGreat.SW
set_option linter.unusedVariables false
set_option linter.unusedSimpArgs false
open Go.RowKit

theorem count_is {p : Nat → Bool} {n lo : Nat} (hl : lo ≤ n) (h1 : ∀ t, t < lo → p t = false) (h2 : ∀ t, lo ≤ t → t < n → p t = true) : (List.range n).countP (fun i => !p i) = lo := by
  obtain ⟨c1, c2, c3⟩ := countP_mono (p := p) n (fun a b hab hb ha => by
    by_cases h : b < lo
    · have := h1 a (by omega); rw [ha] at this; cases this
    · exact h2 b (by omega) hb)
  generalize (List.range n).countP (fun i => !p i) = r at *
  rcases Nat.lt_trichotomy r lo with h | h | h
  · have := c3 (by omega)
    rw [h1 r h] at this; cases this
  · exact h
  · have := c2 lo h
    rw [h2 lo (Nat.le_refl _) (by omega)] at this; cases this
set_option maxRecDepth 100000 in
set_option maxHeartbeats 2000000 in
theorem search_any (k n : Nat) (p : Nat → Bool) (w : World) (hn : n ≤ 1000000)
    (hf : ∀ (wx : World) (i : Nat), Below w.heap.size w wx → i < n → Calls Tryz.prog 115 #[.int .i64 (i : Int), .pointer (some ⟨k, 0, none⟩)] wx fun e w' => e = .returned (.bool (p i)) ∧ Below wx.heap.size wx w')
    (hmono : ∀ a b, a ≤ b → b < n → p a = true → p b = true) :
    Calls Tryz.prog 114 #[.int .i64 (n : Int), .func (.func 115) #[] #[.pointer (some ⟨k, 0, none⟩)]] w fun e w' => e = .returned (.int .i64 (((List.range n).countP (fun i => !p i) : Nat) : Int)) ∧ Below w.heap.size w w' := by
  have HF := Lib.hid hf
  have HM := Lib.hid hmono
  have HC := Lib.hid (show ∀ lo, lo ≤ n → (∀ t, t < lo → p t = false) → (∀ t, lo ≤ t → t < n → p t = true) → (List.range n).countP (fun i => !p i) = lo from fun lo h h1 h2 => count_is h h1 h2)
  obtain ⟨cnt, hcnt⟩ : ∃ z, (List.range n).countP (fun i => !p i) = z := ⟨_, rfl⟩
  rw [hcnt] at HC ⊢
  clear hf hmono hcnt
  go_enter Tryz.func114, Tryz.ntmps114
  go_wp2
  go_loopw [5, 6] (fun s5 s6 wr => ∃ lo hi : Nat, s5 = .int .i64 (lo : Int) ∧ s6 = .int .i64 (hi : Int) ∧ lo ≤ hi ∧ hi ≤ n ∧ (∀ t, t < lo → p t = false) ∧ (∀ t, hi ≤ t → t < n → p t = true) ∧ Below w.heap.size w wr) (fun s5 s6 _ => (intOf s6).toNat - (intOf s5).toNat)
  case atStart => exact ⟨0, n, rfl, rfl, Nat.zero_le _, Nat.le_refl _, (fun t h => by omega), (fun t h h2 => by omega), Below.refl _ _⟩
  case round =>
    obtain ⟨lo, hi, rfl, rfl, hlh, hin, h1, h2, hb⟩ := hrel
    have H1 := Lib.hid h1; have H2 := Lib.hid h2; have HB := Lib.hid hb
    clear h1 h2 hb
    by_cases hlt : lo < hi
    · obtain ⟨h, hh⟩ : ∃ h, (lo + hi) / 2 = h := ⟨_, rfl⟩
      have hc := HF.out wr h HB.out (by omega)
      have hhi : ((lo : Int) + (hi : Int)) / 2 = (h : Int) := by omega
      have w0' : IntKind.i64.wrap ((lo : Int) + (hi : Int)) = (lo : Int) + (hi : Int) := by rw [IntKind.wrap_i64]; omega
      have w1' : IntKind.u64.wrap ((lo : Int) + (hi : Int)) = (lo : Int) + (hi : Int) := by rw [IntKind.wrap_u64]; omega
      have hlo : lo ≤ h := by omega
      have hhi2 : h < hi := by omega
      obtain ⟨b, hb⟩ : ∃ z, p h = z := ⟨_, rfl⟩
      rw [hb] at hc
      have HPB := Lib.hid hb
      have HCC := Lib.hid hc
      clear hb hc hh
      cases b with
      | false =>
        go_wp2_with fail
        refine (HCC.out).mono ?_
        rintro e w2 ⟨rfl, hb2⟩
        have HB2 := Lib.hid (HB.out.trans (hb2.mono HB.out.size))
        clear hb2
        go_wp2
        go_roundw
        case rel => exact ⟨h + 1, hi, by go_num, rfl, by omega, hin, (fun t ht => by
          by_cases e : t < lo
          · exact H1.out t e
          · cases hpt : p t with
            | false => rfl
            | true =>
              have := HM.out t h (by omega) (by omega) hpt
              rw [HPB.out] at this; cases this), H2.out, HB2.out⟩
        case measure => simp [intOf]; omega
      | true =>
        go_wp2_with fail
        refine (HCC.out).mono ?_
        rintro e w2 ⟨rfl, hb2⟩
        have HB2 := Lib.hid (HB.out.trans (hb2.mono HB.out.size))
        clear hb2
        go_wp2
        go_roundw
        case rel => exact ⟨lo, h, rfl, by go_num, by omega, by omega, H1.out, (fun t ht htn => HM.out h t ht htn HPB.out), HB2.out⟩
        case measure => simp [intOf]; omega
    · have HE := Lib.hid (HC.out lo (by omega) H1.out (fun t ht htn => H2.out t (by omega) htn))
      go_wp2
      go_ret
      exact ⟨by rw [HE.out]; rfl, HB.out⟩
theorem cmp_less {z : Sp} {d : Nat} : (decide (z.cmp (d : Int) < 0)) = lessB z d := by
  unfold Sp.cmp lessB
  split
  · rename_i h; simp [h]
  · rename_i h
    split <;> simp [h]
set_option maxRecDepth 100000 in
set_option maxHeartbeats 2000000 in
theorem floorFn_any (z : Sp) (k i : Nat) (w : World) (hz : SpOk z) (hi : i < 1000000) (h0 : w.cell? ⟨k, 0, none⟩ = some (.int .u64 ((z.over.toNat / 18446744073709551616 : Nat) : Int))) (h1 : w.cell? ⟨k, 1, none⟩ = some (.int .u64 ((z.over.toNat % 18446744073709551616 : Nat) : Int))) (h2 : w.cell? ⟨k, 2, none⟩ = some (.int .u64 z.under)) :
    Calls Tryz.prog 115 #[.int .i64 (i : Int), .pointer (some ⟨k, 0, none⟩)] w fun e w' => e = .returned (.bool (lessB z (i + 1))) ∧ Below w.heap.size w w' := by
  have hd : ((i + 1 : Nat) : Int) * ((i + 1 : Nat) : Int) < 9223372036854775808 := by
    have := Int.mul_le_mul (show ((i + 1 : Nat) : Int) ≤ 1000000 by omega) (show ((i + 1 : Nat) : Int) ≤ 1000000 by omega) (by omega) (by omega)
    omega
  have HC := Lib.hid (show ∀ w, Calls Tryz.prog 88 #[.agg (sepC z).toArray, .int .i64 ((i : Int) + 1)] w fun e w' => e = .returned (.int .i64 (z.cmp ((i + 1 : Nat) : Int))) ∧ Below w.heap.size w w' from fun w => sepCmp_any z _ w hz hd)
  have HL := Lib.hid (cmp_less (z := z) (d := i + 1))
  rw [sepC_eq] at HC
  generalize ((z.over.toNat / 18446744073709551616 : Nat) : Int) = a at *
  generalize ((z.over.toNat % 18446744073709551616 : Nat) : Int) = b at *
  generalize z.under = c at *
  generalize z.cmp ((i + 1 : Nat) : Int) = r at *
  obtain ⟨q, hq⟩ : ∃ q, lessB z (i + 1) = q := ⟨_, rfl⟩
  rw [hq] at HL ⊢
  clear hz hd hq
  go_enter Tryz.func115, Tryz.ntmps115
  go_wp2_with fail
  refine (HC.out _).mono ?_
  rintro e w1 ⟨rfl, hb⟩
  go_wp2
  go_ret
  exact ⟨by rw [← HL.out]; rfl, hb⟩
set_option maxRecDepth 100000 in
set_option maxHeartbeats 2000000 in
theorem floor_any (z : Sp) (m : Nat) (w : World) (hz : SpOk z) (hm : m ≤ 100000) :
    Calls Tryz.prog 89 #[.agg (sepC z).toArray, .int .i64 (m : Int)] w fun e w' => e = .returned (.int .i64 ((floorN z m : Nat) : Int)) ∧ Below w.heap.size w w' := by
  have hb1 := (Below.refl _ w).alloc (Nat.le_refl _) (.cells (sepC z).toArray 150)
  have c0 := fun i => cell_new1 w (sepC z).toArray 150 i
  have hz1 : (w.alloc (.cells (sepC z).toArray 150)).heap.size = w.heap.size + 1 := by simp
  obtain ⟨W1, hW1⟩ : ∃ x, w.alloc (.cells (sepC z).toArray 150) = x := ⟨_, rfl⟩
  rw [hW1] at hb1 c0 hz1
  have e0 := c0 0; have e1 := c0 1; have e2 := c0 2
  have HS := Lib.hid (search_any w.heap.size m (fun i => lessB z (i + 1)) W1 (by omega) (fun wx i hb hi => floorFn_any z w.heap.size i wx hz (by omega) ((hb.cell (p := ⟨w.heap.size, 0, none⟩) (by simp; omega)).trans e0) ((hb.cell (p := ⟨w.heap.size, 1, none⟩) (by simp; omega)).trans e1) ((hb.cell (p := ⟨w.heap.size, 2, none⟩) (by simp; omega)).trans e2))
    (fun a b hab _ ha => lessB_mono (Int.le_of_lt hz.u0) (by omega) ha))
  have HV := Lib.hid (show floorN z m = (List.range m).countP (fun i => !lessB z (i + 1)) from rfl)
  generalize (List.range m).countP (fun i => !lessB z (i + 1)) = r at *
  rw [HV.out]
  have HB1 := Lib.hid hb1
  rw [sepC_eq] at hW1 ⊢
  generalize ((z.over.toNat / 18446744073709551616 : Nat) : Int) = a at *
  generalize ((z.over.toNat % 18446744073709551616 : Nat) : Int) = b at *
  generalize z.under = c at *
  clear hb1 c0 e0 e1 e2
  go_enter Tryz.func89, Tryz.ntmps89
  go_wp2_with fail
  refine (HS.out).mono ?_
  rintro e w1 ⟨rfl, hb⟩
  go_wp2
  go_ret
  exact ⟨rfl, HB1.out.trans (hb.mono HB1.out.size)⟩
end Go.Proofs.YtekambdnmaompaaGreat.SW

namespace Go.Proofs.YtekambdnmaompaaGreat.SW
set_option linter.unusedVariables false
set_option linter.unusedSimpArgs false
open Go.RowKit

/-- a strip in memory: its bends lie elsewhere -/
structure SwM where
  s : Swp
  A : Option Addr
  c : Nat
def fSw (x : SwM) : List Value := [.int .i64 x.s.rail, .int .i64 x.s.seg, .int .i64 x.s.a.x, .int .i64 x.s.a.y, .int .i64 x.s.b.x, .int .i64 x.s.b.y, .int .i64 x.s.bg, .int .i64 x.s.en, .slice x.A x.s.bends.length x.c, .int .i64 (min x.s.a.x x.s.b.x), .int .i64 (min x.s.a.y x.s.b.y), .int .i64 (max x.s.a.x x.s.b.x), .int .i64 (max x.s.a.y x.s.b.y)]
theorem fSw_len (x : SwM) : (fSw x).length = 13 := rfl
theorem fSw_one (x : SwM) : ∀ u ∈ fSw x, u.oneCell' = true := by simp [fSw, Value.oneCell']
structure SwOk (s : Swp) : Prop where
  ha : inR s.a
  hb : inR s.b
  hab : 0 < sq2 (s.b.x - s.a.x) (s.b.y - s.a.y)
  bends : ∀ t ∈ s.bends, t = s.a ∨ t = s.b
theorem seps_ok {x y : Swp} (hx : SwOk x) (hy : SwOk y) : ∀ z ∈ seps x y, SpOk z := by
  intro z hz
  simp only [seps, List.mem_cons, List.not_mem_nil, or_false] at hz
  rcases hz with rfl | rfl | rfl | rfl
  · exact sepSeg_ok hx.ha hy.ha hy.hb hy.hab
  · exact sepSeg_ok hx.hb hy.ha hy.hb hy.hab
  · exact sepSeg_ok hy.ha hx.ha hx.hb hx.hab
  · exact sepSeg_ok hy.hb hx.ha hx.hb hx.hab
/-- the ends of two strips in two boxes -/
def Q8 (k : Nat) (a b c d : S) (w' : World) : Prop := w'.cell? ⟨k, 2, none⟩ = some (.int .i64 a.x) ∧ w'.cell? ⟨k, 3, none⟩ = some (.int .i64 a.y) ∧ w'.cell? ⟨k, 4, none⟩ = some (.int .i64 b.x) ∧ w'.cell? ⟨k, 5, none⟩ = some (.int .i64 b.y) ∧
  w'.cell? ⟨k + 1, 2, none⟩ = some (.int .i64 c.x) ∧ w'.cell? ⟨k + 1, 3, none⟩ = some (.int .i64 c.y) ∧ w'.cell? ⟨k + 1, 4, none⟩ = some (.int .i64 d.x) ∧ w'.cell? ⟨k + 1, 5, none⟩ = some (.int .i64 d.y)
theorem Q8.keep {k : Nat} {a b c d : S} {B : Nat} {w w' : World} (h : Q8 k a b c d w) (hb : Below B w w') (hk : k + 1 < B) : Q8 k a b c d w' := by
  obtain ⟨h0, h1, h2, h3, h4, h5, h6, h7⟩ := h
  exact ⟨(hb.cell (p := ⟨k, 2, none⟩) (by simp; omega)).trans h0, (hb.cell (p := ⟨k, 3, none⟩) (by simp; omega)).trans h1, (hb.cell (p := ⟨k, 4, none⟩) (by simp; omega)).trans h2, (hb.cell (p := ⟨k, 5, none⟩) (by simp; omega)).trans h3,
    (hb.cell (p := ⟨k + 1, 2, none⟩) (by simp; omega)).trans h4, (hb.cell (p := ⟨k + 1, 3, none⟩) (by simp; omega)).trans h5, (hb.cell (p := ⟨k + 1, 4, none⟩) (by simp; omega)).trans h6, (hb.cell (p := ⟨k + 1, 5, none⟩) (by simp; omega)).trans h7⟩
theorem Q8.set {k g i : Nat} {a b c d : S} {w : World} {v : Value} (h : Q8 k a b c d w) (h1 : g ≠ k) (h2 : g ≠ k + 1) : Q8 k a b c d (w.setCell ⟨g, i, none⟩ v) := by
  obtain ⟨e0, e1, e2, e3, e4, e5, e6, e7⟩ := h
  exact ⟨(World.cell?_setCell_far _ _ _ _ h1).trans e0, (World.cell?_setCell_far _ _ _ _ h1).trans e1, (World.cell?_setCell_far _ _ _ _ h1).trans e2, (World.cell?_setCell_far _ _ _ _ h1).trans e3,
    (World.cell?_setCell_far _ _ _ _ h2).trans e4, (World.cell?_setCell_far _ _ _ _ h2).trans e5, (World.cell?_setCell_far _ _ _ _ h2).trans e6, (World.cell?_setCell_far _ _ _ _ h2).trans e7⟩
theorem Q8.start (w : World) (x y : SwM) : Q8 w.heap.size x.s.a x.s.b y.s.a y.s.b ((w.alloc (.cells #[.int .i64 x.s.rail, .int .i64 x.s.seg, .int .i64 x.s.a.x, .int .i64 x.s.a.y, .int .i64 x.s.b.x, .int .i64 x.s.b.y, .int .i64 x.s.bg, .int .i64 x.s.en, .slice x.A x.s.bends.length x.c, .int .i64 (min x.s.a.x x.s.b.x), .int .i64 (min x.s.a.y x.s.b.y), .int .i64 (max x.s.a.x x.s.b.x), .int .i64 (max x.s.a.y x.s.b.y)] 98)).alloc (.cells #[.int .i64 y.s.rail, .int .i64 y.s.seg, .int .i64 y.s.a.x, .int .i64 y.s.a.y, .int .i64 y.s.b.x, .int .i64 y.s.b.y, .int .i64 y.s.bg, .int .i64 y.s.en, .slice y.A y.s.bends.length y.c, .int .i64 (min y.s.a.x y.s.b.x), .int .i64 (min y.s.a.y y.s.b.y), .int .i64 (max y.s.a.x y.s.b.x), .int .i64 (max y.s.a.y y.s.b.y)] 98)) := by
  have h0 := fun i => cell_keep1 (o := .cells #[.int .i64 y.s.rail, .int .i64 y.s.seg, .int .i64 y.s.a.x, .int .i64 y.s.a.y, .int .i64 y.s.b.x, .int .i64 y.s.b.y, .int .i64 y.s.bg, .int .i64 y.s.en, .slice y.A y.s.bends.length y.c, .int .i64 (min y.s.a.x y.s.b.x), .int .i64 (min y.s.a.y y.s.b.y), .int .i64 (max y.s.a.x y.s.b.x), .int .i64 (max y.s.a.y y.s.b.y)] 98) (cell_new1 w #[.int .i64 x.s.rail, .int .i64 x.s.seg, .int .i64 x.s.a.x, .int .i64 x.s.a.y, .int .i64 x.s.b.x, .int .i64 x.s.b.y, .int .i64 x.s.bg, .int .i64 x.s.en, .slice x.A x.s.bends.length x.c, .int .i64 (min x.s.a.x x.s.b.x), .int .i64 (min x.s.a.y x.s.b.y), .int .i64 (max x.s.a.x x.s.b.x), .int .i64 (max x.s.a.y x.s.b.y)] 98 i) (by simp)
  have h1 := fun i => cell_new1 (w.alloc (.cells #[.int .i64 x.s.rail, .int .i64 x.s.seg, .int .i64 x.s.a.x, .int .i64 x.s.a.y, .int .i64 x.s.b.x, .int .i64 x.s.b.y, .int .i64 x.s.bg, .int .i64 x.s.en, .slice x.A x.s.bends.length x.c, .int .i64 (min x.s.a.x x.s.b.x), .int .i64 (min x.s.a.y x.s.b.y), .int .i64 (max x.s.a.x x.s.b.x), .int .i64 (max x.s.a.y x.s.b.y)] 98)) #[.int .i64 y.s.rail, .int .i64 y.s.seg, .int .i64 y.s.a.x, .int .i64 y.s.a.y, .int .i64 y.s.b.x, .int .i64 y.s.b.y, .int .i64 y.s.bg, .int .i64 y.s.en, .slice y.A y.s.bends.length y.c, .int .i64 (min y.s.a.x y.s.b.x), .int .i64 (min y.s.a.y y.s.b.y), .int .i64 (max y.s.a.x y.s.b.x), .int .i64 (max y.s.a.y y.s.b.y)] 98 i
  rw [show (w.alloc (.cells #[.int .i64 x.s.rail, .int .i64 x.s.seg, .int .i64 x.s.a.x, .int .i64 x.s.a.y, .int .i64 x.s.b.x, .int .i64 x.s.b.y, .int .i64 x.s.bg, .int .i64 x.s.en, .slice x.A x.s.bends.length x.c, .int .i64 (min x.s.a.x x.s.b.x), .int .i64 (min x.s.a.y x.s.b.y), .int .i64 (max x.s.a.x x.s.b.x), .int .i64 (max x.s.a.y x.s.b.y)] 98)).heap.size = w.heap.size + 1 by simp] at h1
  exact ⟨h0 2, h0 3, h0 4, h0 5, h1 2, h1 3, h1 4, h1 5⟩
theorem seg_calls {s a b : S} (hs : inR s) (ha : inR a) (hb : inR b) (hab : 0 < sq2 (b.x - a.x) (b.y - a.y)) : ∃ p q r : Int, sepC (sepSeg s a b) = [.int .u64 p, .int .u64 q, .int .u64 r] ∧ ∀ w, Calls Tryz.prog 111 #[.agg #[.int .i64 s.x, .int .i64 s.y], .agg #[.int .i64 a.x, .int .i64 a.y], .agg #[.int .i64 b.x, .int .i64 b.y]] w fun e w' => e = .returned (.agg #[.int .u64 p, .int .u64 q, .int .u64 r]) ∧ Below w.heap.size w w' :=
  ⟨_, _, _, rfl, fun w => fromSeg_any s a b w ⟨hs, ha, hb⟩ hab⟩
theorem set12_read {w : World} {k : Nat} {u0 u1 u2 u3 u4 u5 u6 u7 u8 u9 u10 u11 : Value} (h : ∀ i, i < 12 → ∃ v, w.cell? ⟨k, i, none⟩ = some v) :
    ((((((((((((w.setCell ⟨k, 0, none⟩ u0).setCell ⟨k, 1, none⟩ u1).setCell ⟨k, 2, none⟩ u2).setCell ⟨k, 3, none⟩ u3).setCell ⟨k, 4, none⟩ u4).setCell ⟨k, 5, none⟩ u5).setCell ⟨k, 6, none⟩ u6).setCell ⟨k, 7, none⟩ u7).setCell ⟨k, 8, none⟩ u8).setCell ⟨k, 9, none⟩ u9).setCell ⟨k, 10, none⟩ u10).setCell ⟨k, 11, none⟩ u11).cell? ⟨k, 0, none⟩ = some u0 ∧
    ((((((((((((w.setCell ⟨k, 0, none⟩ u0).setCell ⟨k, 1, none⟩ u1).setCell ⟨k, 2, none⟩ u2).setCell ⟨k, 3, none⟩ u3).setCell ⟨k, 4, none⟩ u4).setCell ⟨k, 5, none⟩ u5).setCell ⟨k, 6, none⟩ u6).setCell ⟨k, 7, none⟩ u7).setCell ⟨k, 8, none⟩ u8).setCell ⟨k, 9, none⟩ u9).setCell ⟨k, 10, none⟩ u10).setCell ⟨k, 11, none⟩ u11).cell? ⟨k, 1, none⟩ = some u1 ∧
    ((((((((((((w.setCell ⟨k, 0, none⟩ u0).setCell ⟨k, 1, none⟩ u1).setCell ⟨k, 2, none⟩ u2).setCell ⟨k, 3, none⟩ u3).setCell ⟨k, 4, none⟩ u4).setCell ⟨k, 5, none⟩ u5).setCell ⟨k, 6, none⟩ u6).setCell ⟨k, 7, none⟩ u7).setCell ⟨k, 8, none⟩ u8).setCell ⟨k, 9, none⟩ u9).setCell ⟨k, 10, none⟩ u10).setCell ⟨k, 11, none⟩ u11).cell? ⟨k, 2, none⟩ = some u2 ∧
    ((((((((((((w.setCell ⟨k, 0, none⟩ u0).setCell ⟨k, 1, none⟩ u1).setCell ⟨k, 2, none⟩ u2).setCell ⟨k, 3, none⟩ u3).setCell ⟨k, 4, none⟩ u4).setCell ⟨k, 5, none⟩ u5).setCell ⟨k, 6, none⟩ u6).setCell ⟨k, 7, none⟩ u7).setCell ⟨k, 8, none⟩ u8).setCell ⟨k, 9, none⟩ u9).setCell ⟨k, 10, none⟩ u10).setCell ⟨k, 11, none⟩ u11).cell? ⟨k, 3, none⟩ = some u3 ∧
    ((((((((((((w.setCell ⟨k, 0, none⟩ u0).setCell ⟨k, 1, none⟩ u1).setCell ⟨k, 2, none⟩ u2).setCell ⟨k, 3, none⟩ u3).setCell ⟨k, 4, none⟩ u4).setCell ⟨k, 5, none⟩ u5).setCell ⟨k, 6, none⟩ u6).setCell ⟨k, 7, none⟩ u7).setCell ⟨k, 8, none⟩ u8).setCell ⟨k, 9, none⟩ u9).setCell ⟨k, 10, none⟩ u10).setCell ⟨k, 11, none⟩ u11).cell? ⟨k, 4, none⟩ = some u4 ∧
    ((((((((((((w.setCell ⟨k, 0, none⟩ u0).setCell ⟨k, 1, none⟩ u1).setCell ⟨k, 2, none⟩ u2).setCell ⟨k, 3, none⟩ u3).setCell ⟨k, 4, none⟩ u4).setCell ⟨k, 5, none⟩ u5).setCell ⟨k, 6, none⟩ u6).setCell ⟨k, 7, none⟩ u7).setCell ⟨k, 8, none⟩ u8).setCell ⟨k, 9, none⟩ u9).setCell ⟨k, 10, none⟩ u10).setCell ⟨k, 11, none⟩ u11).cell? ⟨k, 5, none⟩ = some u5 ∧
    ((((((((((((w.setCell ⟨k, 0, none⟩ u0).setCell ⟨k, 1, none⟩ u1).setCell ⟨k, 2, none⟩ u2).setCell ⟨k, 3, none⟩ u3).setCell ⟨k, 4, none⟩ u4).setCell ⟨k, 5, none⟩ u5).setCell ⟨k, 6, none⟩ u6).setCell ⟨k, 7, none⟩ u7).setCell ⟨k, 8, none⟩ u8).setCell ⟨k, 9, none⟩ u9).setCell ⟨k, 10, none⟩ u10).setCell ⟨k, 11, none⟩ u11).cell? ⟨k, 6, none⟩ = some u6 ∧
    ((((((((((((w.setCell ⟨k, 0, none⟩ u0).setCell ⟨k, 1, none⟩ u1).setCell ⟨k, 2, none⟩ u2).setCell ⟨k, 3, none⟩ u3).setCell ⟨k, 4, none⟩ u4).setCell ⟨k, 5, none⟩ u5).setCell ⟨k, 6, none⟩ u6).setCell ⟨k, 7, none⟩ u7).setCell ⟨k, 8, none⟩ u8).setCell ⟨k, 9, none⟩ u9).setCell ⟨k, 10, none⟩ u10).setCell ⟨k, 11, none⟩ u11).cell? ⟨k, 7, none⟩ = some u7 ∧
    ((((((((((((w.setCell ⟨k, 0, none⟩ u0).setCell ⟨k, 1, none⟩ u1).setCell ⟨k, 2, none⟩ u2).setCell ⟨k, 3, none⟩ u3).setCell ⟨k, 4, none⟩ u4).setCell ⟨k, 5, none⟩ u5).setCell ⟨k, 6, none⟩ u6).setCell ⟨k, 7, none⟩ u7).setCell ⟨k, 8, none⟩ u8).setCell ⟨k, 9, none⟩ u9).setCell ⟨k, 10, none⟩ u10).setCell ⟨k, 11, none⟩ u11).cell? ⟨k, 8, none⟩ = some u8 ∧
    ((((((((((((w.setCell ⟨k, 0, none⟩ u0).setCell ⟨k, 1, none⟩ u1).setCell ⟨k, 2, none⟩ u2).setCell ⟨k, 3, none⟩ u3).setCell ⟨k, 4, none⟩ u4).setCell ⟨k, 5, none⟩ u5).setCell ⟨k, 6, none⟩ u6).setCell ⟨k, 7, none⟩ u7).setCell ⟨k, 8, none⟩ u8).setCell ⟨k, 9, none⟩ u9).setCell ⟨k, 10, none⟩ u10).setCell ⟨k, 11, none⟩ u11).cell? ⟨k, 9, none⟩ = some u9 ∧
    ((((((((((((w.setCell ⟨k, 0, none⟩ u0).setCell ⟨k, 1, none⟩ u1).setCell ⟨k, 2, none⟩ u2).setCell ⟨k, 3, none⟩ u3).setCell ⟨k, 4, none⟩ u4).setCell ⟨k, 5, none⟩ u5).setCell ⟨k, 6, none⟩ u6).setCell ⟨k, 7, none⟩ u7).setCell ⟨k, 8, none⟩ u8).setCell ⟨k, 9, none⟩ u9).setCell ⟨k, 10, none⟩ u10).setCell ⟨k, 11, none⟩ u11).cell? ⟨k, 10, none⟩ = some u10 ∧
    ((((((((((((w.setCell ⟨k, 0, none⟩ u0).setCell ⟨k, 1, none⟩ u1).setCell ⟨k, 2, none⟩ u2).setCell ⟨k, 3, none⟩ u3).setCell ⟨k, 4, none⟩ u4).setCell ⟨k, 5, none⟩ u5).setCell ⟨k, 6, none⟩ u6).setCell ⟨k, 7, none⟩ u7).setCell ⟨k, 8, none⟩ u8).setCell ⟨k, 9, none⟩ u9).setCell ⟨k, 10, none⟩ u10).setCell ⟨k, 11, none⟩ u11).cell? ⟨k, 11, none⟩ = some u11 := by
  obtain ⟨v0, h0⟩ := h 0 (by omega)
  obtain ⟨v1, h1⟩ := h 1 (by omega)
  obtain ⟨v2, h2⟩ := h 2 (by omega)
  obtain ⟨v3, h3⟩ := h 3 (by omega)
  obtain ⟨v4, h4⟩ := h 4 (by omega)
  obtain ⟨v5, h5⟩ := h 5 (by omega)
  obtain ⟨v6, h6⟩ := h 6 (by omega)
  obtain ⟨v7, h7⟩ := h 7 (by omega)
  obtain ⟨v8, h8⟩ := h 8 (by omega)
  obtain ⟨v9, h9⟩ := h 9 (by omega)
  obtain ⟨v10, h10⟩ := h 10 (by omega)
  obtain ⟨v11, h11⟩ := h 11 (by omega)
  refine ⟨?_, ?_, ?_, ?_, ?_, ?_, ?_, ?_, ?_, ?_, ?_, ?_⟩
  · simp [go_sem, h0]
  · simp [go_sem, h1]
  · simp [go_sem, h2]
  · simp [go_sem, h3]
  · simp [go_sem, h4]
  · simp [go_sem, h5]
  · simp [go_sem, h6]
  · simp [go_sem, h7]
  · simp [go_sem, h8]
  · simp [go_sem, h9]
  · simp [go_sem, h10]
  · simp [go_sem, h11]
set_option maxRecDepth 100000 in
set_option maxHeartbeats 8000000 in
theorem seps_any (x y : SwM) (w : World) (hx : SwOk x.s) (hy : SwOk y.s) :
    Calls Tryz.prog 87 #[.agg (fSw x).toArray, .agg (fSw y).toArray] w fun e w' => e = .returned (.agg ((seps x.s y.s).flatMap sepC).toArray) ∧ Below w.heap.size w w' := by
  obtain ⟨p1, q1, r1, e1, C1⟩ := seg_calls hx.ha hy.ha hy.hb hy.hab
  obtain ⟨p2, q2, r2, e2, C2⟩ := seg_calls hx.hb hy.ha hy.hb hy.hab
  obtain ⟨p3, q3, r3, e3, C3⟩ := seg_calls hy.ha hx.ha hx.hb hx.hab
  obtain ⟨p4, q4, r4, e4, C4'⟩ := seg_calls hy.hb hx.ha hx.hb hx.hab
  have HV := Lib.hid (show ((seps x.s y.s).flatMap sepC).toArray = #[.int .u64 p1, .int .u64 q1, .int .u64 r1, .int .u64 p2, .int .u64 q2, .int .u64 r2, .int .u64 p3, .int .u64 q3, .int .u64 r3, .int .u64 p4, .int .u64 q4, .int .u64 r4] by
    simp only [seps, List.flatMap_cons, List.flatMap_nil, e1, e2, e3, e4]
    rfl)
  rw [HV.out]
  have HC1 := Lib.hid C1; have HC2 := Lib.hid C2; have HC3 := Lib.hid C3; have HC4 := Lib.hid C4'
  have hq := Q8.start w x y
  have hb0 := (((Below.refl _ w).alloc (Nat.le_refl _) (.cells #[.int .i64 x.s.rail, .int .i64 x.s.seg, .int .i64 x.s.a.x, .int .i64 x.s.a.y, .int .i64 x.s.b.x, .int .i64 x.s.b.y, .int .i64 x.s.bg, .int .i64 x.s.en, .slice x.A x.s.bends.length x.c, .int .i64 (min x.s.a.x x.s.b.x), .int .i64 (min x.s.a.y x.s.b.y), .int .i64 (max x.s.a.x x.s.b.x), .int .i64 (max x.s.a.y x.s.b.y)] 98)).alloc (by simp) (.cells #[.int .i64 y.s.rail, .int .i64 y.s.seg, .int .i64 y.s.a.x, .int .i64 y.s.a.y, .int .i64 y.s.b.x, .int .i64 y.s.b.y, .int .i64 y.s.bg, .int .i64 y.s.en, .slice y.A y.s.bends.length y.c, .int .i64 (min y.s.a.x y.s.b.x), .int .i64 (min y.s.a.y y.s.b.y), .int .i64 (max y.s.a.x y.s.b.x), .int .i64 (max y.s.a.y y.s.b.y)] 98)).alloc (by simp; omega) (.cells #[.int .u64 0, .int .u64 0, .int .u64 0, .int .u64 0, .int .u64 0, .int .u64 0, .int .u64 0, .int .u64 0, .int .u64 0, .int .u64 0, .int .u64 0, .int .u64 0] 151)
  have hz : (((w.alloc (.cells #[.int .i64 x.s.rail, .int .i64 x.s.seg, .int .i64 x.s.a.x, .int .i64 x.s.a.y, .int .i64 x.s.b.x, .int .i64 x.s.b.y, .int .i64 x.s.bg, .int .i64 x.s.en, .slice x.A x.s.bends.length x.c, .int .i64 (min x.s.a.x x.s.b.x), .int .i64 (min x.s.a.y x.s.b.y), .int .i64 (max x.s.a.x x.s.b.x), .int .i64 (max x.s.a.y x.s.b.y)] 98)).alloc (.cells #[.int .i64 y.s.rail, .int .i64 y.s.seg, .int .i64 y.s.a.x, .int .i64 y.s.a.y, .int .i64 y.s.b.x, .int .i64 y.s.b.y, .int .i64 y.s.bg, .int .i64 y.s.en, .slice y.A y.s.bends.length y.c, .int .i64 (min y.s.a.x y.s.b.x), .int .i64 (min y.s.a.y y.s.b.y), .int .i64 (max y.s.a.x y.s.b.x), .int .i64 (max y.s.a.y y.s.b.y)] 98)).alloc (.cells #[.int .u64 0, .int .u64 0, .int .u64 0, .int .u64 0, .int .u64 0, .int .u64 0, .int .u64 0, .int .u64 0, .int .u64 0, .int .u64 0, .int .u64 0, .int .u64 0] 151)).heap.size = w.heap.size + 3 := by simp
  have hr := fun i => box_cells3 w #[.int .i64 x.s.rail, .int .i64 x.s.seg, .int .i64 x.s.a.x, .int .i64 x.s.a.y, .int .i64 x.s.b.x, .int .i64 x.s.b.y, .int .i64 x.s.bg, .int .i64 x.s.en, .slice x.A x.s.bends.length x.c, .int .i64 (min x.s.a.x x.s.b.x), .int .i64 (min x.s.a.y x.s.b.y), .int .i64 (max x.s.a.x x.s.b.x), .int .i64 (max x.s.a.y x.s.b.y)] #[.int .i64 y.s.rail, .int .i64 y.s.seg, .int .i64 y.s.a.x, .int .i64 y.s.a.y, .int .i64 y.s.b.x, .int .i64 y.s.b.y, .int .i64 y.s.bg, .int .i64 y.s.en, .slice y.A y.s.bends.length y.c, .int .i64 (min y.s.a.x y.s.b.x), .int .i64 (min y.s.a.y y.s.b.y), .int .i64 (max y.s.a.x y.s.b.x), .int .i64 (max y.s.a.y y.s.b.y)] #[.int .u64 0, .int .u64 0, .int .u64 0, .int .u64 0, .int .u64 0, .int .u64 0, .int .u64 0, .int .u64 0, .int .u64 0, .int .u64 0, .int .u64 0, .int .u64 0] 98 98 151 i
  have hfz := fun i => frozen_new1 ((w.alloc (.cells #[.int .i64 x.s.rail, .int .i64 x.s.seg, .int .i64 x.s.a.x, .int .i64 x.s.a.y, .int .i64 x.s.b.x, .int .i64 x.s.b.y, .int .i64 x.s.bg, .int .i64 x.s.en, .slice x.A x.s.bends.length x.c, .int .i64 (min x.s.a.x x.s.b.x), .int .i64 (min x.s.a.y x.s.b.y), .int .i64 (max x.s.a.x x.s.b.x), .int .i64 (max x.s.a.y x.s.b.y)] 98)).alloc (.cells #[.int .i64 y.s.rail, .int .i64 y.s.seg, .int .i64 y.s.a.x, .int .i64 y.s.a.y, .int .i64 y.s.b.x, .int .i64 y.s.b.y, .int .i64 y.s.bg, .int .i64 y.s.en, .slice y.A y.s.bends.length y.c, .int .i64 (min y.s.a.x y.s.b.x), .int .i64 (min y.s.a.y y.s.b.y), .int .i64 (max y.s.a.x y.s.b.x), .int .i64 (max y.s.a.y y.s.b.y)] 98)) #[.int .u64 0, .int .u64 0, .int .u64 0, .int .u64 0, .int .u64 0, .int .u64 0, .int .u64 0, .int .u64 0, .int .u64 0, .int .u64 0, .int .u64 0, .int .u64 0] 151 i
  rw [show ((w.alloc (.cells #[.int .i64 x.s.rail, .int .i64 x.s.seg, .int .i64 x.s.a.x, .int .i64 x.s.a.y, .int .i64 x.s.b.x, .int .i64 x.s.b.y, .int .i64 x.s.bg, .int .i64 x.s.en, .slice x.A x.s.bends.length x.c, .int .i64 (min x.s.a.x x.s.b.x), .int .i64 (min x.s.a.y x.s.b.y), .int .i64 (max x.s.a.x x.s.b.x), .int .i64 (max x.s.a.y x.s.b.y)] 98)).alloc (.cells #[.int .i64 y.s.rail, .int .i64 y.s.seg, .int .i64 y.s.a.x, .int .i64 y.s.a.y, .int .i64 y.s.b.x, .int .i64 y.s.b.y, .int .i64 y.s.bg, .int .i64 y.s.en, .slice y.A y.s.bends.length y.c, .int .i64 (min y.s.a.x y.s.b.x), .int .i64 (min y.s.a.y y.s.b.y), .int .i64 (max y.s.a.x y.s.b.x), .int .i64 (max y.s.a.y y.s.b.y)] 98)).heap.size = w.heap.size + 1 + 1 by simp] at hfz
  have hq3 := hq.keep ((Below.refl ((w.alloc (.cells #[.int .i64 x.s.rail, .int .i64 x.s.seg, .int .i64 x.s.a.x, .int .i64 x.s.a.y, .int .i64 x.s.b.x, .int .i64 x.s.b.y, .int .i64 x.s.bg, .int .i64 x.s.en, .slice x.A x.s.bends.length x.c, .int .i64 (min x.s.a.x x.s.b.x), .int .i64 (min x.s.a.y x.s.b.y), .int .i64 (max x.s.a.x x.s.b.x), .int .i64 (max x.s.a.y x.s.b.y)] 98)).alloc (.cells #[.int .i64 y.s.rail, .int .i64 y.s.seg, .int .i64 y.s.a.x, .int .i64 y.s.a.y, .int .i64 y.s.b.x, .int .i64 y.s.b.y, .int .i64 y.s.bg, .int .i64 y.s.en, .slice y.A y.s.bends.length y.c, .int .i64 (min y.s.a.x y.s.b.x), .int .i64 (min y.s.a.y y.s.b.y), .int .i64 (max y.s.a.x y.s.b.x), .int .i64 (max y.s.a.y y.s.b.y)] 98)).heap.size _).alloc (Nat.le_refl _) (.cells #[.int .u64 0, .int .u64 0, .int .u64 0, .int .u64 0, .int .u64 0, .int .u64 0, .int .u64 0, .int .u64 0, .int .u64 0, .int .u64 0, .int .u64 0, .int .u64 0] 151)) (by simp)
  obtain ⟨W1, hW1⟩ : ∃ z, ((w.alloc (.cells #[.int .i64 x.s.rail, .int .i64 x.s.seg, .int .i64 x.s.a.x, .int .i64 x.s.a.y, .int .i64 x.s.b.x, .int .i64 x.s.b.y, .int .i64 x.s.bg, .int .i64 x.s.en, .slice x.A x.s.bends.length x.c, .int .i64 (min x.s.a.x x.s.b.x), .int .i64 (min x.s.a.y x.s.b.y), .int .i64 (max x.s.a.x x.s.b.x), .int .i64 (max x.s.a.y x.s.b.y)] 98)).alloc (.cells #[.int .i64 y.s.rail, .int .i64 y.s.seg, .int .i64 y.s.a.x, .int .i64 y.s.a.y, .int .i64 y.s.b.x, .int .i64 y.s.b.y, .int .i64 y.s.bg, .int .i64 y.s.en, .slice y.A y.s.bends.length y.c, .int .i64 (min y.s.a.x y.s.b.x), .int .i64 (min y.s.a.y y.s.b.y), .int .i64 (max y.s.a.x y.s.b.x), .int .i64 (max y.s.a.y y.s.b.y)] 98)).alloc (.cells #[.int .u64 0, .int .u64 0, .int .u64 0, .int .u64 0, .int .u64 0, .int .u64 0, .int .u64 0, .int .u64 0, .int .u64 0, .int .u64 0, .int .u64 0, .int .u64 0] 151) = z := ⟨_, rfl⟩
  rw [hW1] at hb0 hz hfz hq3
  have hz12 : ∀ i, i < 12 → W1.cell? ⟨w.heap.size + 1 + 1, i, none⟩ = some (.int .u64 0) := fun i hi => by
    rw [← hW1, (hr i).2]
    rcases (show i = 0 ∨ i = 1 ∨ i = 2 ∨ i = 3 ∨ i = 4 ∨ i = 5 ∨ i = 6 ∨ i = 7 ∨ i = 8 ∨ i = 9 ∨ i = 10 ∨ i = 11 by omega) with rfl | rfl | rfl | rfl | rfl | rfl | rfl | rfl | rfl | rfl | rfl | rfl <;> rfl
  have HK := Lib.hid (show ∀ wx, Below W1.heap.size W1 wx → Q8 w.heap.size x.s.a x.s.b y.s.a y.s.b wx from fun wx h => hq3.keep h (by omega))
  have HZ := Lib.hid (show ∀ wx, Below W1.heap.size W1 wx → (∀ i, i < 12 → wx.cell? ⟨w.heap.size + 1 + 1, i, none⟩ = some (.int .u64 0)) ∧ ∀ i, wx.frozen? ⟨w.heap.size + 1 + 1, i, none⟩ = false from fun wx h =>
    ⟨fun i hi => (h.cell (p := ⟨w.heap.size + 1 + 1, i, none⟩) (by simp; omega)).trans (hz12 i hi), fun i => (h.frozen (p := ⟨w.heap.size + 1 + 1, i, none⟩) (by simp; omega)).trans (hfz i)⟩)
  have HB1 := Lib.hid hb0
  clear hq hb0 hz hr hfz hq3 hz12 e1 e2 e3 e4 C1 C2 C3 C4' hx hy
  rw [show (fSw x).toArray = #[.int .i64 x.s.rail, .int .i64 x.s.seg, .int .i64 x.s.a.x, .int .i64 x.s.a.y, .int .i64 x.s.b.x, .int .i64 x.s.b.y, .int .i64 x.s.bg, .int .i64 x.s.en, .slice x.A x.s.bends.length x.c, .int .i64 (min x.s.a.x x.s.b.x), .int .i64 (min x.s.a.y x.s.b.y), .int .i64 (max x.s.a.x x.s.b.x), .int .i64 (max x.s.a.y x.s.b.y)] from rfl, show (fSw y).toArray = #[.int .i64 y.s.rail, .int .i64 y.s.seg, .int .i64 y.s.a.x, .int .i64 y.s.a.y, .int .i64 y.s.b.x, .int .i64 y.s.b.y, .int .i64 y.s.bg, .int .i64 y.s.en, .slice y.A y.s.bends.length y.c, .int .i64 (min y.s.a.x y.s.b.x), .int .i64 (min y.s.a.y y.s.b.y), .int .i64 (max y.s.a.x y.s.b.x), .int .i64 (max y.s.a.y y.s.b.y)] from rfl]
  go_enter Tryz.func87, Tryz.ntmps87
  go_upto_region 1 with (fail)
  clear hW1
  have hbq : Below W1.heap.size W1 W1.drew := (Below.refl _ _).drew
  have HS := Lib.hid (HK.out _ hbq)
  refine wp_region_held_drew (S := Q8 w.heap.size x.s.a x.s.b y.s.a y.s.b) (by kernel_rfl) HS.out (fun _ => ?_)
  refine hTake (i := 0) (d := 5) (v := .pointer (some ⟨w.heap.size, 2, none⟩)) rfl rfl (by kernel_rfl) (by kernel_rfl) (by kernel_rfl) (fun _ _ _ h => h) (Or.inl ⟨rfl, ?gr⟩) HS.out ?_
  case gr =>
    rintro W' ⟨s0, s1, s2, s3, s4, s5, s6, s7⟩
    go_simp
  simp only [Act.put, List.setIfInBounds_toArray, List.set_cons_zero, List.set_cons_succ]
  refine hTake (i := 1) (d := 6) (v := .agg #[.int .i64 x.s.a.x, .int .i64 x.s.a.y]) rfl rfl (by kernel_rfl) (by kernel_rfl) (by kernel_rfl) (fun _ _ _ h => h) (Or.inl ⟨rfl, ?gr⟩) HS.out ?_
  case gr =>
    rintro W' ⟨s0, s1, s2, s3, s4, s5, s6, s7⟩
    go_simp
  simp only [Act.put, List.setIfInBounds_toArray, List.set_cons_zero, List.set_cons_succ]
  refine hTake (i := 2) (d := 7) (v := .pointer (some ⟨w.heap.size + 1, 2, none⟩)) rfl rfl (by kernel_rfl) (by kernel_rfl) (by kernel_rfl) (fun _ _ _ h => h) (Or.inl ⟨rfl, ?gr⟩) HS.out ?_
  case gr =>
    rintro W' ⟨s0, s1, s2, s3, s4, s5, s6, s7⟩
    go_simp
  simp only [Act.put, List.setIfInBounds_toArray, List.set_cons_zero, List.set_cons_succ]
  refine hTake (i := 3) (d := 8) (v := .agg #[.int .i64 y.s.a.x, .int .i64 y.s.a.y]) rfl rfl (by kernel_rfl) (by kernel_rfl) (by kernel_rfl) (fun _ _ _ h => h) (Or.inl ⟨rfl, ?gr⟩) HS.out ?_
  case gr =>
    rintro W' ⟨s0, s1, s2, s3, s4, s5, s6, s7⟩
    go_simp
  simp only [Act.put, List.setIfInBounds_toArray, List.set_cons_zero, List.set_cons_succ]
  refine hTake (i := 4) (d := 9) (v := .pointer (some ⟨w.heap.size + 1, 4, none⟩)) rfl rfl (by kernel_rfl) (by kernel_rfl) (by kernel_rfl) (fun _ _ _ h => h) (Or.inl ⟨rfl, ?gr⟩) HS.out ?_
  case gr =>
    rintro W' ⟨s0, s1, s2, s3, s4, s5, s6, s7⟩
    go_simp
  simp only [Act.put, List.setIfInBounds_toArray, List.set_cons_zero, List.set_cons_succ]
  refine hTake (i := 5) (d := 10) (v := .agg #[.int .i64 y.s.b.x, .int .i64 y.s.b.y]) rfl rfl (by kernel_rfl) (by kernel_rfl) (by kernel_rfl) (fun _ _ _ h => h) (Or.inl ⟨rfl, ?gr⟩) HS.out ?_
  case gr =>
    rintro W' ⟨s0, s1, s2, s3, s4, s5, s6, s7⟩
    go_simp
  simp only [Act.put, List.setIfInBounds_toArray, List.set_cons_zero, List.set_cons_succ]
  refine hTake (i := 7) (d := 12) (v := .pointer (some ⟨w.heap.size, 4, none⟩)) rfl rfl (by kernel_rfl) (by kernel_rfl) (by kernel_rfl) (fun _ _ _ h => h) (Or.inl ⟨rfl, ?gr⟩) HS.out ?_
  case gr =>
    rintro W' ⟨s0, s1, s2, s3, s4, s5, s6, s7⟩
    go_simp
  simp only [Act.put, List.setIfInBounds_toArray, List.set_cons_zero, List.set_cons_succ]
  refine hTake (i := 8) (d := 13) (v := .agg #[.int .i64 x.s.b.x, .int .i64 x.s.b.y]) rfl rfl (by kernel_rfl) (by kernel_rfl) (by kernel_rfl) (fun _ _ _ h => h) (Or.inl ⟨rfl, ?gr⟩) HS.out ?_
  case gr =>
    rintro W' ⟨s0, s1, s2, s3, s4, s5, s6, s7⟩
    go_simp
  simp only [Act.put, List.setIfInBounds_toArray, List.set_cons_zero, List.set_cons_succ]
  refine hTake (i := 9) (d := 14) (v := .pointer (some ⟨w.heap.size + 1, 2, none⟩)) rfl rfl (by kernel_rfl) (by kernel_rfl) (by kernel_rfl) (fun _ _ _ h => h) (Or.inl ⟨rfl, ?gr⟩) HS.out ?_
  case gr =>
    rintro W' ⟨s0, s1, s2, s3, s4, s5, s6, s7⟩
    go_simp
  simp only [Act.put, List.setIfInBounds_toArray, List.set_cons_zero, List.set_cons_succ]
  refine hTake (i := 10) (d := 15) (v := .agg #[.int .i64 y.s.a.x, .int .i64 y.s.a.y]) rfl rfl (by kernel_rfl) (by kernel_rfl) (by kernel_rfl) (fun _ _ _ h => h) (Or.inl ⟨rfl, ?gr⟩) HS.out ?_
  case gr =>
    rintro W' ⟨s0, s1, s2, s3, s4, s5, s6, s7⟩
    go_simp
  simp only [Act.put, List.setIfInBounds_toArray, List.set_cons_zero, List.set_cons_succ]
  refine hTake (i := 11) (d := 16) (v := .pointer (some ⟨w.heap.size + 1, 4, none⟩)) rfl rfl (by kernel_rfl) (by kernel_rfl) (by kernel_rfl) (fun _ _ _ h => h) (Or.inl ⟨rfl, ?gr⟩) HS.out ?_
  case gr =>
    rintro W' ⟨s0, s1, s2, s3, s4, s5, s6, s7⟩
    go_simp
  simp only [Act.put, List.setIfInBounds_toArray, List.set_cons_zero, List.set_cons_succ]
  refine hTake (i := 12) (d := 17) (v := .agg #[.int .i64 y.s.b.x, .int .i64 y.s.b.y]) rfl rfl (by kernel_rfl) (by kernel_rfl) (by kernel_rfl) (fun _ _ _ h => h) (Or.inl ⟨rfl, ?gr⟩) HS.out ?_
  case gr =>
    rintro W' ⟨s0, s1, s2, s3, s4, s5, s6, s7⟩
    go_simp
  simp only [Act.put, List.setIfInBounds_toArray, List.set_cons_zero, List.set_cons_succ]
  refine hTake (i := 14) (d := 19) (v := .pointer (some ⟨w.heap.size + 1, 2, none⟩)) rfl rfl (by kernel_rfl) (by kernel_rfl) (by kernel_rfl) (fun _ _ _ h => h) (Or.inl ⟨rfl, ?gr⟩) HS.out ?_
  case gr =>
    rintro W' ⟨s0, s1, s2, s3, s4, s5, s6, s7⟩
    go_simp
  simp only [Act.put, List.setIfInBounds_toArray, List.set_cons_zero, List.set_cons_succ]
  refine hTake (i := 15) (d := 20) (v := .agg #[.int .i64 y.s.a.x, .int .i64 y.s.a.y]) rfl rfl (by kernel_rfl) (by kernel_rfl) (by kernel_rfl) (fun _ _ _ h => h) (Or.inl ⟨rfl, ?gr⟩) HS.out ?_
  case gr =>
    rintro W' ⟨s0, s1, s2, s3, s4, s5, s6, s7⟩
    go_simp
  simp only [Act.put, List.setIfInBounds_toArray, List.set_cons_zero, List.set_cons_succ]
  refine hTake (i := 16) (d := 21) (v := .pointer (some ⟨w.heap.size, 2, none⟩)) rfl rfl (by kernel_rfl) (by kernel_rfl) (by kernel_rfl) (fun _ _ _ h => h) (Or.inl ⟨rfl, ?gr⟩) HS.out ?_
  case gr =>
    rintro W' ⟨s0, s1, s2, s3, s4, s5, s6, s7⟩
    go_simp
  simp only [Act.put, List.setIfInBounds_toArray, List.set_cons_zero, List.set_cons_succ]
  refine hTake (i := 17) (d := 22) (v := .agg #[.int .i64 x.s.a.x, .int .i64 x.s.a.y]) rfl rfl (by kernel_rfl) (by kernel_rfl) (by kernel_rfl) (fun _ _ _ h => h) (Or.inl ⟨rfl, ?gr⟩) HS.out ?_
  case gr =>
    rintro W' ⟨s0, s1, s2, s3, s4, s5, s6, s7⟩
    go_simp
  simp only [Act.put, List.setIfInBounds_toArray, List.set_cons_zero, List.set_cons_succ]
  refine hTake (i := 18) (d := 23) (v := .pointer (some ⟨w.heap.size, 4, none⟩)) rfl rfl (by kernel_rfl) (by kernel_rfl) (by kernel_rfl) (fun _ _ _ h => h) (Or.inl ⟨rfl, ?gr⟩) HS.out ?_
  case gr =>
    rintro W' ⟨s0, s1, s2, s3, s4, s5, s6, s7⟩
    go_simp
  simp only [Act.put, List.setIfInBounds_toArray, List.set_cons_zero, List.set_cons_succ]
  refine hTake (i := 19) (d := 24) (v := .agg #[.int .i64 x.s.b.x, .int .i64 x.s.b.y]) rfl rfl (by kernel_rfl) (by kernel_rfl) (by kernel_rfl) (fun _ _ _ h => h) (Or.inl ⟨rfl, ?gr⟩) HS.out ?_
  case gr =>
    rintro W' ⟨s0, s1, s2, s3, s4, s5, s6, s7⟩
    go_simp
  simp only [Act.put, List.setIfInBounds_toArray, List.set_cons_zero, List.set_cons_succ]
  refine hTake (i := 21) (d := 26) (v := .pointer (some ⟨w.heap.size + 1, 4, none⟩)) rfl rfl (by kernel_rfl) (by kernel_rfl) (by kernel_rfl) (fun _ _ _ h => h) (Or.inl ⟨rfl, ?gr⟩) HS.out ?_
  case gr =>
    rintro W' ⟨s0, s1, s2, s3, s4, s5, s6, s7⟩
    go_simp
  simp only [Act.put, List.setIfInBounds_toArray, List.set_cons_zero, List.set_cons_succ]
  refine hTake (i := 22) (d := 27) (v := .agg #[.int .i64 y.s.b.x, .int .i64 y.s.b.y]) rfl rfl (by kernel_rfl) (by kernel_rfl) (by kernel_rfl) (fun _ _ _ h => h) (Or.inl ⟨rfl, ?gr⟩) HS.out ?_
  case gr =>
    rintro W' ⟨s0, s1, s2, s3, s4, s5, s6, s7⟩
    go_simp
  simp only [Act.put, List.setIfInBounds_toArray, List.set_cons_zero, List.set_cons_succ]
  refine hTake (i := 23) (d := 28) (v := .pointer (some ⟨w.heap.size, 2, none⟩)) rfl rfl (by kernel_rfl) (by kernel_rfl) (by kernel_rfl) (fun _ _ _ h => h) (Or.inl ⟨rfl, ?gr⟩) HS.out ?_
  case gr =>
    rintro W' ⟨s0, s1, s2, s3, s4, s5, s6, s7⟩
    go_simp
  simp only [Act.put, List.setIfInBounds_toArray, List.set_cons_zero, List.set_cons_succ]
  refine hTake (i := 24) (d := 29) (v := .agg #[.int .i64 x.s.a.x, .int .i64 x.s.a.y]) rfl rfl (by kernel_rfl) (by kernel_rfl) (by kernel_rfl) (fun _ _ _ h => h) (Or.inl ⟨rfl, ?gr⟩) HS.out ?_
  case gr =>
    rintro W' ⟨s0, s1, s2, s3, s4, s5, s6, s7⟩
    go_simp
  simp only [Act.put, List.setIfInBounds_toArray, List.set_cons_zero, List.set_cons_succ]
  refine hTake (i := 25) (d := 30) (v := .pointer (some ⟨w.heap.size, 4, none⟩)) rfl rfl (by kernel_rfl) (by kernel_rfl) (by kernel_rfl) (fun _ _ _ h => h) (Or.inl ⟨rfl, ?gr⟩) HS.out ?_
  case gr =>
    rintro W' ⟨s0, s1, s2, s3, s4, s5, s6, s7⟩
    go_simp
  simp only [Act.put, List.setIfInBounds_toArray, List.set_cons_zero, List.set_cons_succ]
  refine hTake (i := 26) (d := 31) (v := .agg #[.int .i64 x.s.b.x, .int .i64 x.s.b.y]) rfl rfl (by kernel_rfl) (by kernel_rfl) (by kernel_rfl) (fun _ _ _ h => h) (Or.inl ⟨rfl, ?gr⟩) HS.out ?_
  case gr =>
    rintro W' ⟨s0, s1, s2, s3, s4, s5, s6, s7⟩
    go_simp
  simp only [Act.put, List.setIfInBounds_toArray, List.set_cons_zero, List.set_cons_succ]
  refine wpAnyH_ready (rs := [6]) (by kernel_rfl) (by simp) ?_
  refine AllReadyH.cons rfl (fun K hK => ?_) AllReadyH.nil
  rw [if_pos (by rfl)]
  go_simp
  go_at_call 111
  (with_reducible refine (HC1.out _).mono ?_)
  rintro e v1 ⟨rfl, hb5⟩
  replace hbq := hbq.trans (hb5.mono hbq.size)
  have HS := Lib.hid (HK.out _ hbq)
  clear hb5
  refine hK.out _ _ HS.out (fun _ => ?_)
  clear hK K
  try simp only [Act.put, List.setIfInBounds_toArray, List.set_cons_zero, List.set_cons_succ]
  refine wpAnyH_ready (rs := [13]) (by kernel_rfl) (by simp) ?_
  refine AllReadyH.cons rfl (fun K hK => ?_) AllReadyH.nil
  rw [if_pos (by rfl)]
  go_simp
  go_at_call 111
  (with_reducible refine (HC2.out _).mono ?_)
  rintro e v2 ⟨rfl, hb5⟩
  replace hbq := hbq.trans (hb5.mono hbq.size)
  have HS := Lib.hid (HK.out _ hbq)
  clear hb5
  refine hK.out _ _ HS.out (fun _ => ?_)
  clear hK K
  try simp only [Act.put, List.setIfInBounds_toArray, List.set_cons_zero, List.set_cons_succ]
  refine wpAnyH_ready (rs := [20]) (by kernel_rfl) (by simp) ?_
  refine AllReadyH.cons rfl (fun K hK => ?_) AllReadyH.nil
  rw [if_pos (by rfl)]
  go_simp
  go_at_call 111
  (with_reducible refine (HC3.out _).mono ?_)
  rintro e v3 ⟨rfl, hb5⟩
  replace hbq := hbq.trans (hb5.mono hbq.size)
  have HS := Lib.hid (HK.out _ hbq)
  clear hb5
  refine hK.out _ _ HS.out (fun _ => ?_)
  clear hK K
  try simp only [Act.put, List.setIfInBounds_toArray, List.set_cons_zero, List.set_cons_succ]
  refine wpAnyH_ready (rs := [27]) (by kernel_rfl) (by simp) ?_
  refine AllReadyH.cons rfl (fun K hK => ?_) AllReadyH.nil
  rw [if_pos (by rfl)]
  go_simp
  go_at_call 111
  (with_reducible refine (HC4.out _).mono ?_)
  rintro e v4 ⟨rfl, hb5⟩
  replace hbq := hbq.trans (hb5.mono hbq.size)
  have HS := Lib.hid (HK.out _ hbq)
  clear hb5
  refine hK.out _ _ HS.out (fun _ => ?_)
  clear hK K
  try simp only [Act.put, List.setIfInBounds_toArray, List.set_cons_zero, List.set_cons_succ]
  refine hTake (i := 28) (d := 33) (v := .agg #[.int .u64 p1, .int .u64 q1, .int .u64 r1, .int .u64 p2, .int .u64 q2, .int .u64 r2, .int .u64 p3, .int .u64 q3, .int .u64 r3, .int .u64 p4, .int .u64 q4, .int .u64 r4]) rfl rfl (by kernel_rfl) (by kernel_rfl) (by kernel_rfl) (fun _ _ _ h => h) (Or.inl ⟨rfl, ?gr⟩) HS.out ?_
  case gr =>
    rintro W' ⟨s0, s1, s2, s3, s4, s5, s6, s7⟩
    go_simp
  simp only [Act.put, List.setIfInBounds_toArray, List.set_cons_zero, List.set_cons_succ]
  have n1 : w.heap.size + 1 + 1 ≠ w.heap.size := by omega
  have n2 : w.heap.size + 1 + 1 ≠ w.heap.size + 1 := by omega
  have hzz := HZ.out _ hbq
  have z0 := hzz.1 0 (by omega)
  have z1 := hzz.1 1 (by omega)
  have z2 := hzz.1 2 (by omega)
  have z3 := hzz.1 3 (by omega)
  have z4 := hzz.1 4 (by omega)
  have z5 := hzz.1 5 (by omega)
  have z6 := hzz.1 6 (by omega)
  have z7 := hzz.1 7 (by omega)
  have z8 := hzz.1 8 (by omega)
  have z9 := hzz.1 9 (by omega)
  have z10 := hzz.1 10 (by omega)
  have z11 := hzz.1 11 (by omega)
  have y0 := hzz.2 0
  have y1 := hzz.2 1
  have y2 := hzz.2 2
  have y3 := hzz.2 3
  have y4 := hzz.2 4
  have y5 := hzz.2 5
  have y6 := hzz.2 6
  have y7 := hzz.2 7
  have y8 := hzz.2 8
  have y9 := hzz.2 9
  have y10 := hzz.2 10
  have y11 := hzz.2 11
  refine wpAnyH_ready (rs := [29]) (by kernel_rfl) (by simp) ?_
  refine AllReadyH.cons rfl (fun K hK => ?_) AllReadyH.nil
  rw [if_pos (by rfl)]
  go_simp
  refine hK.out _ _ ?_ (fun _ => ?_)
  · exact (Q8.set (Q8.set (Q8.set (Q8.set (Q8.set (Q8.set (Q8.set (Q8.set (Q8.set (Q8.set (Q8.set (Q8.set HS.out n1 n2) n1 n2) n1 n2) n1 n2) n1 n2) n1 n2) n1 n2) n1 n2) n1 n2) n1 n2) n1 n2) n1 n2)
  clear hK K
  try simp only [Act.put, List.setIfInBounds_toArray, List.set_cons_zero, List.set_cons_succ]
  refine wpAnyH_done (by kernel_rfl) ?_ _
  have hR := set12_read (w := v4) (k := w.heap.size + 1 + 1) (u0 := .int .u64 p1) (u1 := .int .u64 q1) (u2 := .int .u64 r1) (u3 := .int .u64 p2) (u4 := .int .u64 q2) (u5 := .int .u64 r2) (u6 := .int .u64 p3) (u7 := .int .u64 q3) (u8 := .int .u64 r3) (u9 := .int .u64 p4) (u10 := .int .u64 q4) (u11 := .int .u64 r4) (fun i hi => ⟨_, hzz.1 i hi⟩)
  obtain ⟨o0, o1, o2, o3, o4, o5, o6, o7, o8, o9, o10, o11⟩ := hR
  have HBF := Lib.hid (HB1.out.trans (hbq.mono HB1.out.size))
  clear z0 y0 z1 y1 z2 y2 z3 y3 z4 y4 z5 y5 z6 y6 z7 y7 z8 y8 z9 y9 z10 y10 z11 y11
  have hle : w.heap.size ≤ w.heap.size + 1 + 1 := by omega
  go_wp2
  exact bodyPost_ret (v := .agg #[.int .u64 p1, .int .u64 q1, .int .u64 r1, .int .u64 p2, .int .u64 q2, .int .u64 r2, .int .u64 p3, .int .u64 q3, .int .u64 r3, .int .u64 p4, .int .u64 q4, .int .u64 r4]) (by simp [results, Tryz.results87, go_sem, o0, o1, o2, o3, o4, o5, o6, o7, o8, o9, o10, o11]) rfl ⟨rfl, (Below.setCell (Below.setCell (Below.setCell (Below.setCell (Below.setCell (Below.setCell (Below.setCell (Below.setCell (Below.setCell (Below.setCell (Below.setCell (Below.setCell HBF.out hle _) hle _) hle _) hle _) hle _) hle _) hle _) hle _) hle _) hle _) hle _) hle _)⟩

end Go.Proofs.YtekambdnmaompaaGreat.SW

namespace Go.Proofs.YtekambdnmaompaaGreat.SW
set_option linter.unusedVariables false
set_option linter.unusedSimpArgs false
open Go.RowKit

/-- a strip in its box -/
def Bx (k : Nat) (x : SwM) (w' : World) : Prop := ∀ (j : Nat) (u : Value), (fSw x)[j]? = some u → w'.cell? ⟨k, j, none⟩ = some u
theorem Bx.keep {k B : Nat} {x : SwM} {w w' : World} (h : Bx k x w) (hb : Below B w w') (hk : k < B) : Bx k x w' := fun j u hu => (hb.cell (p := ⟨k, j, none⟩) hk).trans (h j u hu)
theorem Bx.new (w : World) (x : SwM) : Bx w.heap.size x (w.alloc (.cells #[.int .i64 x.s.rail, .int .i64 x.s.seg, .int .i64 x.s.a.x, .int .i64 x.s.a.y, .int .i64 x.s.b.x, .int .i64 x.s.b.y, .int .i64 x.s.bg, .int .i64 x.s.en, .slice x.A x.s.bends.length x.c, .int .i64 (min x.s.a.x x.s.b.x), .int .i64 (min x.s.a.y x.s.b.y), .int .i64 (max x.s.a.x x.s.b.x), .int .i64 (max x.s.a.y x.s.b.y)] 98)) := fun j u hu => by
  rw [cell_new1]
  rw [show (#[.int .i64 x.s.rail, .int .i64 x.s.seg, .int .i64 x.s.a.x, .int .i64 x.s.a.y, .int .i64 x.s.b.x, .int .i64 x.s.b.y, .int .i64 x.s.bg, .int .i64 x.s.en, .slice x.A x.s.bends.length x.c, .int .i64 (min x.s.a.x x.s.b.x), .int .i64 (min x.s.a.y x.s.b.y), .int .i64 (max x.s.a.x x.s.b.x), .int .i64 (max x.s.a.y x.s.b.y)] : Array Value) = (fSw x).toArray from rfl, List.getElem?_toArray]
  exact hu
theorem two_bx (w : World) (x y : SwM) : Bx w.heap.size x ((w.alloc (.cells #[.int .i64 x.s.rail, .int .i64 x.s.seg, .int .i64 x.s.a.x, .int .i64 x.s.a.y, .int .i64 x.s.b.x, .int .i64 x.s.b.y, .int .i64 x.s.bg, .int .i64 x.s.en, .slice x.A x.s.bends.length x.c, .int .i64 (min x.s.a.x x.s.b.x), .int .i64 (min x.s.a.y x.s.b.y), .int .i64 (max x.s.a.x x.s.b.x), .int .i64 (max x.s.a.y x.s.b.y)] 98)).alloc (.cells #[.int .i64 y.s.rail, .int .i64 y.s.seg, .int .i64 y.s.a.x, .int .i64 y.s.a.y, .int .i64 y.s.b.x, .int .i64 y.s.b.y, .int .i64 y.s.bg, .int .i64 y.s.en, .slice y.A y.s.bends.length y.c, .int .i64 (min y.s.a.x y.s.b.x), .int .i64 (min y.s.a.y y.s.b.y), .int .i64 (max y.s.a.x y.s.b.x), .int .i64 (max y.s.a.y y.s.b.y)] 98)) ∧ Bx (w.heap.size + 1) y ((w.alloc (.cells #[.int .i64 x.s.rail, .int .i64 x.s.seg, .int .i64 x.s.a.x, .int .i64 x.s.a.y, .int .i64 x.s.b.x, .int .i64 x.s.b.y, .int .i64 x.s.bg, .int .i64 x.s.en, .slice x.A x.s.bends.length x.c, .int .i64 (min x.s.a.x x.s.b.x), .int .i64 (min x.s.a.y x.s.b.y), .int .i64 (max x.s.a.x x.s.b.x), .int .i64 (max x.s.a.y x.s.b.y)] 98)).alloc (.cells #[.int .i64 y.s.rail, .int .i64 y.s.seg, .int .i64 y.s.a.x, .int .i64 y.s.a.y, .int .i64 y.s.b.x, .int .i64 y.s.b.y, .int .i64 y.s.bg, .int .i64 y.s.en, .slice y.A y.s.bends.length y.c, .int .i64 (min y.s.a.x y.s.b.x), .int .i64 (min y.s.a.y y.s.b.y), .int .i64 (max y.s.a.x y.s.b.x), .int .i64 (max y.s.a.y y.s.b.y)] 98)) := by
  refine ⟨(Bx.new w x).keep ((Below.refl _ (w.alloc (.cells #[.int .i64 x.s.rail, .int .i64 x.s.seg, .int .i64 x.s.a.x, .int .i64 x.s.a.y, .int .i64 x.s.b.x, .int .i64 x.s.b.y, .int .i64 x.s.bg, .int .i64 x.s.en, .slice x.A x.s.bends.length x.c, .int .i64 (min x.s.a.x x.s.b.x), .int .i64 (min x.s.a.y x.s.b.y), .int .i64 (max x.s.a.x x.s.b.x), .int .i64 (max x.s.a.y x.s.b.y)] 98))).alloc (Nat.le_refl _) _) (by simp), ?_⟩
  have := Bx.new (w.alloc (.cells #[.int .i64 x.s.rail, .int .i64 x.s.seg, .int .i64 x.s.a.x, .int .i64 x.s.a.y, .int .i64 x.s.b.x, .int .i64 x.s.b.y, .int .i64 x.s.bg, .int .i64 x.s.en, .slice x.A x.s.bends.length x.c, .int .i64 (min x.s.a.x x.s.b.x), .int .i64 (min x.s.a.y x.s.b.y), .int .i64 (max x.s.a.x x.s.b.x), .int .i64 (max x.s.a.y x.s.b.y)] 98)) y
  rwa [show (w.alloc (.cells #[.int .i64 x.s.rail, .int .i64 x.s.seg, .int .i64 x.s.a.x, .int .i64 x.s.a.y, .int .i64 x.s.b.x, .int .i64 x.s.b.y, .int .i64 x.s.bg, .int .i64 x.s.en, .slice x.A x.s.bends.length x.c, .int .i64 (min x.s.a.x x.s.b.x), .int .i64 (min x.s.a.y x.s.b.y), .int .i64 (max x.s.a.x x.s.b.x), .int .i64 (max x.s.a.y x.s.b.y)] 98)).heap.size = w.heap.size + 1 by simp] at this
theorem sep3 (z : Sp) : ∃ p q r : Int, sepC z = [.int .u64 p, .int .u64 q, .int .u64 r] := ⟨_, _, _, rfl⟩
theorem und151 : Tryz.prog.underlying 151 = some (.array 4 150) := by kernel_rfl
theorem run_index4_0 (u0 u1 u2 u3 u4 u5 u6 u7 u8 u9 u10 u11 : Value) (w : World) : (Instr.index 151 (.agg #[u0, u1, u2, u3, u4, u5, u6, u7, u8, u9, u10, u11]) (.int .i64 0)).run Tryz.prog w = .ok (.agg #[u0, u1, u2]) w := by
  simp [Instr.index, run_underlying und151, asIntOf, go_sem]
theorem run_index4_1 (u0 u1 u2 u3 u4 u5 u6 u7 u8 u9 u10 u11 : Value) (w : World) : (Instr.index 151 (.agg #[u0, u1, u2, u3, u4, u5, u6, u7, u8, u9, u10, u11]) (.int .i64 1)).run Tryz.prog w = .ok (.agg #[u3, u4, u5]) w := by
  simp [Instr.index, run_underlying und151, asIntOf, go_sem]
theorem run_index4_2 (u0 u1 u2 u3 u4 u5 u6 u7 u8 u9 u10 u11 : Value) (w : World) : (Instr.index 151 (.agg #[u0, u1, u2, u3, u4, u5, u6, u7, u8, u9, u10, u11]) (.int .i64 2)).run Tryz.prog w = .ok (.agg #[u6, u7, u8]) w := by
  simp [Instr.index, run_underlying und151, asIntOf, go_sem]
theorem run_index4_3 (u0 u1 u2 u3 u4 u5 u6 u7 u8 u9 u10 u11 : Value) (w : World) : (Instr.index 151 (.agg #[u0, u1, u2, u3, u4, u5, u6, u7, u8, u9, u10, u11]) (.int .i64 3)).run Tryz.prog w = .ok (.agg #[u9, u10, u11]) w := by
  simp [Instr.index, run_underlying und151, asIntOf, go_sem]
theorem gap4 (x y : Swp) : gapN (seps x y) 5000 = floorN (sepSeg y.b x.a x.b) (floorN (sepSeg y.a x.a x.b) (floorN (sepSeg x.b y.a y.b) (floorN (sepSeg x.a y.a y.b) 5000))) := by
  unfold gapN seps
  simp only [List.foldl_cons, List.foldl_nil]
set_option maxRecDepth 100000 in
set_option maxHeartbeats 8000000 in
theorem gap_any (x y : SwM) (w : World) (hx : SwOk x.s) (hy : SwOk y.s) :
    Calls Tryz.prog 63 #[.agg (fSw x).toArray, .agg (fSw y).toArray] w fun e w' => e = .returned (.int .i64 ((gapW x.s y.s : Nat) : Int)) ∧ Below w.heap.size w w' := by
  have HCR := Lib.hid (show ∀ w, Calls Tryz.prog 86 #[.agg #[.int .i64 x.s.a.x, .int .i64 x.s.a.y], .agg #[.int .i64 x.s.b.x, .int .i64 x.s.b.y], .agg #[.int .i64 y.s.a.x, .int .i64 y.s.a.y], .agg #[.int .i64 y.s.b.x, .int .i64 y.s.b.y]] w fun e w' => e = .returned (.bool (crossB x.s.a x.s.b y.s.a y.s.b)) ∧ Below w.heap.size w w' from fun w => cross_any _ _ _ _ w hx.ha hx.hb hy.ha hy.hb)
  have HSP := Lib.hid (show ∀ w, Calls Tryz.prog 87 #[.agg #[.int .i64 x.s.rail, .int .i64 x.s.seg, .int .i64 x.s.a.x, .int .i64 x.s.a.y, .int .i64 x.s.b.x, .int .i64 x.s.b.y, .int .i64 x.s.bg, .int .i64 x.s.en, .slice x.A x.s.bends.length x.c, .int .i64 (min x.s.a.x x.s.b.x), .int .i64 (min x.s.a.y x.s.b.y), .int .i64 (max x.s.a.x x.s.b.x), .int .i64 (max x.s.a.y x.s.b.y)], .agg #[.int .i64 y.s.rail, .int .i64 y.s.seg, .int .i64 y.s.a.x, .int .i64 y.s.a.y, .int .i64 y.s.b.x, .int .i64 y.s.b.y, .int .i64 y.s.bg, .int .i64 y.s.en, .slice y.A y.s.bends.length y.c, .int .i64 (min y.s.a.x y.s.b.x), .int .i64 (min y.s.a.y y.s.b.y), .int .i64 (max y.s.a.x y.s.b.x), .int .i64 (max y.s.a.y y.s.b.y)]] w fun e w' => e = .returned (.agg ((seps x.s y.s).flatMap sepC).toArray) ∧ Below w.heap.size w w' from fun w => seps_any x y w hx hy)
  have hok := seps_ok hx hy
  obtain ⟨b1, b2⟩ := two_bx w x y
  have hb0 := (((Below.refl _ w).alloc (Nat.le_refl _) (.cells #[.int .i64 x.s.rail, .int .i64 x.s.seg, .int .i64 x.s.a.x, .int .i64 x.s.a.y, .int .i64 x.s.b.x, .int .i64 x.s.b.y, .int .i64 x.s.bg, .int .i64 x.s.en, .slice x.A x.s.bends.length x.c, .int .i64 (min x.s.a.x x.s.b.x), .int .i64 (min x.s.a.y x.s.b.y), .int .i64 (max x.s.a.x x.s.b.x), .int .i64 (max x.s.a.y x.s.b.y)] 98)).alloc (by simp) (.cells #[.int .i64 y.s.rail, .int .i64 y.s.seg, .int .i64 y.s.a.x, .int .i64 y.s.a.y, .int .i64 y.s.b.x, .int .i64 y.s.b.y, .int .i64 y.s.bg, .int .i64 y.s.en, .slice y.A y.s.bends.length y.c, .int .i64 (min y.s.a.x y.s.b.x), .int .i64 (min y.s.a.y y.s.b.y), .int .i64 (max y.s.a.x y.s.b.x), .int .i64 (max y.s.a.y y.s.b.y)] 98))
  have hz : ((w.alloc (.cells #[.int .i64 x.s.rail, .int .i64 x.s.seg, .int .i64 x.s.a.x, .int .i64 x.s.a.y, .int .i64 x.s.b.x, .int .i64 x.s.b.y, .int .i64 x.s.bg, .int .i64 x.s.en, .slice x.A x.s.bends.length x.c, .int .i64 (min x.s.a.x x.s.b.x), .int .i64 (min x.s.a.y x.s.b.y), .int .i64 (max x.s.a.x x.s.b.x), .int .i64 (max x.s.a.y x.s.b.y)] 98)).alloc (.cells #[.int .i64 y.s.rail, .int .i64 y.s.seg, .int .i64 y.s.a.x, .int .i64 y.s.a.y, .int .i64 y.s.b.x, .int .i64 y.s.b.y, .int .i64 y.s.bg, .int .i64 y.s.en, .slice y.A y.s.bends.length y.c, .int .i64 (min y.s.a.x y.s.b.x), .int .i64 (min y.s.a.y y.s.b.y), .int .i64 (max y.s.a.x y.s.b.x), .int .i64 (max y.s.a.y y.s.b.y)] 98)).heap.size = w.heap.size + 1 + 1 := by simp
  have HGW := Lib.hid (show gapW x.s y.s = if crossB x.s.a x.s.b y.s.a y.s.b then 0 else floorN (sepSeg y.s.b x.s.a x.s.b) (floorN (sepSeg y.s.a x.s.a x.s.b) (floorN (sepSeg x.s.b y.s.a y.s.b) (floorN (sepSeg x.s.a y.s.a y.s.b) 5000))) by unfold gapW; rw [gap4])
  obtain ⟨W1, hW1⟩ : ∃ z, (w.alloc (.cells #[.int .i64 x.s.rail, .int .i64 x.s.seg, .int .i64 x.s.a.x, .int .i64 x.s.a.y, .int .i64 x.s.b.x, .int .i64 x.s.b.y, .int .i64 x.s.bg, .int .i64 x.s.en, .slice x.A x.s.bends.length x.c, .int .i64 (min x.s.a.x x.s.b.x), .int .i64 (min x.s.a.y x.s.b.y), .int .i64 (max x.s.a.x x.s.b.x), .int .i64 (max x.s.a.y x.s.b.y)] 98)).alloc (.cells #[.int .i64 y.s.rail, .int .i64 y.s.seg, .int .i64 y.s.a.x, .int .i64 y.s.a.y, .int .i64 y.s.b.x, .int .i64 y.s.b.y, .int .i64 y.s.bg, .int .i64 y.s.en, .slice y.A y.s.bends.length y.c, .int .i64 (min y.s.a.x y.s.b.x), .int .i64 (min y.s.a.y y.s.b.y), .int .i64 (max y.s.a.x y.s.b.x), .int .i64 (max y.s.a.y y.s.b.y)] 98) = z := ⟨_, rfl⟩
  rw [hW1] at b1 b2 hb0 hz
  have HB1 := Lib.hid hb0
  have HBX := Lib.hid (show ∀ wx, Below W1.heap.size W1 wx → Bx w.heap.size x wx ∧ Bx (w.heap.size + 1) y wx from fun wx h => ⟨b1.keep h (by omega), b2.keep h (by omega)⟩)
  obtain ⟨cr, hcr⟩ : ∃ z, crossB x.s.a x.s.b y.s.a y.s.b = z := ⟨_, rfl⟩
  rw [hcr] at HCR HGW
  have f1 := b1 2 _ rfl; have f2 := b1 3 _ rfl; have f3 := b1 4 _ rfl; have f4 := b1 5 _ rfl
  have g1 := b2 2 _ rfl; have g2 := b2 3 _ rfl; have g3 := b2 4 _ rfl; have g4 := b2 5 _ rfl
  rw [show (fSw x).toArray = #[.int .i64 x.s.rail, .int .i64 x.s.seg, .int .i64 x.s.a.x, .int .i64 x.s.a.y, .int .i64 x.s.b.x, .int .i64 x.s.b.y, .int .i64 x.s.bg, .int .i64 x.s.en, .slice x.A x.s.bends.length x.c, .int .i64 (min x.s.a.x x.s.b.x), .int .i64 (min x.s.a.y x.s.b.y), .int .i64 (max x.s.a.x x.s.b.x), .int .i64 (max x.s.a.y x.s.b.y)] from rfl, show (fSw y).toArray = #[.int .i64 y.s.rail, .int .i64 y.s.seg, .int .i64 y.s.a.x, .int .i64 y.s.a.y, .int .i64 y.s.b.x, .int .i64 y.s.b.y, .int .i64 y.s.bg, .int .i64 y.s.en, .slice y.A y.s.bends.length y.c, .int .i64 (min y.s.a.x y.s.b.x), .int .i64 (min y.s.a.y y.s.b.y), .int .i64 (max y.s.a.x y.s.b.x), .int .i64 (max y.s.a.y y.s.b.y)] from rfl]
  clear hx hy b1 b2 hb0 hz hcr
  cases cr with
  | true =>
    have HV := Lib.hid (show gapW x.s y.s = 0 by rw [HGW.out]; rfl)
    rw [HV.out]
    clear HGW HSP hok HV
    go_enter Tryz.func63, Tryz.ntmps63
    go_wp2_with fail
    refine (HCR.out _).mono ?_
    rintro e w2 ⟨rfl, hb2⟩
    clear hW1 f1 f2 f3 f4 g1 g2 g3 g4
    go_wp2
    go_ret
    exact ⟨rfl, HB1.out.trans (hb2.mono HB1.out.size)⟩
  | false =>
    obtain ⟨z1, hz1⟩ : ∃ z, sepSeg x.s.a y.s.a y.s.b = z := ⟨_, rfl⟩
    obtain ⟨z2, hz2⟩ : ∃ z, sepSeg x.s.b y.s.a y.s.b = z := ⟨_, rfl⟩
    obtain ⟨z3, hz3⟩ : ∃ z, sepSeg y.s.a x.s.a x.s.b = z := ⟨_, rfl⟩
    obtain ⟨z4, hz4⟩ : ∃ z, sepSeg y.s.b x.s.a x.s.b = z := ⟨_, rfl⟩
    have hsp : seps x.s y.s = [z1, z2, z3, z4] := by unfold seps; rw [hz1, hz2, hz3, hz4]
    rw [hsp] at hok HSP
    have k1 := hok z1 (by simp); have k2 := hok z2 (by simp); have k3 := hok z3 (by simp); have k4 := hok z4 (by simp)
    obtain ⟨p1, q1, r1, e1⟩ := sep3 z1; obtain ⟨p2, q2, r2, e2⟩ := sep3 z2; obtain ⟨p3, q3, r3, e3⟩ := sep3 z3; obtain ⟨p4, q4, r4, e4⟩ := sep3 z4
    obtain ⟨m1, hm1⟩ : ∃ m, floorN z1 5000 = m := ⟨_, rfl⟩
    obtain ⟨m2, hm2⟩ : ∃ m, floorN z2 m1 = m := ⟨_, rfl⟩
    obtain ⟨m3, hm3⟩ : ∃ m, floorN z3 m2 = m := ⟨_, rfl⟩
    obtain ⟨m4, hm4⟩ : ∃ m, floorN z4 m3 = m := ⟨_, rfl⟩
    have HV := Lib.hid (show gapW x.s y.s = m4 by
      rw [HGW.out, hz1, hz2, hz3, hz4, hm1, hm2, hm3, hm4]; rfl)
    have l1 : m1 ≤ 5000 := by rw [← hm1]; exact (floor_spec (Int.le_of_lt k1.u0) _).1
    have l2 : m2 ≤ 5000 := by rw [← hm2]; exact Nat.le_trans (floor_spec (Int.le_of_lt k2.u0) _).1 l1
    have l3 : m3 ≤ 5000 := by rw [← hm3]; exact Nat.le_trans (floor_spec (Int.le_of_lt k3.u0) _).1 l2
    have F1 := Lib.hid (show ∀ w, Calls Tryz.prog 89 #[.agg #[.int .u64 p1, .int .u64 q1, .int .u64 r1], .int .i64 5000] w fun e w' => e = .returned (.int .i64 (m1 : Int)) ∧ Below w.heap.size w w' from fun w => by
      have := floor_any z1 5000 w k1 (by omega); rw [e1, hm1] at this; exact this)
    have F2 := Lib.hid (show ∀ w, Calls Tryz.prog 89 #[.agg #[.int .u64 p2, .int .u64 q2, .int .u64 r2], .int .i64 (m1 : Int)] w fun e w' => e = .returned (.int .i64 (m2 : Int)) ∧ Below w.heap.size w w' from fun w => by
      have := floor_any z2 m1 w k2 (by omega); rw [e2, hm2] at this; exact this)
    have F3 := Lib.hid (show ∀ w, Calls Tryz.prog 89 #[.agg #[.int .u64 p3, .int .u64 q3, .int .u64 r3], .int .i64 (m2 : Int)] w fun e w' => e = .returned (.int .i64 (m3 : Int)) ∧ Below w.heap.size w w' from fun w => by
      have := floor_any z3 m2 w k3 (by omega); rw [e3, hm3] at this; exact this)
    have F4 := Lib.hid (show ∀ w, Calls Tryz.prog 89 #[.agg #[.int .u64 p4, .int .u64 q4, .int .u64 r4], .int .i64 (m3 : Int)] w fun e w' => e = .returned (.int .i64 (m4 : Int)) ∧ Below w.heap.size w w' from fun w => by
      have := floor_any z4 m3 w k4 (by omega); rw [e4, hm4] at this; exact this)
    have HA := Lib.hid (show (([z1, z2, z3, z4] : List Sp).flatMap sepC).toArray = #[.int .u64 p1, .int .u64 q1, .int .u64 r1, .int .u64 p2, .int .u64 q2, .int .u64 r2, .int .u64 p3, .int .u64 q3, .int .u64 r3, .int .u64 p4, .int .u64 q4, .int .u64 r4] by
      simp only [List.flatMap_cons, List.flatMap_nil, e1, e2, e3, e4]; rfl)
    rw [HA.out] at HSP
    rw [HV.out]
    clear HGW hok hz1 hz2 hz3 hz4 hsp k1 k2 k3 k4 e1 e2 e3 e4 hm1 hm2 hm3 hm4 HA HV
    have I0 := run_index4_0 (.int .u64 p1) (.int .u64 q1) (.int .u64 r1) (.int .u64 p2) (.int .u64 q2) (.int .u64 r2) (.int .u64 p3) (.int .u64 q3) (.int .u64 r3) (.int .u64 p4) (.int .u64 q4) (.int .u64 r4)
    have I1 := run_index4_1 (.int .u64 p1) (.int .u64 q1) (.int .u64 r1) (.int .u64 p2) (.int .u64 q2) (.int .u64 r2) (.int .u64 p3) (.int .u64 q3) (.int .u64 r3) (.int .u64 p4) (.int .u64 q4) (.int .u64 r4)
    have I2 := run_index4_2 (.int .u64 p1) (.int .u64 q1) (.int .u64 r1) (.int .u64 p2) (.int .u64 q2) (.int .u64 r2) (.int .u64 p3) (.int .u64 q3) (.int .u64 r3) (.int .u64 p4) (.int .u64 q4) (.int .u64 r4)
    have I3 := run_index4_3 (.int .u64 p1) (.int .u64 q1) (.int .u64 r1) (.int .u64 p2) (.int .u64 q2) (.int .u64 r2) (.int .u64 p3) (.int .u64 q3) (.int .u64 r3) (.int .u64 p4) (.int .u64 q4) (.int .u64 r4)
    go_enter Tryz.func63, Tryz.ntmps63
    go_wp2_with fail
    refine (HCR.out _).mono ?_
    rintro e w2 ⟨rfl, hb2⟩
    have HB2 := Lib.hid hb2
    obtain ⟨b1, b2⟩ := HBX.out _ hb2
    clear hW1 f1 f2 f3 f4 g1 g2 g3 g4 hb2
    have f0 := b1 0 _ rfl; have g0 := b2 0 _ rfl
    have f1 := b1 1 _ rfl; have g1 := b2 1 _ rfl
    have f2 := b1 2 _ rfl; have g2 := b2 2 _ rfl
    have f3 := b1 3 _ rfl; have g3 := b2 3 _ rfl
    have f4 := b1 4 _ rfl; have g4 := b2 4 _ rfl
    have f5 := b1 5 _ rfl; have g5 := b2 5 _ rfl
    have f6 := b1 6 _ rfl; have g6 := b2 6 _ rfl
    have f7 := b1 7 _ rfl; have g7 := b2 7 _ rfl
    have f8 := b1 8 _ rfl; have g8 := b2 8 _ rfl
    have f9 := b1 9 _ rfl; have g9 := b2 9 _ rfl
    have f10 := b1 10 _ rfl; have g10 := b2 10 _ rfl
    have f11 := b1 11 _ rfl; have g11 := b2 11 _ rfl
    have f12 := b1 12 _ rfl; have g12 := b2 12 _ rfl
    clear b1 b2
    go_wp2_with fail
    (with_reducible refine (HSP.out _).mono ?_)
    rintro e w3 ⟨rfl, hb3⟩
    have HB3 := Lib.hid (HB1.out.trans ((HB2.out.trans (hb3.mono HB2.out.size)).mono HB1.out.size))
    clear f0 g0 f1 g1 f2 g2 f3 g3 f4 g4 f5 g5 f6 g6 f7 g7 f8 g8 f9 g9 f10 g10 f11 g11 f12 g12 hb3 HBX HSP HCR
    go_wp2
    go_loopw [5, 20] (fun s5 s20 wr => Below w.heap.size w wr ∧ ((s20 = .int .i64 0 ∧ s5 = .int .i64 5000) ∨ (s20 = .int .i64 1 ∧ s5 = .int .i64 (m1 : Int)) ∨ (s20 = .int .i64 2 ∧ s5 = .int .i64 (m2 : Int)) ∨ (s20 = .int .i64 3 ∧ s5 = .int .i64 (m3 : Int)) ∨ (s20 = .int .i64 4 ∧ s5 = .int .i64 (m4 : Int)))) (fun _ s20 _ => 4 - (intOf s20).toNat)
    case atStart => exact ⟨HB3.out, .inl ⟨rfl, rfl⟩⟩
    case round =>
      obtain ⟨hb, ⟨rfl, rfl⟩ | ⟨rfl, rfl⟩ | ⟨rfl, rfl⟩ | ⟨rfl, rfl⟩ | ⟨rfl, rfl⟩⟩ := hrel
      · have HB := Lib.hid hb
        clear hb
        go_wp2_with fail
        refine (F1.out _).mono ?_
        rintro e w5 ⟨rfl, hb5⟩
        have HB5 := Lib.hid ((HB.out.alloc HB.out.size _).trans (hb5.mono (by have := HB.out.size; simp; omega)))
        clear hb5
        go_wp2
        go_roundw
        case rel => exact ⟨HB5.out, .inr (.inl ⟨rfl, rfl⟩)⟩
        case measure => simp [intOf]
      · have HB := Lib.hid hb
        clear hb
        go_wp2_with fail
        refine (F2.out _).mono ?_
        rintro e w5 ⟨rfl, hb5⟩
        have HB5 := Lib.hid ((HB.out.alloc HB.out.size _).trans (hb5.mono (by have := HB.out.size; simp; omega)))
        clear hb5
        go_wp2
        go_roundw
        case rel => exact ⟨HB5.out, .inr (.inr (.inl ⟨rfl, rfl⟩))⟩
        case measure => simp [intOf]
      · have HB := Lib.hid hb
        clear hb
        go_wp2_with fail
        refine (F3.out _).mono ?_
        rintro e w5 ⟨rfl, hb5⟩
        have HB5 := Lib.hid ((HB.out.alloc HB.out.size _).trans (hb5.mono (by have := HB.out.size; simp; omega)))
        clear hb5
        go_wp2
        go_roundw
        case rel => exact ⟨HB5.out, .inr (.inr (.inr (.inl ⟨rfl, rfl⟩)))⟩
        case measure => simp [intOf]
      · have HB := Lib.hid hb
        clear hb
        go_wp2_with fail
        refine (F4.out _).mono ?_
        rintro e w5 ⟨rfl, hb5⟩
        have HB5 := Lib.hid ((HB.out.alloc HB.out.size _).trans (hb5.mono (by have := HB.out.size; simp; omega)))
        clear hb5
        go_wp2
        go_roundw
        case rel => exact ⟨HB5.out, .inr (.inr (.inr (.inr ⟨rfl, rfl⟩)))⟩
        case measure => simp [intOf]
      · have HB := Lib.hid hb
        clear hb
        go_wp2
        go_ret
        exact ⟨rfl, HB.out⟩
end Go.Proofs.YtekambdnmaompaaGreat.SW

namespace Go.Proofs.YtekambdnmaompaaGreat.SW
set_option linter.unusedVariables false
set_option linter.unusedSimpArgs false
open Go.RowKit

theorem below_cmp (z : Sp) (d : Int) : z.below d false = decide (z.cmp d ≤ 0) := by
  unfold Sp.below Sp.cmp
  split
  · rename_i h; simp [h]
  · rename_i h
    split
    · rename_i h2; simp [h2]
    · rename_i h2; simp [h, h2]
set_option maxRecDepth 100000 in
set_option maxHeartbeats 8000000 in
theorem sides_any (x y : SwM) (r : Int) (w : World) (hx : SwOk x.s) (hy : SwOk y.s) (hr0 : 0 ≤ r) (hr1 : r ≤ 1000000) :
    Calls Tryz.prog 62 #[.agg (fSw x).toArray, .agg (fSw y).toArray, .int .i64 r] w fun e w' => e = .returned (.bool (sidesB x.s y.s r)) ∧ Below w.heap.size w w' := by
  have hrr : r * r < 9223372036854775808 := by
    have := Int.mul_le_mul hr1 hr1 hr0 (by omega)
    omega
  have HCR := Lib.hid (show ∀ w, Calls Tryz.prog 86 #[.agg #[.int .i64 x.s.a.x, .int .i64 x.s.a.y], .agg #[.int .i64 x.s.b.x, .int .i64 x.s.b.y], .agg #[.int .i64 y.s.a.x, .int .i64 y.s.a.y], .agg #[.int .i64 y.s.b.x, .int .i64 y.s.b.y]] w fun e w' => e = .returned (.bool (crossB x.s.a x.s.b y.s.a y.s.b)) ∧ Below w.heap.size w w' from fun w => cross_any _ _ _ _ w hx.ha hx.hb hy.ha hy.hb)
  have HSP := Lib.hid (show ∀ w, Calls Tryz.prog 87 #[.agg #[.int .i64 x.s.rail, .int .i64 x.s.seg, .int .i64 x.s.a.x, .int .i64 x.s.a.y, .int .i64 x.s.b.x, .int .i64 x.s.b.y, .int .i64 x.s.bg, .int .i64 x.s.en, .slice x.A x.s.bends.length x.c, .int .i64 (min x.s.a.x x.s.b.x), .int .i64 (min x.s.a.y x.s.b.y), .int .i64 (max x.s.a.x x.s.b.x), .int .i64 (max x.s.a.y x.s.b.y)], .agg #[.int .i64 y.s.rail, .int .i64 y.s.seg, .int .i64 y.s.a.x, .int .i64 y.s.a.y, .int .i64 y.s.b.x, .int .i64 y.s.b.y, .int .i64 y.s.bg, .int .i64 y.s.en, .slice y.A y.s.bends.length y.c, .int .i64 (min y.s.a.x y.s.b.x), .int .i64 (min y.s.a.y y.s.b.y), .int .i64 (max y.s.a.x y.s.b.x), .int .i64 (max y.s.a.y y.s.b.y)]] w fun e w' => e = .returned (.agg ((seps x.s y.s).flatMap sepC).toArray) ∧ Below w.heap.size w w' from fun w => seps_any x y w hx hy)
  have hok := seps_ok hx hy
  obtain ⟨b1, b2⟩ := two_bx w x y
  have hb0 := (((Below.refl _ w).alloc (Nat.le_refl _) (.cells #[.int .i64 x.s.rail, .int .i64 x.s.seg, .int .i64 x.s.a.x, .int .i64 x.s.a.y, .int .i64 x.s.b.x, .int .i64 x.s.b.y, .int .i64 x.s.bg, .int .i64 x.s.en, .slice x.A x.s.bends.length x.c, .int .i64 (min x.s.a.x x.s.b.x), .int .i64 (min x.s.a.y x.s.b.y), .int .i64 (max x.s.a.x x.s.b.x), .int .i64 (max x.s.a.y x.s.b.y)] 98)).alloc (by simp) (.cells #[.int .i64 y.s.rail, .int .i64 y.s.seg, .int .i64 y.s.a.x, .int .i64 y.s.a.y, .int .i64 y.s.b.x, .int .i64 y.s.b.y, .int .i64 y.s.bg, .int .i64 y.s.en, .slice y.A y.s.bends.length y.c, .int .i64 (min y.s.a.x y.s.b.x), .int .i64 (min y.s.a.y y.s.b.y), .int .i64 (max y.s.a.x y.s.b.x), .int .i64 (max y.s.a.y y.s.b.y)] 98))
  have hz : ((w.alloc (.cells #[.int .i64 x.s.rail, .int .i64 x.s.seg, .int .i64 x.s.a.x, .int .i64 x.s.a.y, .int .i64 x.s.b.x, .int .i64 x.s.b.y, .int .i64 x.s.bg, .int .i64 x.s.en, .slice x.A x.s.bends.length x.c, .int .i64 (min x.s.a.x x.s.b.x), .int .i64 (min x.s.a.y x.s.b.y), .int .i64 (max x.s.a.x x.s.b.x), .int .i64 (max x.s.a.y x.s.b.y)] 98)).alloc (.cells #[.int .i64 y.s.rail, .int .i64 y.s.seg, .int .i64 y.s.a.x, .int .i64 y.s.a.y, .int .i64 y.s.b.x, .int .i64 y.s.b.y, .int .i64 y.s.bg, .int .i64 y.s.en, .slice y.A y.s.bends.length y.c, .int .i64 (min y.s.a.x y.s.b.x), .int .i64 (min y.s.a.y y.s.b.y), .int .i64 (max y.s.a.x y.s.b.x), .int .i64 (max y.s.a.y y.s.b.y)] 98)).heap.size = w.heap.size + 1 + 1 := by simp
  have HGW := Lib.hid (show sidesB x.s y.s r = (crossB x.s.a x.s.b y.s.a y.s.b || (seps x.s y.s).any (fun z => z.below r false)) from rfl)
  obtain ⟨W1, hW1⟩ : ∃ z, (w.alloc (.cells #[.int .i64 x.s.rail, .int .i64 x.s.seg, .int .i64 x.s.a.x, .int .i64 x.s.a.y, .int .i64 x.s.b.x, .int .i64 x.s.b.y, .int .i64 x.s.bg, .int .i64 x.s.en, .slice x.A x.s.bends.length x.c, .int .i64 (min x.s.a.x x.s.b.x), .int .i64 (min x.s.a.y x.s.b.y), .int .i64 (max x.s.a.x x.s.b.x), .int .i64 (max x.s.a.y x.s.b.y)] 98)).alloc (.cells #[.int .i64 y.s.rail, .int .i64 y.s.seg, .int .i64 y.s.a.x, .int .i64 y.s.a.y, .int .i64 y.s.b.x, .int .i64 y.s.b.y, .int .i64 y.s.bg, .int .i64 y.s.en, .slice y.A y.s.bends.length y.c, .int .i64 (min y.s.a.x y.s.b.x), .int .i64 (min y.s.a.y y.s.b.y), .int .i64 (max y.s.a.x y.s.b.x), .int .i64 (max y.s.a.y y.s.b.y)] 98) = z := ⟨_, rfl⟩
  rw [hW1] at b1 b2 hb0 hz
  have HB1 := Lib.hid hb0
  have HBX := Lib.hid (show ∀ wx, Below W1.heap.size W1 wx → Bx w.heap.size x wx ∧ Bx (w.heap.size + 1) y wx from fun wx h => ⟨b1.keep h (by omega), b2.keep h (by omega)⟩)
  obtain ⟨cr, hcr⟩ : ∃ z, crossB x.s.a x.s.b y.s.a y.s.b = z := ⟨_, rfl⟩
  rw [hcr] at HCR HGW
  have f1 := b1 2 _ rfl; have f2 := b1 3 _ rfl; have f3 := b1 4 _ rfl; have f4 := b1 5 _ rfl
  have g1 := b2 2 _ rfl; have g2 := b2 3 _ rfl; have g3 := b2 4 _ rfl; have g4 := b2 5 _ rfl
  rw [show (fSw x).toArray = #[.int .i64 x.s.rail, .int .i64 x.s.seg, .int .i64 x.s.a.x, .int .i64 x.s.a.y, .int .i64 x.s.b.x, .int .i64 x.s.b.y, .int .i64 x.s.bg, .int .i64 x.s.en, .slice x.A x.s.bends.length x.c, .int .i64 (min x.s.a.x x.s.b.x), .int .i64 (min x.s.a.y x.s.b.y), .int .i64 (max x.s.a.x x.s.b.x), .int .i64 (max x.s.a.y x.s.b.y)] from rfl, show (fSw y).toArray = #[.int .i64 y.s.rail, .int .i64 y.s.seg, .int .i64 y.s.a.x, .int .i64 y.s.a.y, .int .i64 y.s.b.x, .int .i64 y.s.b.y, .int .i64 y.s.bg, .int .i64 y.s.en, .slice y.A y.s.bends.length y.c, .int .i64 (min y.s.a.x y.s.b.x), .int .i64 (min y.s.a.y y.s.b.y), .int .i64 (max y.s.a.x y.s.b.x), .int .i64 (max y.s.a.y y.s.b.y)] from rfl]
  clear hx hy b1 b2 hb0 hz hcr
  cases cr with
  | true =>
    have HV := Lib.hid (show sidesB x.s y.s r = true by rw [HGW.out]; rfl)
    rw [HV.out]
    clear HGW HSP hok HV
    go_enter Tryz.func62, Tryz.ntmps62
    go_wp2_with fail
    refine (HCR.out _).mono ?_
    rintro e w2 ⟨rfl, hb2⟩
    clear hW1 f1 f2 f3 f4 g1 g2 g3 g4
    go_wp2
    go_ret
    exact ⟨rfl, HB1.out.trans (hb2.mono HB1.out.size)⟩
  | false =>
    obtain ⟨z1, hz1⟩ : ∃ z, sepSeg x.s.a y.s.a y.s.b = z := ⟨_, rfl⟩
    obtain ⟨z2, hz2⟩ : ∃ z, sepSeg x.s.b y.s.a y.s.b = z := ⟨_, rfl⟩
    obtain ⟨z3, hz3⟩ : ∃ z, sepSeg y.s.a x.s.a x.s.b = z := ⟨_, rfl⟩
    obtain ⟨z4, hz4⟩ : ∃ z, sepSeg y.s.b x.s.a x.s.b = z := ⟨_, rfl⟩
    have hsp : seps x.s y.s = [z1, z2, z3, z4] := by unfold seps; rw [hz1, hz2, hz3, hz4]
    rw [hsp] at hok HSP HGW
    have k1 := hok z1 (by simp); have k2 := hok z2 (by simp); have k3 := hok z3 (by simp); have k4 := hok z4 (by simp)
    obtain ⟨p1, q1, r1, e1⟩ := sep3 z1; obtain ⟨p2, q2, r2, e2⟩ := sep3 z2; obtain ⟨p3, q3, r3, e3⟩ := sep3 z3; obtain ⟨p4, q4, r4, e4⟩ := sep3 z4
    obtain ⟨c1, hc1⟩ : ∃ z, Sp.cmp z1 r = z := ⟨_, rfl⟩
    have F1 := Lib.hid (show ∀ w, Calls Tryz.prog 88 #[.agg #[.int .u64 p1, .int .u64 q1, .int .u64 r1], .int .i64 r] w fun e w' => e = .returned (.int .i64 c1) ∧ Below w.heap.size w w' from fun w => by
      have := sepCmp_any z1 r w k1 hrr; rw [e1, hc1] at this; exact this)
    obtain ⟨c2, hc2⟩ : ∃ z, Sp.cmp z2 r = z := ⟨_, rfl⟩
    have F2 := Lib.hid (show ∀ w, Calls Tryz.prog 88 #[.agg #[.int .u64 p2, .int .u64 q2, .int .u64 r2], .int .i64 r] w fun e w' => e = .returned (.int .i64 c2) ∧ Below w.heap.size w w' from fun w => by
      have := sepCmp_any z2 r w k2 hrr; rw [e2, hc2] at this; exact this)
    obtain ⟨c3, hc3⟩ : ∃ z, Sp.cmp z3 r = z := ⟨_, rfl⟩
    have F3 := Lib.hid (show ∀ w, Calls Tryz.prog 88 #[.agg #[.int .u64 p3, .int .u64 q3, .int .u64 r3], .int .i64 r] w fun e w' => e = .returned (.int .i64 c3) ∧ Below w.heap.size w w' from fun w => by
      have := sepCmp_any z3 r w k3 hrr; rw [e3, hc3] at this; exact this)
    obtain ⟨c4, hc4⟩ : ∃ z, Sp.cmp z4 r = z := ⟨_, rfl⟩
    have F4 := Lib.hid (show ∀ w, Calls Tryz.prog 88 #[.agg #[.int .u64 p4, .int .u64 q4, .int .u64 r4], .int .i64 r] w fun e w' => e = .returned (.int .i64 c4) ∧ Below w.heap.size w w' from fun w => by
      have := sepCmp_any z4 r w k4 hrr; rw [e4, hc4] at this; exact this)
    have HV := Lib.hid (show sidesB x.s y.s r = (decide (c1 ≤ 0) || (decide (c2 ≤ 0) || (decide (c3 ≤ 0) || decide (c4 ≤ 0)))) by
      rw [HGW.out]
      simp only [List.any_cons, List.any_nil, below_cmp, hc1, hc2, hc3, hc4, Bool.false_or, Bool.or_false])
    have HA := Lib.hid (show (([z1, z2, z3, z4] : List Sp).flatMap sepC).toArray = #[.int .u64 p1, .int .u64 q1, .int .u64 r1, .int .u64 p2, .int .u64 q2, .int .u64 r2, .int .u64 p3, .int .u64 q3, .int .u64 r3, .int .u64 p4, .int .u64 q4, .int .u64 r4] by
      simp only [List.flatMap_cons, List.flatMap_nil, e1, e2, e3, e4]; rfl)
    rw [HA.out] at HSP
    rw [HV.out]
    clear HGW hok hz1 hz2 hz3 hz4 hsp k1 k2 k3 k4 e1 e2 e3 e4 hc1 hc2 hc3 hc4 HA HV
    have I0 := run_index4_0 (.int .u64 p1) (.int .u64 q1) (.int .u64 r1) (.int .u64 p2) (.int .u64 q2) (.int .u64 r2) (.int .u64 p3) (.int .u64 q3) (.int .u64 r3) (.int .u64 p4) (.int .u64 q4) (.int .u64 r4)
    have I1 := run_index4_1 (.int .u64 p1) (.int .u64 q1) (.int .u64 r1) (.int .u64 p2) (.int .u64 q2) (.int .u64 r2) (.int .u64 p3) (.int .u64 q3) (.int .u64 r3) (.int .u64 p4) (.int .u64 q4) (.int .u64 r4)
    have I2 := run_index4_2 (.int .u64 p1) (.int .u64 q1) (.int .u64 r1) (.int .u64 p2) (.int .u64 q2) (.int .u64 r2) (.int .u64 p3) (.int .u64 q3) (.int .u64 r3) (.int .u64 p4) (.int .u64 q4) (.int .u64 r4)
    have I3 := run_index4_3 (.int .u64 p1) (.int .u64 q1) (.int .u64 r1) (.int .u64 p2) (.int .u64 q2) (.int .u64 r2) (.int .u64 p3) (.int .u64 q3) (.int .u64 r3) (.int .u64 p4) (.int .u64 q4) (.int .u64 r4)
    go_enter Tryz.func62, Tryz.ntmps62
    go_wp2_with fail
    refine (HCR.out _).mono ?_
    rintro e w2 ⟨rfl, hb2⟩
    have HB2 := Lib.hid hb2
    obtain ⟨b1, b2⟩ := HBX.out _ hb2
    clear hW1 f1 f2 f3 f4 g1 g2 g3 g4 hb2
    have f0 := b1 0 _ rfl; have g0 := b2 0 _ rfl
    have f1 := b1 1 _ rfl; have g1 := b2 1 _ rfl
    have f2 := b1 2 _ rfl; have g2 := b2 2 _ rfl
    have f3 := b1 3 _ rfl; have g3 := b2 3 _ rfl
    have f4 := b1 4 _ rfl; have g4 := b2 4 _ rfl
    have f5 := b1 5 _ rfl; have g5 := b2 5 _ rfl
    have f6 := b1 6 _ rfl; have g6 := b2 6 _ rfl
    have f7 := b1 7 _ rfl; have g7 := b2 7 _ rfl
    have f8 := b1 8 _ rfl; have g8 := b2 8 _ rfl
    have f9 := b1 9 _ rfl; have g9 := b2 9 _ rfl
    have f10 := b1 10 _ rfl; have g10 := b2 10 _ rfl
    have f11 := b1 11 _ rfl; have g11 := b2 11 _ rfl
    have f12 := b1 12 _ rfl; have g12 := b2 12 _ rfl
    clear b1 b2
    go_wp2_with fail
    (with_reducible refine (HSP.out _).mono ?_)
    rintro e w3 ⟨rfl, hb3⟩
    have HB3 := Lib.hid (HB1.out.trans ((HB2.out.trans (hb3.mono HB2.out.size)).mono HB1.out.size))
    clear f0 g0 f1 g1 f2 g2 f3 g3 f4 g4 f5 g5 f6 g6 f7 g7 f8 g8 f9 g9 f10 g10 f11 g11 f12 g12 hb3 HBX HSP HCR
    go_wp2
    go_loopw [21] (fun s21 wr => Below w.heap.size w wr ∧ ((s21 = .int .i64 0) ∨ (s21 = .int .i64 1 ∧ 0 < c1) ∨ (s21 = .int .i64 2 ∧ 0 < c1 ∧ 0 < c2) ∨ (s21 = .int .i64 3 ∧ 0 < c1 ∧ 0 < c2 ∧ 0 < c3) ∨ (s21 = .int .i64 4 ∧ 0 < c1 ∧ 0 < c2 ∧ 0 < c3 ∧ 0 < c4))) (fun s21 _ => 4 - (intOf s21).toNat)
    case atStart => exact ⟨HB3.out, .inl rfl⟩
    case round =>
      obtain ⟨hb, rfl | ⟨rfl, h1⟩ | ⟨rfl, h1, h2⟩ | ⟨rfl, h1, h2, h3⟩ | ⟨rfl, h1, h2, h3, h4⟩⟩ := hrel
      · have HB := Lib.hid hb
        by_cases hc : c1 ≤ 0
        · have HV := Lib.hid (show (decide (c1 ≤ 0) || (decide (c2 ≤ 0) || (decide (c3 ≤ 0) || decide (c4 ≤ 0)))) = true by simp [hc])
          clear hb
          go_wp2_with fail
          refine (F1.out _).mono ?_
          rintro e w5 ⟨rfl, hb5⟩
          have HB5 := Lib.hid ((HB.out.alloc HB.out.size _).trans (hb5.mono (by have := HB.out.size; simp; omega)))
          clear hb5
          go_wp2
          go_ret
          exact ⟨by rw [HV.out]; rfl, HB5.out⟩
        · have HH := Lib.hid (show 0 < c1 from by omega)
          have hcd : decide (c1 ≤ 0) = false := by rw [decide_eq_false_iff_not]; exact hc
          clear hb
          go_wp2_with fail
          refine (F1.out _).mono ?_
          rintro e w5 ⟨rfl, hb5⟩
          have HB5 := Lib.hid ((HB.out.alloc HB.out.size _).trans (hb5.mono (by have := HB.out.size; simp; omega)))
          clear hb5
          go_wp2
          go_roundw
          case rel => exact ⟨HB5.out, .inr (.inl ⟨rfl, HH.out⟩)⟩
          case measure => simp [intOf]
      · have HB := Lib.hid hb
        by_cases hc : c2 ≤ 0
        · have HV := Lib.hid (show (decide (c1 ≤ 0) || (decide (c2 ≤ 0) || (decide (c3 ≤ 0) || decide (c4 ≤ 0)))) = true by simp [hc])
          clear hb
          go_wp2_with fail
          refine (F2.out _).mono ?_
          rintro e w5 ⟨rfl, hb5⟩
          have HB5 := Lib.hid ((HB.out.alloc HB.out.size _).trans (hb5.mono (by have := HB.out.size; simp; omega)))
          clear hb5
          go_wp2
          go_ret
          exact ⟨by rw [HV.out]; rfl, HB5.out⟩
        · have HH := Lib.hid (show 0 < c1 ∧ 0 < c2 from by omega)
          have hcd : decide (c2 ≤ 0) = false := by rw [decide_eq_false_iff_not]; exact hc
          clear hb
          go_wp2_with fail
          refine (F2.out _).mono ?_
          rintro e w5 ⟨rfl, hb5⟩
          have HB5 := Lib.hid ((HB.out.alloc HB.out.size _).trans (hb5.mono (by have := HB.out.size; simp; omega)))
          clear hb5
          go_wp2
          go_roundw
          case rel => exact ⟨HB5.out, .inr (.inr (.inl ⟨rfl, HH.out⟩))⟩
          case measure => simp [intOf]
      · have HB := Lib.hid hb
        by_cases hc : c3 ≤ 0
        · have HV := Lib.hid (show (decide (c1 ≤ 0) || (decide (c2 ≤ 0) || (decide (c3 ≤ 0) || decide (c4 ≤ 0)))) = true by simp [hc])
          clear hb
          go_wp2_with fail
          refine (F3.out _).mono ?_
          rintro e w5 ⟨rfl, hb5⟩
          have HB5 := Lib.hid ((HB.out.alloc HB.out.size _).trans (hb5.mono (by have := HB.out.size; simp; omega)))
          clear hb5
          go_wp2
          go_ret
          exact ⟨by rw [HV.out]; rfl, HB5.out⟩
        · have HH := Lib.hid (show 0 < c1 ∧ 0 < c2 ∧ 0 < c3 from by omega)
          have hcd : decide (c3 ≤ 0) = false := by rw [decide_eq_false_iff_not]; exact hc
          clear hb
          go_wp2_with fail
          refine (F3.out _).mono ?_
          rintro e w5 ⟨rfl, hb5⟩
          have HB5 := Lib.hid ((HB.out.alloc HB.out.size _).trans (hb5.mono (by have := HB.out.size; simp; omega)))
          clear hb5
          go_wp2
          go_roundw
          case rel => exact ⟨HB5.out, .inr (.inr (.inr (.inl ⟨rfl, HH.out⟩)))⟩
          case measure => simp [intOf]
      · have HB := Lib.hid hb
        by_cases hc : c4 ≤ 0
        · have HV := Lib.hid (show (decide (c1 ≤ 0) || (decide (c2 ≤ 0) || (decide (c3 ≤ 0) || decide (c4 ≤ 0)))) = true by simp [hc])
          clear hb
          go_wp2_with fail
          refine (F4.out _).mono ?_
          rintro e w5 ⟨rfl, hb5⟩
          have HB5 := Lib.hid ((HB.out.alloc HB.out.size _).trans (hb5.mono (by have := HB.out.size; simp; omega)))
          clear hb5
          go_wp2
          go_ret
          exact ⟨by rw [HV.out]; rfl, HB5.out⟩
        · have HH := Lib.hid (show 0 < c1 ∧ 0 < c2 ∧ 0 < c3 ∧ 0 < c4 from by omega)
          have hcd : decide (c4 ≤ 0) = false := by rw [decide_eq_false_iff_not]; exact hc
          clear hb
          go_wp2_with fail
          refine (F4.out _).mono ?_
          rintro e w5 ⟨rfl, hb5⟩
          have HB5 := Lib.hid ((HB.out.alloc HB.out.size _).trans (hb5.mono (by have := HB.out.size; simp; omega)))
          clear hb5
          go_wp2
          go_roundw
          case rel => exact ⟨HB5.out, .inr (.inr (.inr (.inr ⟨rfl, HH.out⟩)))⟩
          case measure => simp [intOf]
      · have HB := Lib.hid hb
        have HV := Lib.hid (show (decide (c1 ≤ 0) || (decide (c2 ≤ 0) || (decide (c3 ≤ 0) || decide (c4 ≤ 0)))) = false by simp only [Bool.or_eq_false_iff, decide_eq_false_iff_not]; omega)
        clear hb
        go_wp2
        go_ret
        exact ⟨by rw [HV.out]; rfl, HB.out⟩
end Go.Proofs.YtekambdnmaompaaGreat.SW
