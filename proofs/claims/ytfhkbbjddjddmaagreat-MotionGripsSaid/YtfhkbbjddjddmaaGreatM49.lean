/- Plain: a train that brakes with a constant force. -/
import Derived.Test.YtfhkbbjddjddmaaGreatMj
namespace Go.Proofs.YtfhkbbjddjddmaaGreat
set_option linter.unusedVariables false
set_option linter.unusedSimpArgs false
open Go.RowKit

/-- the way at which a train stands that loses C of its momentum in each step -/
def bw (C M : Int) : Nat → Int → Int → Option Int
  | 0, m, y => if m ≤ 0 then some y else none
  | k + 1, m, y => if m ≤ 0 then some y else if max 0 (m - C) ≤ M then bw C M k (max 0 (m - C)) (y + max 0 (m - C)) else none
def forC (t : Tr) (sl st : Int) : Int := 100 * (brakeZ t (adhZ t (gripZ t st)) (-4) + t.resist + hillZ t sl)
theorem mkQ_C {t : Tr} (h : t.rise = 0) (m sl st : Int) : mkQ t m (-4) sl st = max 0 (m - forC t sl st) := by
  have hd : dragZ t (m / t.mass) = t.resist := by unfold dragZ; rw [h]; simp
  have hp : pullZ t (adhZ t (gripZ t st)) (m / t.mass) (-4) = 0 := by unfold pullZ; rw [if_pos (by omega)]
  unfold mkQ nextZ afterZ Fs.sum sumZ fsZ forC
  simp only [hd, hp]
  omega
theorem brakeW_C {t : Tr} (h : t.rise = 0) (sl st : Int) : ∀ (n : Nat) (m y : Int), brakeW t sl st n m y = bw (forC t sl st) (25000 * t.mass) n m y := by
  intro n
  induction n with
  | zero => intro m y; rfl
  | succ n ih => intro m y; rw [brakeW, bw, mkQ_C h, ih]
theorem bw_ge {C M : Int} : ∀ (n : Nat) (m y z : Int), bw C M n m y = some z → y ≤ z := by
  intro n
  induction n with
  | zero =>
    intro m y z h
    unfold bw at h
    split at h
    · cases h; exact Int.le_refl _
    · cases h
  | succ n ih =>
    intro m y z h
    rw [bw] at h
    split at h
    · cases h; exact Int.le_refl _
    · split at h
      · have := ih _ _ _ h
        omega
      · cases h
theorem bw_mono {C C' M : Int} (hC : C ≤ C') : ∀ (n : Nat) (m m' y y' z : Int), m' ≤ m → y' ≤ y → bw C M n m y = some z → ∃ z', bw C' M n m' y' = some z' ∧ z' ≤ z := by
  intro n
  induction n with
  | zero =>
    intro m m' y y' z hm hy h
    unfold bw at h ⊢
    split at h
    · cases h; exact ⟨y', by rw [if_pos (by omega)], hy⟩
    · cases h
  | succ n ih =>
    intro m m' y y' z hm hy h
    by_cases h0 : m' ≤ 0
    · exact ⟨y', by rw [bw, if_pos h0], Int.le_trans hy (bw_ge _ _ _ _ h)⟩
    · rw [bw, if_neg (by omega)] at h
      split at h
      · rename_i h1
        rw [bw, if_neg h0, if_pos (by omega)]
        exact ih _ _ _ _ _ (by omega) (by omega) h
      · cases h
/-- a train that brakes no less, from no more, stops no later -/
theorem brk_mono {t t' : Tr} (hr : t.rise = 0) (hr' : t'.rise = 0) (hm : t'.mass = t.mass) (ht : TrOk t) {sl sl' st st' m m' : Int} (hC : forC t sl st ≤ forC t' sl' st') (hmm : m' ≤ m) (h1 : brkB t m 0 sl st = true) (h2 : brkB t' m' 0 sl' st' = true) (he : brkE t m 0 sl st = 0) :
    brkE t' m' 0 sl' st' = 0 ∧ brkR t' m' 0 sl' st' ≤ brkR t m 0 sl st := by
  unfold brkE at he ⊢
  unfold brkR
  rw [if_pos h1] at he ⊢
  rw [if_pos h2, if_pos h2]
  cases hb : brakeW t sl st 36000 m 0 with
  | none => rw [hb] at he; simp at he
  | some z =>
    have hb2 := hb
    rw [brakeW_C hr] at hb2
    obtain ⟨z', h3, h4⟩ := bw_mono hC 36000 m m' 0 0 z hmm (Int.le_refl 0) hb2
    have h5 : brakeW t' sl' st' 36000 m' 0 = some z' := by rw [brakeW_C hr', hm]; exact h3
    rw [h5]
    refine ⟨rfl, ?_⟩
    show z' / (10 * t'.mass) - 0 / (10 * t'.mass) ≤ z / (10 * t.mass) - 0 / (10 * t.mass)
    rw [hm]
    have hm1 := ht.m1
    have := Int.ediv_le_ediv (show 0 < 10 * t.mass by omega) h4
    omega
theorem forC_hill (t : Tr) (sl k st : Int) (ht : TrOk t) (hk : 0 ≤ k) : forC t sl st ≤ forC t (sl + k) st := by
  unfold forC hillZ
  have hm1 := ht.m1
  have h0 := Int.mul_nonneg (show 0 ≤ t.mass by omega) hk
  have h1 : t.mass * sl * 981 ≤ t.mass * (sl + k) * 981 := by rw [Int.mul_add]; omega
  have := Int.tdiv_le_tdiv (show (0 : Int) < 100000 by omega) h1
  omega
theorem forC_grip (t : Tr) (g g' sl : Int) (ht : TrOk t) (hg : t.grip = [g]) (hgg : g ≤ g') : forC t sl 0 ≤ forC { t with grip := [g'] } sl 0 := by
  unfold forC
  have e1 : gripZ t 0 = g := by unfold gripZ; rw [hg]; rfl
  have e2 : gripZ { t with grip := [g'] } 0 = g' := rfl
  rw [e1, e2]
  have hm1 := ht.m1
  have h0 := Int.mul_le_mul_of_nonneg_right hgg (show 0 ≤ t.mass by omega)
  have h1 : g * t.mass * 981 ≤ g' * t.mass * 981 := by omega
  have h2 := Int.ediv_le_ediv (show (0 : Int) < 100000 by omega) h1
  have h3 : adhZ t g ≤ adhZ { t with grip := [g'] } g' := h2
  have h4 : brakeZ t (adhZ t g) (-4) ≤ brakeZ { t with grip := [g'] } (adhZ { t with grip := [g'] } g') (-4) := by
    unfold brakeZ
    rw [if_neg (by omega), if_neg (by omega)]
    show min (t.brake * - -4 / 4) (adhZ t g) ≤ min (t.brake * - -4 / 4) (adhZ { t with grip := [g'] } g')
    omega
  show 100 * (_ + t.resist + hillZ t sl) ≤ 100 * (_ + t.resist + hillZ t sl)
  omega
end Go.Proofs.YtfhkbbjddjddmaaGreat
