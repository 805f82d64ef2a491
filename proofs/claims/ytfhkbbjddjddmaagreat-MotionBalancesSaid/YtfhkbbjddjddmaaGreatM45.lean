/- Plain: the balance of a step. -/
import Derived.Test.YtfhkbbjddjddmaaGreatMj
namespace Go.Proofs.YtfhkbbjddjddmaaGreat
set_option linter.unusedVariables false
set_option linter.unusedSimpArgs false
open Go.RowKit

theorem bal_id (p b d h m q s : Int) (hs : s = p - b - d - h) (hq : q = m + 100 * s) : 200 * p * q - 200 * b * q - 200 * d * q - 200 * h * q - 10000 * s * s - 0 = q * q - m * m := by
  subst hs; subst hq
  grind
structure LgFit (l : Lg) (m q : Int) : Prop where
  p0 : 0 ≤ l.pull
  p1 : l.pull ≤ 100000000000000000
  b0 : 0 ≤ l.brake
  b1 : l.brake ≤ 100000000000000000
  d0 : 0 ≤ l.drag
  d1 : l.drag ≤ 200000000000000000
  h0 : -100000000000000000 ≤ l.hill
  h1 : l.hill ≤ 100000000000000000
  r0 : 0 ≤ l.round
  r1 : l.round ≤ 100000000000000000
  o0 : 0 ≤ l.hold
  o1 : l.hold ≤ 4000000000000000000
  id : q * q - m * m = l.pull - l.brake - l.drag - l.hill - l.round - l.hold
  pb : l.pull = 0 ∨ l.brake = 0
theorem sqs_bd {s : Int} (h0 : -744176 ≤ s) (h1 : s ≤ 744176) : 0 ≤ 10000 * s * s ∧ 10000 * s * s ≤ 100000000000000000 := by
  have key : ∀ z : Int, 0 ≤ z → z ≤ 744176 → 0 ≤ 10000 * z * z ∧ 10000 * z * z ≤ 100000000000000000 := fun z z0 z1 => by
    have h := mul_bd (x := 10000 * z) (y := z) (X := 7441760000) (Y := 744176) (by omega) (by omega) z0 z1 (by omega)
    have h2 := Int.mul_nonneg (show 0 ≤ 10000 * z by omega) z0
    omega
  by_cases hs : 0 ≤ s
  · exact key s hs h1
  · have := key (-s) (by omega) (by omega)
    have e : 10000 * -s * -s = 10000 * s * s := by grind
    rwa [e] at this
theorem ledger_fit {f : Fs} {m q : Int} (hf : FsOk f) (m0 : 0 ≤ m) (m1 : m ≤ 2000000000) (hq : q = afterZ m f.sum) (q1 : q ≤ 2080000000) (hpb : f.p = 0 ∨ f.b = 0) : LgFit (ledgerZ f m q) m q := by
  have q0 : 0 ≤ q := by rw [hq]; unfold afterZ; omega
  have a1 := hf.p1; have a2 := hf.p2; have a3 := hf.b1; have a4 := hf.b2; have a5 := hf.d1; have a6 := hf.d2; have a7 := hf.h1; have a8 := hf.h2
  have hs : f.sum = f.p - f.b - f.d - f.h := rfl
  have e1 := mul_bd (x := 200 * f.p) (y := q) (X := 40000000) (Y := 2080000000) (by omega) (by omega) q0 q1 (by omega)
  have e2 := mul_bd (x := 200 * f.b) (y := q) (X := 40000000) (Y := 2080000000) (by omega) (by omega) q0 q1 (by omega)
  have e3 := mul_bd (x := 200 * f.d) (y := q) (X := 70000000) (Y := 2080000000) (by omega) (by omega) q0 q1 (by omega)
  have e4 := mul_bd (x := 200 * f.h) (y := q) (X := 18835200) (Y := 2080000000) (by omega) (by omega) q0 q1 (by omega)
  have f1 := Int.mul_nonneg (show 0 ≤ 200 * f.p by omega) q0
  have f2 := Int.mul_nonneg (show 0 ≤ 200 * f.b by omega) q0
  have f3 := Int.mul_nonneg (show 0 ≤ 200 * f.d by omega) q0
  have e5 := sqs_bd (s := f.sum) (by omega) (by omega)
  have e6 := mul_bd (x := m) (y := m) (X := 2000000000) (Y := 2000000000) (by omega) (by omega) m0 m1 (by omega)
  have f6 := Int.mul_nonneg m0 m0
  have hpb2 : 200 * f.p * q = 0 ∨ 200 * f.b * q = 0 := by
    rcases hpb with h | h <;> rw [h] <;> simp
  unfold ledgerZ
  by_cases h : q = m + 100 * f.sum
  · rw [if_pos h]
    have hid := bal_id f.p f.b f.d f.h m q f.sum hs h
    exact ⟨f1, by show 200 * f.p * q ≤ _; omega, f2, by show 200 * f.b * q ≤ _; omega, f3, by show 200 * f.d * q ≤ _; omega, by show _ ≤ 200 * f.h * q; omega, by show 200 * f.h * q ≤ _; omega, e5.1, e5.2, Int.le_refl _, by show (0 : Int) ≤ _; omega, hid.symm, hpb2⟩
  · rw [if_neg h]
    have hz : q = 0 := by
      rw [hq] at h ⊢
      unfold afterZ at h ⊢
      omega
    subst hz
    refine ⟨f1, by show 200 * f.p * 0 ≤ _; omega, f2, by show 200 * f.b * 0 ≤ _; omega, f3, by show 200 * f.d * 0 ≤ _; omega, by show _ ≤ 200 * f.h * 0; omega, by show 200 * f.h * 0 ≤ _; omega, Int.le_refl _, by show (0 : Int) ≤ _; omega, f6, by show m * m ≤ _; omega, ?_, hpb2⟩
    show (0 : Int) * 0 - m * m = 200 * f.p * 0 - 200 * f.b * 0 - 200 * f.d * 0 - 200 * f.h * 0 - 0 - m * m
    omega
theorem fs_pb (t : Tr) (a m d sl : Int) : (fsZ t a m d sl).p = 0 ∨ (fsZ t a m d sl).b = 0 := by
  by_cases h : d ≤ 0
  · left; show pullZ t a _ d = 0; unfold pullZ; rw [if_pos h]
  · right; show brakeZ t a d = 0; unfold brakeZ; rw [if_pos (by omega)]
theorem mkL_fit {t : Tr} {m y d sl st : Int} (hf : FineOk t m y d sl st) : LgFit (mkL t m d sl st) m (mkQ t m d sl st) :=
  ledger_fit (fine_fs hf) hf.m0 (by have := hf.m1; have := hf.ok.m2; omega) rfl (fine_q hf).2 (fs_pb t _ m d sl)
end Go.Proofs.YtfhkbbjddjddmaaGreat
