/- Contracts: the specification of what is near. -/
import Derived.BigQuiet
import Derived.BigRegion
import Derived.Deep.Cut
import Derived.Deep.CutRange
import Derived.Deep.DeepCutAuto
import Derived.Deep.LoopGhost
import Derived.Deep.QuietTactic
import Derived.Deep.RegionHeld3
import Derived.Laws.Bits64b
import Derived.Laws.ResultCell
import Derived.Laws.Rows
import Derived.Lib.Hide
import Derived.Outline
import Derived.Test.YtekambdnmaompaaGreatA3
import Derived.Test.YtekambdnmaompaaGreatJ1
import Derived.WalkKit
namespace Go.Proofs.YtekambdnmaompaaGreat.SW
set_option linter.unusedVariables false
set_option linter.unusedSimpArgs false
open Go.RowKit

theorem mul_bd2 {x y c d : Int} (hx1 : -c ≤ x) (hx2 : x ≤ c) (hy1 : -d ≤ y) (hy2 : y ≤ d) : -(c * d) ≤ x * y ∧ x * y ≤ c * d := by
  have h1 := Int.mul_nonneg (show 0 ≤ c - x by omega) (show 0 ≤ d - y by omega)
  have h2 := Int.mul_nonneg (show 0 ≤ c + x by omega) (show 0 ≤ d + y by omega)
  have h3 := Int.mul_nonneg (show 0 ≤ c - x by omega) (show 0 ≤ d + y by omega)
  have h4 := Int.mul_nonneg (show 0 ≤ c + x by omega) (show 0 ≤ d - y by omega)
  constructor <;> grind
theorem rin_any (n lo hi : Int) (w : World) :
    Calls Tryz.prog 64 #[.int .i64 n, .int .i64 lo, .int .i64 hi] w fun e w' => e = .returned (.bool (inB n lo hi)) ∧ w = w' := by
  by_cases h : lo ≤ n
  · have HE := Lib.hid (show inB n lo hi = decide (n ≤ hi) by simp [inB, h])
    go_enter Tryz.func64, Tryz.ntmps64
    go_wp2
    go_ret
    exact ⟨by rw [HE.out]; rfl, rfl⟩
  · have HE := Lib.hid (show inB n lo hi = false by simp [inB, h])
    go_enter Tryz.func64, Tryz.ntmps64
    go_wp2
    go_ret
    exact ⟨by rw [HE.out]; rfl, rfl⟩
set_option maxHeartbeats 1000000 in
theorem turn_any (a b c : S) (w : World) (ha : inR a) (hb : inR b) (hc : inR c) :
    Calls Tryz.prog 90 #[.agg #[.int .i64 a.x, .int .i64 a.y], .agg #[.int .i64 b.x, .int .i64 b.y], .agg #[.int .i64 c.x, .int .i64 c.y]] w fun e w' => e = .returned (.int .i64 (sgnI (turnV a b c))) ∧ Below w.heap.size w w' := by
  obtain ⟨a1, a2, a3, a4⟩ := id ha
  obtain ⟨b1, b2, b3, b4⟩ := id hb
  obtain ⟨s1, s2, s3, s4⟩ := id hc
  have q1 := mul_bd2 (x := b.x - a.x) (y := c.y - a.y) (c := 20000000) (d := 20000000) (by omega) (by omega) (by omega) (by omega)
  have q2 := mul_bd2 (x := b.y - a.y) (y := c.x - a.x) (c := 20000000) (d := 20000000) (by omega) (by omega) (by omega) (by omega)
  obtain ⟨n, hn⟩ : ∃ n, (b.x - a.x) * (c.y - a.y) - (b.y - a.y) * (c.x - a.x) = n := ⟨_, rfl⟩
  have HV := Lib.hid (show sgnI (turnV a b c) = (if n < 0 then -1 else min n 1) by rw [sgn_ref, ← hn]; rfl)
  by_cases h : n < 0
  · have HV2 := Lib.hid (show sgnI (turnV a b c) = -1 by rw [HV.out, if_pos h])
    go_enter Tryz.func90, Tryz.ntmps90
    go_wp2
    go_ret
    exact ⟨by rw [HV2.out]; rfl, (((Below.refl _ w).alloc (Nat.le_refl _) _).alloc (by simp) _).alloc (by simp; omega) _⟩
  · by_cases h1 : 1 < n
    · have HV2 := Lib.hid (show sgnI (turnV a b c) = 1 by rw [HV.out, if_neg h]; omega)
      go_enter Tryz.func90, Tryz.ntmps90
      go_wp2
      go_ret
      exact ⟨by rw [HV2.out]; first | rfl | (show Ending.returned (Value.int .i64 (min n 1)) = _; rw [show min n 1 = 1 by omega]), (((Below.refl _ w).alloc (Nat.le_refl _) _).alloc (by simp) _).alloc (by simp; omega) _⟩
    · have HV2 := Lib.hid (show sgnI (turnV a b c) = n by rw [HV.out, if_neg h]; omega)
      go_enter Tryz.func90, Tryz.ntmps90
      go_wp2
      go_ret
      exact ⟨by rw [HV2.out]; first | rfl | (show Ending.returned (Value.int .i64 (min n 1)) = _; rw [show min n 1 = n by omega]), (((Below.refl _ w).alloc (Nat.le_refl _) _).alloc (by simp) _).alloc (by simp; omega) _⟩
theorem tdiv31 (n m : Nat) (h : n / 2147483648 = m) : Int.tdiv (n : Int) 2147483648 = (m : Int) := by rw [← h]; rfl
theorem tmod31 (n m : Nat) (h : n % 2147483648 = m) : Int.tmod (n : Int) 2147483648 = (m : Int) := by rw [← h]; rfl
set_option maxHeartbeats 1000000 in
theorem rprod_any (A B : Nat) (w : World) (hA : A < 4611686018427387904) (hB : B < 4611686018427387904) :
    Calls Tryz.prog 123 #[.int .i64 (A : Int), .int .i64 (B : Int)] w fun e w' => e = .returned (.tuple #[.int .i64 ((A * B / 4611686018427387904 : Nat) : Int), .int .i64 ((A * B % 4611686018427387904 : Nat) : Int)]) ∧ w = w' := by
  obtain ⟨x, hx⟩ : ∃ x, A / 2147483648 = x := ⟨_, rfl⟩
  obtain ⟨y, hy⟩ : ∃ x, A % 2147483648 = x := ⟨_, rfl⟩
  obtain ⟨u, hu⟩ : ∃ x, B / 2147483648 = x := ⟨_, rfl⟩
  obtain ⟨v, hv⟩ : ∃ x, B % 2147483648 = x := ⟨_, rfl⟩
  have hx1 : x ≤ 2147483647 := by omega
  have hy1 : y ≤ 2147483647 := by omega
  have hu1 : u ≤ 2147483647 := by omega
  have hv1 : v ≤ 2147483647 := by omega
  have key := prod_words x y u v (by omega) (by omega)
  rw [show x * 2147483648 + y = A by omega, show u * 2147483648 + v = B by omega] at key
  have p1 := Nat.mul_le_mul hy1 hv1
  have p2 := Nat.mul_le_mul hx1 hv1
  have p3 := Nat.mul_le_mul hx1 hu1
  have p4 := Nat.mul_le_mul hy1 hu1
  obtain ⟨d, hd⟩ : ∃ z, y * v = z := ⟨_, rfl⟩
  obtain ⟨e2, he2⟩ : ∃ z, x * v = z := ⟨_, rfl⟩
  obtain ⟨f, hf⟩ : ∃ z, x * u = z := ⟨_, rfl⟩
  obtain ⟨g, hg⟩ : ∃ z, y * u = z := ⟨_, rfl⟩
  rw [hd, he2, hf, hg] at key
  rw [hd] at p1; rw [he2] at p2; rw [hf] at p3; rw [hg] at p4
  have cd : (y : Int) * (v : Int) = (d : Int) := by rw [← hd, Int.natCast_mul]
  have ce : (x : Int) * (v : Int) = (e2 : Int) := by rw [← he2, Int.natCast_mul]
  have cf : (x : Int) * (u : Int) = (f : Int) := by rw [← hf, Int.natCast_mul]
  have cg : (y : Int) * (u : Int) = (g : Int) := by rw [← hg, Int.natCast_mul]
  have t1 := tdiv31 A x hx
  have t2 := tmod31 A y hy
  have t3 := tdiv31 B u hu
  have t4 := tmod31 B v hv
  obtain ⟨d1, hd1⟩ : ∃ z, d / 2147483648 = z := ⟨_, rfl⟩
  obtain ⟨d0, hd0⟩ : ∃ z, d % 2147483648 = z := ⟨_, rfl⟩
  have t5 := tdiv31 d d1 hd1
  have t6 := tmod31 d d0 hd0
  rw [hd1, hd0] at key
  obtain ⟨m, hm⟩ : ∃ z, e2 + d1 = z := ⟨_, rfl⟩
  have cm : (e2 : Int) + (d1 : Int) = (m : Int) := by omega
  rw [hm] at key
  obtain ⟨m1, hm1⟩ : ∃ z, m / 2147483648 = z := ⟨_, rfl⟩
  obtain ⟨m0, hm0⟩ : ∃ z, m % 2147483648 = z := ⟨_, rfl⟩
  have t7 := tdiv31 m m1 hm1
  have t8 := tmod31 m m0 hm0
  rw [hm1, hm0] at key
  obtain ⟨k, hk⟩ : ∃ z, m0 + g = z := ⟨_, rfl⟩
  have ck : (m0 : Int) + (g : Int) = (k : Int) := by omega
  rw [hk] at key
  obtain ⟨k1, hk1⟩ : ∃ z, k / 2147483648 = z := ⟨_, rfl⟩
  obtain ⟨k0, hk0⟩ : ∃ z, k % 2147483648 = z := ⟨_, rfl⟩
  have t9 := tdiv31 k k1 hk1
  have t10 := tmod31 k k0 hk0
  rw [hk1, hk0] at key
  have b1 : d1 ≤ 2147483647 := by omega
  have b2 : m1 ≤ 4294967296 := by omega
  have b3 : k1 ≤ 4294967296 := by omega
  have b4 : k0 ≤ 2147483647 := by omega
  have b5 : d0 ≤ 2147483647 := by omega
  have b6 : m ≤ 4611686018427387904 := by omega
  have b7 : k ≤ 4611686018427387904 := by omega
  have b8 : m0 ≤ 2147483647 := by omega
  rw [← key.1, ← key.2]
  clear key hx hy hu hv hd he2 hf hg hd1 hd0 hm hm1 hm0 hk hk1 hk0
  go_enter Tryz.func123, Tryz.ntmps123
  go_wp2
  go_ret2
  exact ⟨by simp, rfl⟩
set_option maxHeartbeats 1000000 in
theorem atMost_any (A B C D : Nat) (less : Bool) (w : World) (hA : A < 4611686018427387904) (hB : B < 4611686018427387904) (hC : C < 4611686018427387904) (hD : D < 4611686018427387904) :
    Calls Tryz.prog 93 #[.int .i64 (A : Int), .int .i64 (B : Int), .int .i64 (C : Int), .int .i64 (D : Int), .bool less] w fun e w' => e = .returned (.bool (decide (A * B < C * D) || (decide (A * B = C * D) && !less))) ∧ w = w' := by
  have k1 := words_lt (A * B) (C * D) 4611686018427387904 (by omega)
  have k2 := words_eq (A * B) (C * D) 4611686018427387904
  have HA := Lib.hid (fun w => rprod_any A B w hA hB)
  have HC := Lib.hid (fun w => rprod_any C D w hC hD)
  generalize A * B / 4611686018427387904 = p at *
  generalize A * B % 4611686018427387904 = q at *
  generalize C * D / 4611686018427387904 = r at *
  generalize C * D % 4611686018427387904 = s at *
  rw [show decide (A * B < C * D) = decide (p < r ∨ (p = r ∧ q < s)) from decide_eq_decide.2 k1.symm, show decide (A * B = C * D) = decide (p = r ∧ q = s) from decide_eq_decide.2 k2.symm]
  clear k1 k2 hA hB hC hD
  have HV := Lib.hid (rfl : (decide (p < r ∨ (p = r ∧ q < s)) || (decide (p = r ∧ q = s) && !less)) = (decide (p < r ∨ (p = r ∧ q < s)) || (decide (p = r ∧ q = s) && !less)))
  have c1 : ((p : Int) < (r : Int)) = (p < r) := propext (by omega)
  have c2 : ((q : Int) < (s : Int)) = (q < s) := propext (by omega)
  by_cases h1 : p < r
  · have HR := Lib.hid (show (decide (p < r ∨ (p = r ∧ q < s)) || (decide (p = r ∧ q = s) && !less)) = true by simp [h1])
    rw [HR.out]
    go_enter Tryz.func93, Tryz.ntmps93
    go_wp2_with fail
    refine (HA.out _).mono ?_
    rintro e w1 ⟨rfl, rfl⟩
    go_wp2_with fail
    refine (HC.out _).mono ?_
    rintro e w1 ⟨rfl, rfl⟩
    go_wp2
    go_ret
    exact ⟨rfl, rfl⟩
  · by_cases h2 : p = r
    · subst h2
      by_cases h3 : q < s
      · have HR := Lib.hid (show (decide (p < p ∨ (p = p ∧ q < s)) || (decide (p = p ∧ q = s) && !less)) = true by simp [h3])
        rw [HR.out]
        go_enter Tryz.func93, Tryz.ntmps93
        go_wp2_with fail
        refine (HA.out _).mono ?_
        rintro e w1 ⟨rfl, rfl⟩
        go_wp2_with fail
        refine (HC.out _).mono ?_
        rintro e w1 ⟨rfl, rfl⟩
        go_wp2
        go_ret
        exact ⟨rfl, rfl⟩
      · by_cases h4 : q = s
        · subst h4
          have HR := Lib.hid (show (decide (p < p ∨ (p = p ∧ q < q)) || (decide (p = p ∧ q = q) && !less)) = !less by simp)
          rw [HR.out]
          go_enter Tryz.func93, Tryz.ntmps93
          go_wp2_with fail
          refine (HA.out _).mono ?_
          rintro e w1 ⟨rfl, rfl⟩
          go_wp2_with fail
          refine (HC.out _).mono ?_
          rintro e w1 ⟨rfl, rfl⟩
          go_wp2
          go_ret
          exact ⟨rfl, rfl⟩
        · have HR := Lib.hid (show (decide (p < p ∨ (p = p ∧ q < s)) || (decide (p = p ∧ q = s) && !less)) = false by simp [h3, h4])
          have h5 : ¬ (q : Int) = (s : Int) := by omega
          rw [HR.out]
          go_enter Tryz.func93, Tryz.ntmps93
          go_wp2_with fail
          refine (HA.out _).mono ?_
          rintro e w1 ⟨rfl, rfl⟩
          go_wp2_with fail
          refine (HC.out _).mono ?_
          rintro e w1 ⟨rfl, rfl⟩
          go_wp2
          go_ret
          exact ⟨rfl, rfl⟩
    · have HR := Lib.hid (show (decide (p < r ∨ (p = r ∧ q < s)) || (decide (p = r ∧ q = s) && !less)) = false by simp [h1, h2])
      have h5 : ¬ (p : Int) = (r : Int) := by omega
      rw [HR.out]
      go_enter Tryz.func93, Tryz.ntmps93
      go_wp2_with fail
      refine (HA.out _).mono ?_
      rintro e w1 ⟨rfl, rfl⟩
      go_wp2_with fail
      refine (HC.out _).mono ?_
      rintro e w1 ⟨rfl, rfl⟩
      go_wp2
      go_ret
      exact ⟨rfl, rfl⟩
end Go.Proofs.YtekambdnmaompaaGreat.SW

namespace Go.Proofs.YtekambdnmaompaaGreat.SW
set_option linter.unusedVariables false
set_option linter.unusedSimpArgs false
open Go.RowKit

theorem sq_nat (n : Int) : ∃ N : Nat, max n (-n) = (N : Int) ∧ n * n = (N : Int) * (N : Int) := by
  refine ⟨n.natAbs, by omega, ?_⟩
  rcases Int.le_total 0 n with h | h
  · rw [Int.natAbs_of_nonneg h]
  · rw [show ((n.natAbs : Nat) : Int) = -n by omega, Int.neg_mul_neg]
set_option maxRecDepth 100000 in
set_option maxHeartbeats 4000000 in
theorem spotNear_any (s a b : S) (d : Int) (less : Bool) (w : World) (hs : inR s) (ha : inR a) (hb : inR b) (h0 : 0 ≤ d) (h1 : d ≤ 1000000) :
    Calls Tryz.prog 69 #[.agg #[.int .i64 s.x, .int .i64 s.y], .agg #[.int .i64 a.x, .int .i64 a.y], .agg #[.int .i64 b.x, .int .i64 b.y], .int .i64 d, .bool less] w fun e w' => e = .returned (.bool (spotNearL s a b d less)) ∧ Below w.heap.size w w' := by
  obtain ⟨a1, a2, a3, a4⟩ := id ha
  obtain ⟨b1, b2, b3, b4⟩ := id hb
  obtain ⟨s1, s2, s3, s4⟩ := id hs
  have qd := mul_bd2 (x := d) (y := d) (c := 1000000) (d := 1000000) (by omega) (by omega) (by omega) (by omega)
  have q1 := mul_bd2 (x := b.x - a.x) (y := b.x - a.x) (c := 20000000) (d := 20000000) (by omega) (by omega) (by omega) (by omega)
  have q2 := mul_bd2 (x := b.y - a.y) (y := b.y - a.y) (c := 20000000) (d := 20000000) (by omega) (by omega) (by omega) (by omega)
  have q3 := mul_bd2 (x := s.x - a.x) (y := b.x - a.x) (c := 20000000) (d := 20000000) (by omega) (by omega) (by omega) (by omega)
  have q4 := mul_bd2 (x := s.y - a.y) (y := b.y - a.y) (c := 20000000) (d := 20000000) (by omega) (by omega) (by omega) (by omega)
  have q5 := mul_bd2 (x := s.x - a.x) (y := s.x - a.x) (c := 20000000) (d := 20000000) (by omega) (by omega) (by omega) (by omega)
  have q6 := mul_bd2 (x := s.y - a.y) (y := s.y - a.y) (c := 20000000) (d := 20000000) (by omega) (by omega) (by omega) (by omega)
  have q7 := mul_bd2 (x := s.x - b.x) (y := s.x - b.x) (c := 20000000) (d := 20000000) (by omega) (by omega) (by omega) (by omega)
  have q8 := mul_bd2 (x := s.y - b.y) (y := s.y - b.y) (c := 20000000) (d := 20000000) (by omega) (by omega) (by omega) (by omega)
  have q9 := mul_bd2 (x := s.x - a.x) (y := b.y - a.y) (c := 20000000) (d := 20000000) (by omega) (by omega) (by omega) (by omega)
  have q10 := mul_bd2 (x := s.y - a.y) (y := b.x - a.x) (c := 20000000) (d := 20000000) (by omega) (by omega) (by omega) (by omega)
  have n1 := sq_nn (b.x - a.x)
  have n2 := sq_nn (b.y - a.y)
  have n3 := sq_nn d
  obtain ⟨L, hL⟩ : ∃ z, (b.x - a.x) * (b.x - a.x) + (b.y - a.y) * (b.y - a.y) = z := ⟨_, rfl⟩
  obtain ⟨al, hal⟩ : ∃ z, (s.x - a.x) * (b.x - a.x) + (s.y - a.y) * (b.y - a.y) = z := ⟨_, rfl⟩
  obtain ⟨sa, hsa⟩ : ∃ z, (s.x - a.x) * (s.x - a.x) + (s.y - a.y) * (s.y - a.y) = z := ⟨_, rfl⟩
  obtain ⟨sb, hsb⟩ : ∃ z, (s.x - b.x) * (s.x - b.x) + (s.y - b.y) * (s.y - b.y) = z := ⟨_, rfl⟩
  obtain ⟨cr, hcr⟩ : ∃ z, (s.x - a.x) * (b.y - a.y) - (s.y - a.y) * (b.x - a.x) = z := ⟨_, rfl⟩
  obtain ⟨dd, hdd⟩ : ∃ z, d * d = z := ⟨_, rfl⟩
  have HV := Lib.hid (show spotNearL s a b d less = (if al > L then decide (sb < dd) || (decide (sb = dd) && !less) else if al ≤ 0 then decide (sa < dd) || (decide (sa = dd) && !less) else decide (cr * cr < dd * L) || (decide (cr * cr = dd * L) && !less)) by
    unfold spotNearL sq2; rw [hL, hal, hsa, hsb, hcr, hdd])
  have hL0 : 0 ≤ L := by omega
  have hL1 : L ≤ 800000000000000 := by omega
  rw [hdd] at qd n3
  by_cases g1 : al > L
  · have g2 : ¬ al ≤ 0 := by omega
    rcases Int.lt_trichotomy sb dd with g3 | g3 | g3
    · have HR := Lib.hid (show spotNearL s a b d less = true by rw [HV.out, if_pos g1]; simp [g3])
      rw [HR.out]
      go_enter Tryz.func69, Tryz.ntmps69
      go_wp2
      go_quiet (fail)
      go_wp2
      go_quiet (fail)
      go_wp2
      go_quiet (fail)
      go_wp2
      go_ret
      exact ⟨rfl, bDrewN ((((Below.refl _ w).alloc (Nat.le_refl _) _).alloc (by simp) _).alloc (by simp; omega) _) _⟩

    · subst g3
      have HR := Lib.hid (show spotNearL s a b d less = !less by rw [HV.out, if_pos g1]; simp)
      rw [HR.out]
      go_enter Tryz.func69, Tryz.ntmps69
      go_wp2
      go_quiet (fail)
      go_wp2
      go_quiet (fail)
      go_wp2
      go_quiet (fail)
      go_wp2
      go_ret
      exact ⟨rfl, bDrewN ((((Below.refl _ w).alloc (Nat.le_refl _) _).alloc (by simp) _).alloc (by simp; omega) _) _⟩

    · have g4 : ¬ sb < dd := by omega
      have g5 : ¬ sb = dd := by omega
      have HR := Lib.hid (show spotNearL s a b d less = decide (sb < dd) by rw [HV.out, if_pos g1]; simp [g4, g5])
      rw [HR.out]
      go_enter Tryz.func69, Tryz.ntmps69
      go_wp2
      go_quiet (fail)
      go_wp2
      go_quiet (fail)
      go_wp2
      go_quiet (fail)
      go_wp2
      go_ret
      exact ⟨rfl, bDrewN ((((Below.refl _ w).alloc (Nat.le_refl _) _).alloc (by simp) _).alloc (by simp; omega) _) _⟩

  · by_cases g2 : al ≤ 0
    · rcases Int.lt_trichotomy sa dd with g3 | g3 | g3
      · have HR := Lib.hid (show spotNearL s a b d less = true by rw [HV.out, if_neg g1, if_pos g2]; simp [g3])
        rw [HR.out]
        go_enter Tryz.func69, Tryz.ntmps69
        go_wp2
        go_quiet (fail)
        go_wp2
        go_quiet (fail)
        go_wp2
        go_ret
        exact ⟨rfl, bDrewN ((((Below.refl _ w).alloc (Nat.le_refl _) _).alloc (by simp) _).alloc (by simp; omega) _) _⟩

      · subst g3
        have HR := Lib.hid (show spotNearL s a b d less = !less by rw [HV.out, if_neg g1, if_pos g2]; simp)
        rw [HR.out]
        go_enter Tryz.func69, Tryz.ntmps69
        go_wp2
        go_quiet (fail)
        go_wp2
        go_quiet (fail)
        go_wp2
        go_ret
        exact ⟨rfl, bDrewN ((((Below.refl _ w).alloc (Nat.le_refl _) _).alloc (by simp) _).alloc (by simp; omega) _) _⟩

      · have g4 : ¬ sa < dd := by omega
        have g5 : ¬ sa = dd := by omega
        have HR := Lib.hid (show spotNearL s a b d less = decide (sa < dd) by rw [HV.out, if_neg g1, if_pos g2]; simp [g4, g5])
        rw [HR.out]
        go_enter Tryz.func69, Tryz.ntmps69
        go_wp2
        go_quiet (fail)
        go_wp2
        go_quiet (fail)
        go_wp2
        go_ret
        exact ⟨rfl, bDrewN ((((Below.refl _ w).alloc (Nat.le_refl _) _).alloc (by simp) _).alloc (by simp; omega) _) _⟩

    · obtain ⟨N, hN1, hN2⟩ := sq_nat cr
      obtain ⟨D, hD⟩ : ∃ D : Nat, dd = (D : Int) := ⟨dd.toNat, by omega⟩
      obtain ⟨M, hM⟩ : ∃ M : Nat, L = (M : Int) := ⟨L.toNat, by omega⟩
      have HR := Lib.hid (show spotNearL s a b d less = (decide (N * N < D * M) || (decide (N * N = D * M) && !less)) by
        rw [HV.out, if_neg g1, if_neg g2, hN2, hD, hM, ← Int.natCast_mul, ← Int.natCast_mul]
        rw [show decide (((N * N : Nat) : Int) < ((D * M : Nat) : Int)) = decide (N * N < D * M) from decide_eq_decide.2 (by omega), show decide (((N * N : Nat) : Int) = ((D * M : Nat) : Int)) = decide (N * N = D * M) from decide_eq_decide.2 (by omega)])
      have HA := Lib.hid (fun w => atMost_any N N D M less w (by omega) (by omega) (by omega) (by omega))
      rw [HR.out]
      obtain ⟨rs, hrs⟩ : ∃ z, (decide (N * N < D * M) || (decide (N * N = D * M) && !less)) = z := ⟨_, rfl⟩
      rw [hrs] at HA ⊢
      clear hrs HR
      subst hD
      subst hM
      clear HV hN2
      rcases (show (cr = (N : Int) ∧ 0 ≤ (N : Int)) ∨ (cr = -(N : Int) ∧ 0 < (N : Int)) by omega) with ⟨hc, hc0⟩ | ⟨hc, hc0⟩
      · rw [hc] at hcr
        have hmx : max (N : Int) (-(N : Int)) = (N : Int) := by omega
        clear hc hN1
        go_enter Tryz.func69, Tryz.ntmps69
        go_wp2
        go_quiet (fail)
        go_wp2
        go_quiet (fail)
        go_wp2_with fail
        refine (HA.out _).mono ?_
        rintro e w1 ⟨rfl, rfl⟩
        go_wp2
        go_ret
        exact ⟨rfl, bDrewN ((((Below.refl _ w).alloc (Nat.le_refl _) _).alloc (by simp) _).alloc (by simp; omega) _) _⟩
      · rw [hc] at hcr
        have hmx : max (-(N : Int)) (N : Int) = (N : Int) := by omega
        clear hc hN1
        go_enter Tryz.func69, Tryz.ntmps69
        go_wp2
        go_quiet (fail)
        go_wp2
        go_quiet (fail)
        go_wp2_with fail
        refine (HA.out _).mono ?_
        rintro e w1 ⟨rfl, rfl⟩
        go_wp2
        go_ret
        exact ⟨rfl, bDrewN ((((Below.refl _ w).alloc (Nat.le_refl _) _).alloc (by simp) _).alloc (by simp; omega) _) _⟩
end Go.Proofs.YtekambdnmaompaaGreat.SW

namespace Go.Proofs.YtekambdnmaompaaGreat.SW
set_option linter.unusedVariables false
set_option linter.unusedSimpArgs false
open Go.RowKit

def nearL (a b c d : S) (r : Int) (less : Bool) : Bool :=
  if crossB a b c d then decide (0 < r) || !less else spotNearL a c d r less || (spotNearL b c d r less || (spotNearL c a b r less || spotNearL d a b r less))
theorem sgn_bd (x : Int) : -1 ≤ sgnI x ∧ sgnI x ≤ 1 := by
  rcases sgn_vals x with h | h | h <;> omega
set_option maxRecDepth 100000 in
set_option maxHeartbeats 8000000 in
theorem near_any (a b c d : S) (r : Int) (less : Bool) (w : World) (ha : inR a) (hb : inR b) (hc : inR c) (hd : inR d) (hr0 : 0 ≤ r) (hr1 : r ≤ 1000000) :
    Calls Tryz.prog 65 #[.agg #[.int .i64 a.x, .int .i64 a.y], .agg #[.int .i64 b.x, .int .i64 b.y], .agg #[.int .i64 c.x, .int .i64 c.y], .agg #[.int .i64 d.x, .int .i64 d.y], .int .i64 r, .bool less] w fun e w' => e = .returned (.bool (nearL a b c d r less)) ∧ Below w.heap.size w w' := by
  have hp := P4.start w a b c d
  have hb1 := ((((Below.refl _ w).alloc (Nat.le_refl _) (.cells #[.int .i64 a.x, .int .i64 a.y] 82)).alloc (by simp) (.cells #[.int .i64 b.x, .int .i64 b.y] 82)).alloc (by simp; omega) (.cells #[.int .i64 c.x, .int .i64 c.y] 82)).alloc (by simp; omega) (.cells #[.int .i64 d.x, .int .i64 d.y] 82)
  have hz : ((((w.alloc (.cells #[.int .i64 a.x, .int .i64 a.y] 82)).alloc (.cells #[.int .i64 b.x, .int .i64 b.y] 82)).alloc (.cells #[.int .i64 c.x, .int .i64 c.y] 82)).alloc (.cells #[.int .i64 d.x, .int .i64 d.y] 82)).heap.size = w.heap.size + 4 := by simp
  obtain ⟨W1, hW1⟩ : ∃ z, ((((w.alloc (.cells #[.int .i64 a.x, .int .i64 a.y] 82)).alloc (.cells #[.int .i64 b.x, .int .i64 b.y] 82)).alloc (.cells #[.int .i64 c.x, .int .i64 c.y] 82)).alloc (.cells #[.int .i64 d.x, .int .i64 d.y] 82)) = z := ⟨_, rfl⟩
  rw [hW1] at hp hb1 hz
  have HK := Lib.hid (show ∀ wx, Below W1.heap.size W1 wx → P4 w.heap.size a b c d wx from fun wx h => hp.keep h (by omega))
  have HB1 := Lib.hid hb1
  have HN1 := Lib.hid (fun w => spotNear_any a c d r less w ha hc hd hr0 hr1)
  have HN2 := Lib.hid (fun w => spotNear_any b c d r less w hb hc hd hr0 hr1)
  have HN3 := Lib.hid (fun w => spotNear_any c a b r less w hc ha hb hr0 hr1)
  have HN4 := Lib.hid (fun w => spotNear_any d a b r less w hd ha hb hr0 hr1)
  obtain ⟨x1, hx1⟩ : ∃ z, sgnI (turnV a b c) = z := ⟨_, rfl⟩
  obtain ⟨x2, hx2⟩ : ∃ z, sgnI (turnV a b d) = z := ⟨_, rfl⟩
  obtain ⟨x3, hx3⟩ : ∃ z, sgnI (turnV c d a) = z := ⟨_, rfl⟩
  obtain ⟨x4, hx4⟩ : ∃ z, sgnI (turnV c d b) = z := ⟨_, rfl⟩
  have b1 := sgn_bd (turnV a b c)
  have b2 := sgn_bd (turnV a b d)
  have b3 := sgn_bd (turnV c d a)
  have b4 := sgn_bd (turnV c d b)
  rw [hx1] at b1; rw [hx2] at b2; rw [hx3] at b3; rw [hx4] at b4
  have m12 := mul_bd (c := 1) (d := 1) b1.1 b1.2 b2.1 b2.2
  have m34 := mul_bd (c := 1) (d := 1) b3.1 b3.2 b4.1 b4.2
  have HS1 := Lib.hid (show ∀ w, Calls Tryz.prog 90 #[.agg #[.int .i64 a.x, .int .i64 a.y], .agg #[.int .i64 b.x, .int .i64 b.y], .agg #[.int .i64 c.x, .int .i64 c.y]] w fun e w' => e = .returned (.int .i64 x1) ∧ Below w.heap.size w w' from fun w => by rw [← hx1]; exact turn_any a b c w ha hb hc)
  have HS2 := Lib.hid (show ∀ w, Calls Tryz.prog 90 #[.agg #[.int .i64 a.x, .int .i64 a.y], .agg #[.int .i64 b.x, .int .i64 b.y], .agg #[.int .i64 d.x, .int .i64 d.y]] w fun e w' => e = .returned (.int .i64 x2) ∧ Below w.heap.size w w' from fun w => by rw [← hx2]; exact turn_any a b d w ha hb hd)
  have HS3 := Lib.hid (show ∀ w, Calls Tryz.prog 90 #[.agg #[.int .i64 c.x, .int .i64 c.y], .agg #[.int .i64 d.x, .int .i64 d.y], .agg #[.int .i64 a.x, .int .i64 a.y]] w fun e w' => e = .returned (.int .i64 x3) ∧ Below w.heap.size w w' from fun w => by rw [← hx3]; exact turn_any c d a w hc hd ha)
  have HS4 := Lib.hid (show ∀ w, Calls Tryz.prog 90 #[.agg #[.int .i64 c.x, .int .i64 c.y], .agg #[.int .i64 d.x, .int .i64 d.y], .agg #[.int .i64 b.x, .int .i64 b.y]] w fun e w' => e = .returned (.int .i64 x4) ∧ Below w.heap.size w w' from fun w => by rw [← hx4]; exact turn_any c d b w hc hd hb)
  have HV := Lib.hid (show crossB a b c d = (decide (x1 * x2 < 0) && decide (x3 * x4 < 0)) by unfold crossB; simp only [side_turn]; rw [hx1, hx2, hx3, hx4])
  obtain ⟨p, hp12⟩ : ∃ z, x1 * x2 = z := ⟨_, rfl⟩
  obtain ⟨q, hq34⟩ : ∃ z, x3 * x4 = z := ⟨_, rfl⟩
  rw [hp12, hq34] at HV
  rw [hp12] at m12
  rw [hq34] at m34
  have w1' : IntKind.i64.wrap p = p := by rw [IntKind.wrap_i64]; omega
  have w2' : IntKind.i64.wrap q = q := by rw [IntKind.wrap_i64]; omega
  have HNL := Lib.hid (show nearL a b c d r less = if crossB a b c d then decide (0 < r) || !less else spotNearL a c d r less || (spotNearL b c d r less || (spotNearL c a b r less || spotNearL d a b r less)) from rfl)
  rw [HNL.out]
  obtain ⟨n1, hn1⟩ : ∃ z, spotNearL a c d r less = z := ⟨_, rfl⟩
  obtain ⟨n2, hn2⟩ : ∃ z, spotNearL b c d r less = z := ⟨_, rfl⟩
  obtain ⟨n3, hn3⟩ : ∃ z, spotNearL c a b r less = z := ⟨_, rfl⟩
  obtain ⟨n4, hn4⟩ : ∃ z, spotNearL d a b r less = z := ⟨_, rfl⟩
  obtain ⟨cv, hcv⟩ : ∃ z, crossB a b c d = z := ⟨_, rfl⟩
  rw [hn1] at HN1; rw [hn2] at HN2; rw [hn3] at HN3; rw [hn4] at HN4
  rw [hcv] at HV
  rw [hn1, hn2, hn3, hn4, hcv]
  clear hp hb1 hx1 hx2 hx3 hx4 b1 b2 b3 b4 m12 m34 ha hb hc hd hn1 hn2 hn3 hn4 hcv HNL
  go_enter Tryz.func65, Tryz.ntmps65
  go_upto_region 1 with (fail)
  go_cut [34] from 13 (fun s wx => s = .bool cv ∧ Below W1.heap.size W1 wx)
  case first =>
    by_cases hneg : p < 0
    · have HN := Lib.hid hneg
      have hn2 : decide (p < 0) = true := decide_eq_true hneg
      have HV2 := Lib.hid (show cv = decide (q < 0) by rw [HV.out, hn2]; rfl)
      clear hW1
      have hbq : Below W1.heap.size W1 W1.drew := (Below.refl _ _).drew
      have HS := Lib.hid (HK.out _ hbq)
      refine wp_region_held_drew (S := P4 w.heap.size a b c d) (by kernel_rfl) HS.out (fun _ => ?_)
      refine hTake (i := 0) (d := 13) (v := .agg #[.int .i64 a.x, .int .i64 a.y]) rfl rfl (by kernel_rfl) (by kernel_rfl) (by kernel_rfl) (fun _ _ _ h => h) (Or.inl ⟨rfl, ?gr⟩) HS.out ?_
      case gr =>
        rintro W' ⟨s0, s1, s2, s3, s4, s5, s6, s7⟩
        go_simp
      simp only [Act.put, List.setIfInBounds_toArray, List.set_cons_zero, List.set_cons_succ]
      refine hTake (i := 1) (d := 14) (v := .agg #[.int .i64 b.x, .int .i64 b.y]) rfl rfl (by kernel_rfl) (by kernel_rfl) (by kernel_rfl) (fun _ _ _ h => h) (Or.inl ⟨rfl, ?gr⟩) HS.out ?_
      case gr =>
        rintro W' ⟨s0, s1, s2, s3, s4, s5, s6, s7⟩
        go_simp
      simp only [Act.put, List.setIfInBounds_toArray, List.set_cons_zero, List.set_cons_succ]
      refine hTake (i := 2) (d := 15) (v := .agg #[.int .i64 c.x, .int .i64 c.y]) rfl rfl (by kernel_rfl) (by kernel_rfl) (by kernel_rfl) (fun _ _ _ h => h) (Or.inl ⟨rfl, ?gr⟩) HS.out ?_
      case gr =>
        rintro W' ⟨s0, s1, s2, s3, s4, s5, s6, s7⟩
        go_simp
      simp only [Act.put, List.setIfInBounds_toArray, List.set_cons_zero, List.set_cons_succ]
      refine hTake (i := 4) (d := 17) (v := .agg #[.int .i64 a.x, .int .i64 a.y]) rfl rfl (by kernel_rfl) (by kernel_rfl) (by kernel_rfl) (fun _ _ _ h => h) (Or.inl ⟨rfl, ?gr⟩) HS.out ?_
      case gr =>
        rintro W' ⟨s0, s1, s2, s3, s4, s5, s6, s7⟩
        go_simp
      simp only [Act.put, List.setIfInBounds_toArray, List.set_cons_zero, List.set_cons_succ]
      refine hTake (i := 5) (d := 18) (v := .agg #[.int .i64 b.x, .int .i64 b.y]) rfl rfl (by kernel_rfl) (by kernel_rfl) (by kernel_rfl) (fun _ _ _ h => h) (Or.inl ⟨rfl, ?gr⟩) HS.out ?_
      case gr =>
        rintro W' ⟨s0, s1, s2, s3, s4, s5, s6, s7⟩
        go_simp
      simp only [Act.put, List.setIfInBounds_toArray, List.set_cons_zero, List.set_cons_succ]
      refine hTake (i := 6) (d := 19) (v := .agg #[.int .i64 d.x, .int .i64 d.y]) rfl rfl (by kernel_rfl) (by kernel_rfl) (by kernel_rfl) (fun _ _ _ h => h) (Or.inl ⟨rfl, ?gr⟩) HS.out ?_
      case gr =>
        rintro W' ⟨s0, s1, s2, s3, s4, s5, s6, s7⟩
        go_simp
      simp only [Act.put, List.setIfInBounds_toArray, List.set_cons_zero, List.set_cons_succ]
      refine wpAnyH_ready (rs := [3]) (by kernel_rfl) (by simp) ?_
      refine AllReadyH.cons rfl (fun K hK => ?_) AllReadyH.nil
      rw [if_pos (by rfl)]
      go_simp
      go_at_call 90
      (with_reducible refine (HS1.out _).mono ?_)
      rintro e v1 ⟨rfl, hb5⟩
      replace hbq := hbq.trans (hb5.mono hbq.size)
      have HS := Lib.hid (HK.out _ hbq)
      clear hb5
      refine hK.out _ _ HS.out (fun _ => ?_)
      clear hK K
      try simp only [Act.put, List.setIfInBounds_toArray, List.set_cons_zero, List.set_cons_succ]
      refine wpAnyH_ready (rs := [7]) (by kernel_rfl) (by simp) ?_
      refine AllReadyH.cons rfl (fun K hK => ?_) AllReadyH.nil
      rw [if_pos (by rfl)]
      go_simp
      go_at_call 90
      (with_reducible refine (HS2.out _).mono ?_)
      rintro e v2 ⟨rfl, hb5⟩
      replace hbq := hbq.trans (hb5.mono hbq.size)
      have HS := Lib.hid (HK.out _ hbq)
      clear hb5
      refine hK.out _ _ HS.out (fun _ => ?_)
      clear hK K
      try simp only [Act.put, List.setIfInBounds_toArray, List.set_cons_zero, List.set_cons_succ]
      refine hTake (i := 8) (d := 21) (v := .int .i64 p) rfl rfl (by kernel_rfl) (by kernel_rfl) (by kernel_rfl) (fun _ _ _ h => h) (Or.inl ⟨rfl, ?gr⟩) HS.out ?_
      case gr =>
        rintro W' ⟨s0, s1, s2, s3, s4, s5, s6, s7⟩
        go_simp
      simp only [Act.put, List.setIfInBounds_toArray, List.set_cons_zero, List.set_cons_succ]
      refine hTake (i := 9) (d := 22) (v := .bool true) rfl rfl (by kernel_rfl) (by kernel_rfl) (by kernel_rfl) (fun _ _ _ h => h) (Or.inl ⟨rfl, ?gr⟩) HS.out ?_
      case gr =>
        rintro W' ⟨s0, s1, s2, s3, s4, s5, s6, s7⟩
        go_simp
      simp only [Act.put, List.setIfInBounds_toArray, List.set_cons_zero, List.set_cons_succ]
      refine hTake (i := 10) (d := 23) (v := .bool true) rfl rfl (by kernel_rfl) (by kernel_rfl) (by kernel_rfl) (fun _ _ _ h => h) (Or.inl ⟨rfl, ?gr⟩) HS.out ?_
      case gr =>
        rintro W' ⟨s0, s1, s2, s3, s4, s5, s6, s7⟩
        go_simp
      simp only [Act.put, List.setIfInBounds_toArray, List.set_cons_zero, List.set_cons_succ]
      refine hTake (i := 11) (d := 24) (v := .agg #[.int .i64 c.x, .int .i64 c.y]) rfl rfl (by kernel_rfl) (by kernel_rfl) (by kernel_rfl) (fun _ _ _ h => h) (Or.inl ⟨rfl, ?gr⟩) HS.out ?_
      case gr =>
        rintro W' ⟨s0, s1, s2, s3, s4, s5, s6, s7⟩
        go_simp
      simp only [Act.put, List.setIfInBounds_toArray, List.set_cons_zero, List.set_cons_succ]
      refine hTake (i := 12) (d := 25) (v := .agg #[.int .i64 d.x, .int .i64 d.y]) rfl rfl (by kernel_rfl) (by kernel_rfl) (by kernel_rfl) (fun _ _ _ h => h) (Or.inl ⟨rfl, ?gr⟩) HS.out ?_
      case gr =>
        rintro W' ⟨s0, s1, s2, s3, s4, s5, s6, s7⟩
        go_simp
      simp only [Act.put, List.setIfInBounds_toArray, List.set_cons_zero, List.set_cons_succ]
      refine hTake (i := 13) (d := 26) (v := .agg #[.int .i64 a.x, .int .i64 a.y]) rfl rfl (by kernel_rfl) (by kernel_rfl) (by kernel_rfl) (fun _ _ _ h => h) (Or.inl ⟨rfl, ?gr⟩) HS.out ?_
      case gr =>
        rintro W' ⟨s0, s1, s2, s3, s4, s5, s6, s7⟩
        go_simp
      simp only [Act.put, List.setIfInBounds_toArray, List.set_cons_zero, List.set_cons_succ]
      refine hTake (i := 15) (d := 28) (v := .agg #[.int .i64 c.x, .int .i64 c.y]) rfl rfl (by kernel_rfl) (by kernel_rfl) (by kernel_rfl) (fun _ _ _ h => h) (Or.inl ⟨rfl, ?gr⟩) HS.out ?_
      case gr =>
        rintro W' ⟨s0, s1, s2, s3, s4, s5, s6, s7⟩
        go_simp
      simp only [Act.put, List.setIfInBounds_toArray, List.set_cons_zero, List.set_cons_succ]
      refine hTake (i := 16) (d := 29) (v := .agg #[.int .i64 d.x, .int .i64 d.y]) rfl rfl (by kernel_rfl) (by kernel_rfl) (by kernel_rfl) (fun _ _ _ h => h) (Or.inl ⟨rfl, ?gr⟩) HS.out ?_
      case gr =>
        rintro W' ⟨s0, s1, s2, s3, s4, s5, s6, s7⟩
        go_simp
      simp only [Act.put, List.setIfInBounds_toArray, List.set_cons_zero, List.set_cons_succ]
      refine hTake (i := 17) (d := 30) (v := .agg #[.int .i64 b.x, .int .i64 b.y]) rfl rfl (by kernel_rfl) (by kernel_rfl) (by kernel_rfl) (fun _ _ _ h => h) (Or.inl ⟨rfl, ?gr⟩) HS.out ?_
      case gr =>
        rintro W' ⟨s0, s1, s2, s3, s4, s5, s6, s7⟩
        go_simp
      simp only [Act.put, List.setIfInBounds_toArray, List.set_cons_zero, List.set_cons_succ]
      refine wpAnyH_ready (rs := [14]) (by kernel_rfl) (by simp) ?_
      refine AllReadyH.cons rfl (fun K hK => ?_) AllReadyH.nil
      rw [if_pos (by rfl)]
      go_simp
      go_at_call 90
      (with_reducible refine (HS3.out _).mono ?_)
      rintro e v3 ⟨rfl, hb5⟩
      replace hbq := hbq.trans (hb5.mono hbq.size)
      have HS := Lib.hid (HK.out _ hbq)
      clear hb5
      refine hK.out _ _ HS.out (fun _ => ?_)
      clear hK K
      try simp only [Act.put, List.setIfInBounds_toArray, List.set_cons_zero, List.set_cons_succ]
      refine wpAnyH_ready (rs := [18]) (by kernel_rfl) (by simp) ?_
      refine AllReadyH.cons rfl (fun K hK => ?_) AllReadyH.nil
      rw [if_pos (by rfl)]
      go_simp
      go_at_call 90
      (with_reducible refine (HS4.out _).mono ?_)
      rintro e v4 ⟨rfl, hb5⟩
      replace hbq := hbq.trans (hb5.mono hbq.size)
      have HS := Lib.hid (HK.out _ hbq)
      clear hb5
      refine hK.out _ _ HS.out (fun _ => ?_)
      clear hK K
      try simp only [Act.put, List.setIfInBounds_toArray, List.set_cons_zero, List.set_cons_succ]
      refine hTake (i := 19) (d := 32) (v := .int .i64 q) rfl rfl (by kernel_rfl) (by kernel_rfl) (by kernel_rfl) (fun _ _ _ h => h) (Or.inl ⟨rfl, ?gr⟩) HS.out ?_
      case gr =>
        rintro W' ⟨s0, s1, s2, s3, s4, s5, s6, s7⟩
        go_simp
      simp only [Act.put, List.setIfInBounds_toArray, List.set_cons_zero, List.set_cons_succ]
      refine hTake (i := 20) (d := 33) (v := .bool (decide (q < 0))) rfl rfl (by kernel_rfl) (by kernel_rfl) (by kernel_rfl) (fun _ _ _ h => h) (Or.inl ⟨rfl, ?gr⟩) HS.out ?_
      case gr =>
        rintro W' ⟨s0, s1, s2, s3, s4, s5, s6, s7⟩
        go_simp
      simp only [Act.put, List.setIfInBounds_toArray, List.set_cons_zero, List.set_cons_succ]
      refine hTake (i := 21) (d := 34) (v := .bool (decide (q < 0))) rfl rfl (by kernel_rfl) (by kernel_rfl) (by kernel_rfl) (fun _ _ _ h => h) (Or.inl ⟨rfl, ?gr⟩) HS.out ?_
      case gr =>
        rintro W' ⟨s0, s1, s2, s3, s4, s5, s6, s7⟩
        go_simp
      simp only [Act.put, List.setIfInBounds_toArray, List.set_cons_zero, List.set_cons_succ]
      refine wpAnyH_done (by kernel_rfl) ?_ _
      go_wp2
      go_meet
      exact ⟨by rw [HV2.out], hbq⟩
    · have hn2 : decide (p < 0) = false := by rw [decide_eq_false_iff_not]; exact hneg
      have HV2 := Lib.hid (show cv = false by rw [HV.out, hn2]; rfl)
      clear hW1
      have hbq : Below W1.heap.size W1 W1.drew := (Below.refl _ _).drew
      have HS := Lib.hid (HK.out _ hbq)
      refine wp_region_held_drew (S := P4 w.heap.size a b c d) (by kernel_rfl) HS.out (fun _ => ?_)
      refine hTake (i := 0) (d := 13) (v := .agg #[.int .i64 a.x, .int .i64 a.y]) rfl rfl (by kernel_rfl) (by kernel_rfl) (by kernel_rfl) (fun _ _ _ h => h) (Or.inl ⟨rfl, ?gr⟩) HS.out ?_
      case gr =>
        rintro W' ⟨s0, s1, s2, s3, s4, s5, s6, s7⟩
        go_simp
      simp only [Act.put, List.setIfInBounds_toArray, List.set_cons_zero, List.set_cons_succ]
      refine hTake (i := 1) (d := 14) (v := .agg #[.int .i64 b.x, .int .i64 b.y]) rfl rfl (by kernel_rfl) (by kernel_rfl) (by kernel_rfl) (fun _ _ _ h => h) (Or.inl ⟨rfl, ?gr⟩) HS.out ?_
      case gr =>
        rintro W' ⟨s0, s1, s2, s3, s4, s5, s6, s7⟩
        go_simp
      simp only [Act.put, List.setIfInBounds_toArray, List.set_cons_zero, List.set_cons_succ]
      refine hTake (i := 2) (d := 15) (v := .agg #[.int .i64 c.x, .int .i64 c.y]) rfl rfl (by kernel_rfl) (by kernel_rfl) (by kernel_rfl) (fun _ _ _ h => h) (Or.inl ⟨rfl, ?gr⟩) HS.out ?_
      case gr =>
        rintro W' ⟨s0, s1, s2, s3, s4, s5, s6, s7⟩
        go_simp
      simp only [Act.put, List.setIfInBounds_toArray, List.set_cons_zero, List.set_cons_succ]
      refine hTake (i := 4) (d := 17) (v := .agg #[.int .i64 a.x, .int .i64 a.y]) rfl rfl (by kernel_rfl) (by kernel_rfl) (by kernel_rfl) (fun _ _ _ h => h) (Or.inl ⟨rfl, ?gr⟩) HS.out ?_
      case gr =>
        rintro W' ⟨s0, s1, s2, s3, s4, s5, s6, s7⟩
        go_simp
      simp only [Act.put, List.setIfInBounds_toArray, List.set_cons_zero, List.set_cons_succ]
      refine hTake (i := 5) (d := 18) (v := .agg #[.int .i64 b.x, .int .i64 b.y]) rfl rfl (by kernel_rfl) (by kernel_rfl) (by kernel_rfl) (fun _ _ _ h => h) (Or.inl ⟨rfl, ?gr⟩) HS.out ?_
      case gr =>
        rintro W' ⟨s0, s1, s2, s3, s4, s5, s6, s7⟩
        go_simp
      simp only [Act.put, List.setIfInBounds_toArray, List.set_cons_zero, List.set_cons_succ]
      refine hTake (i := 6) (d := 19) (v := .agg #[.int .i64 d.x, .int .i64 d.y]) rfl rfl (by kernel_rfl) (by kernel_rfl) (by kernel_rfl) (fun _ _ _ h => h) (Or.inl ⟨rfl, ?gr⟩) HS.out ?_
      case gr =>
        rintro W' ⟨s0, s1, s2, s3, s4, s5, s6, s7⟩
        go_simp
      simp only [Act.put, List.setIfInBounds_toArray, List.set_cons_zero, List.set_cons_succ]
      refine wpAnyH_ready (rs := [3]) (by kernel_rfl) (by simp) ?_
      refine AllReadyH.cons rfl (fun K hK => ?_) AllReadyH.nil
      rw [if_pos (by rfl)]
      go_simp
      go_at_call 90
      (with_reducible refine (HS1.out _).mono ?_)
      rintro e v1 ⟨rfl, hb5⟩
      replace hbq := hbq.trans (hb5.mono hbq.size)
      have HS := Lib.hid (HK.out _ hbq)
      clear hb5
      refine hK.out _ _ HS.out (fun _ => ?_)
      clear hK K
      try simp only [Act.put, List.setIfInBounds_toArray, List.set_cons_zero, List.set_cons_succ]
      refine wpAnyH_ready (rs := [7]) (by kernel_rfl) (by simp) ?_
      refine AllReadyH.cons rfl (fun K hK => ?_) AllReadyH.nil
      rw [if_pos (by rfl)]
      go_simp
      go_at_call 90
      (with_reducible refine (HS2.out _).mono ?_)
      rintro e v2 ⟨rfl, hb5⟩
      replace hbq := hbq.trans (hb5.mono hbq.size)
      have HS := Lib.hid (HK.out _ hbq)
      clear hb5
      refine hK.out _ _ HS.out (fun _ => ?_)
      clear hK K
      try simp only [Act.put, List.setIfInBounds_toArray, List.set_cons_zero, List.set_cons_succ]
      refine hTake (i := 8) (d := 21) (v := .int .i64 p) rfl rfl (by kernel_rfl) (by kernel_rfl) (by kernel_rfl) (fun _ _ _ h => h) (Or.inl ⟨rfl, ?gr⟩) HS.out ?_
      case gr =>
        rintro W' ⟨s0, s1, s2, s3, s4, s5, s6, s7⟩
        go_simp
      simp only [Act.put, List.setIfInBounds_toArray, List.set_cons_zero, List.set_cons_succ]
      refine hTake (i := 9) (d := 22) (v := .bool false) rfl rfl (by kernel_rfl) (by kernel_rfl) (by kernel_rfl) (fun _ _ _ h => h) (Or.inl ⟨rfl, ?gr⟩) HS.out ?_
      case gr =>
        rintro W' ⟨s0, s1, s2, s3, s4, s5, s6, s7⟩
        go_simp
      simp only [Act.put, List.setIfInBounds_toArray, List.set_cons_zero, List.set_cons_succ]
      refine hTake (i := 10) (d := 23) (v := .bool false) rfl rfl (by kernel_rfl) (by kernel_rfl) (by kernel_rfl) (fun _ _ _ h => h) (Or.inl ⟨rfl, ?gr⟩) HS.out ?_
      case gr =>
        rintro W' ⟨s0, s1, s2, s3, s4, s5, s6, s7⟩
        go_simp
      simp only [Act.put, List.setIfInBounds_toArray, List.set_cons_zero, List.set_cons_succ]
      refine hTake (i := 11) (d := 24) (v := undef) rfl rfl (by kernel_rfl) (by kernel_rfl) (by kernel_rfl) (fun _ _ _ h => h) (Or.inr ⟨rfl, rfl⟩) HS.out ?_
      simp only [Act.put, List.setIfInBounds_toArray, List.set_cons_zero, List.set_cons_succ]
      refine hTake (i := 12) (d := 25) (v := undef) rfl rfl (by kernel_rfl) (by kernel_rfl) (by kernel_rfl) (fun _ _ _ h => h) (Or.inr ⟨rfl, rfl⟩) HS.out ?_
      simp only [Act.put, List.setIfInBounds_toArray, List.set_cons_zero, List.set_cons_succ]
      refine hTake (i := 13) (d := 26) (v := undef) rfl rfl (by kernel_rfl) (by kernel_rfl) (by kernel_rfl) (fun _ _ _ h => h) (Or.inr ⟨rfl, rfl⟩) HS.out ?_
      simp only [Act.put, List.setIfInBounds_toArray, List.set_cons_zero, List.set_cons_succ]
      refine hTake (i := 14) (d := 27) (v := undef) rfl rfl (by kernel_rfl) (by kernel_rfl) (by kernel_rfl) (fun _ _ _ h => h) (Or.inr ⟨rfl, rfl⟩) HS.out ?_
      simp only [Act.put, List.setIfInBounds_toArray, List.set_cons_zero, List.set_cons_succ]
      refine hTake (i := 15) (d := 28) (v := undef) rfl rfl (by kernel_rfl) (by kernel_rfl) (by kernel_rfl) (fun _ _ _ h => h) (Or.inr ⟨rfl, rfl⟩) HS.out ?_
      simp only [Act.put, List.setIfInBounds_toArray, List.set_cons_zero, List.set_cons_succ]
      refine hTake (i := 16) (d := 29) (v := undef) rfl rfl (by kernel_rfl) (by kernel_rfl) (by kernel_rfl) (fun _ _ _ h => h) (Or.inr ⟨rfl, rfl⟩) HS.out ?_
      simp only [Act.put, List.setIfInBounds_toArray, List.set_cons_zero, List.set_cons_succ]
      refine hTake (i := 17) (d := 30) (v := undef) rfl rfl (by kernel_rfl) (by kernel_rfl) (by kernel_rfl) (fun _ _ _ h => h) (Or.inr ⟨rfl, rfl⟩) HS.out ?_
      simp only [Act.put, List.setIfInBounds_toArray, List.set_cons_zero, List.set_cons_succ]
      refine hTake (i := 18) (d := 31) (v := undef) rfl rfl (by kernel_rfl) (by kernel_rfl) (by kernel_rfl) (fun _ _ _ h => h) (Or.inr ⟨rfl, rfl⟩) HS.out ?_
      simp only [Act.put, List.setIfInBounds_toArray, List.set_cons_zero, List.set_cons_succ]
      refine hTake (i := 19) (d := 32) (v := undef) rfl rfl (by kernel_rfl) (by kernel_rfl) (by kernel_rfl) (fun _ _ _ h => h) (Or.inr ⟨rfl, rfl⟩) HS.out ?_
      simp only [Act.put, List.setIfInBounds_toArray, List.set_cons_zero, List.set_cons_succ]
      refine hTake (i := 20) (d := 33) (v := undef) rfl rfl (by kernel_rfl) (by kernel_rfl) (by kernel_rfl) (fun _ _ _ h => h) (Or.inr ⟨rfl, rfl⟩) HS.out ?_
      simp only [Act.put, List.setIfInBounds_toArray, List.set_cons_zero, List.set_cons_succ]
      refine hTake (i := 21) (d := 34) (v := .bool false) rfl rfl (by kernel_rfl) (by kernel_rfl) (by kernel_rfl) (fun _ _ _ h => h) (Or.inl ⟨rfl, ?gr⟩) HS.out ?_
      case gr =>
        rintro W' ⟨s0, s1, s2, s3, s4, s5, s6, s7⟩
        go_simp
      simp only [Act.put, List.setIfInBounds_toArray, List.set_cons_zero, List.set_cons_succ]
      refine wpAnyH_done (by kernel_rfl) ?_ _
      go_wp2
      go_meet
      exact ⟨by rw [HV2.out], hbq⟩
  case rest =>
    obtain ⟨rfl, hbq⟩ := hcut
    have HS := Lib.hid (HK.out _ hbq)
    have HBQ := Lib.hid (HB1.out.trans (hbq.mono HB1.out.size))
    have HBQ0 := Lib.hid hbq
    have hbz := hbq.size
    clear hbq hW1
    cases cv with
    | true =>
      by_cases h0 : 0 < r
      · have HR := Lib.hid (show (decide (0 < r) || !less) = true by simp [h0])
        go_wp2
        go_ret
        exact ⟨Eq.trans (b := .returned (.bool true)) rfl (by first | rfl | simp [h0]), HBQ.out⟩
      · have HR := Lib.hid (show decide (0 < r) = false from decide_eq_false h0)
        go_wp2
        go_ret
        exact ⟨Eq.trans (b := .returned (.bool (!less))) rfl (by first | rfl | simp [HR.out]), HBQ.out⟩
    | false =>
      obtain ⟨s0, s1, s2, s3, s4, s5, s6, s7⟩ := HS.out
      cases n1 with
      | true =>
        go_wp2_with fail
        refine (HN1.out _).mono ?_
        rintro e v1 ⟨rfl, hb1⟩
        have hbs1 := hb1
        have HBS1 := Lib.hid hbs1
        obtain ⟨s0, s1, s2, s3, s4, s5, s6, s7⟩ := HK.out _ (HBQ0.out.trans (HBS1.out.mono HBQ0.out.size))
        clear hb1
        go_wp2
        go_ret
        exact ⟨Eq.trans (b := .returned (.bool true)) rfl (by first | rfl | simp), HBQ.out.trans (HBS1.out.mono HBQ.out.size)⟩
      | false =>
        cases n2 with
        | true =>
          go_wp2_with fail
          refine (HN1.out _).mono ?_
          rintro e v1 ⟨rfl, hb1⟩
          have hbs1 := hb1
          have HBS1 := Lib.hid hbs1
          obtain ⟨s0, s1, s2, s3, s4, s5, s6, s7⟩ := HK.out _ (HBQ0.out.trans (HBS1.out.mono HBQ0.out.size))
          clear hb1
          go_wp2_with fail
          refine (HN2.out _).mono ?_
          rintro e v2 ⟨rfl, hb2⟩
          have hbs2 := hbs1.trans (hb2.mono hbs1.size)
          have HBS2 := Lib.hid hbs2
          obtain ⟨s0, s1, s2, s3, s4, s5, s6, s7⟩ := HK.out _ (HBQ0.out.trans (HBS2.out.mono HBQ0.out.size))
          clear hb2
          go_wp2
          go_ret
          exact ⟨Eq.trans (b := .returned (.bool true)) rfl (by first | rfl | simp), HBQ.out.trans (HBS2.out.mono HBQ.out.size)⟩
        | false =>
          cases n3 with
          | true =>
            go_wp2_with fail
            refine (HN1.out _).mono ?_
            rintro e v1 ⟨rfl, hb1⟩
            have hbs1 := hb1
            have HBS1 := Lib.hid hbs1
            obtain ⟨s0, s1, s2, s3, s4, s5, s6, s7⟩ := HK.out _ (HBQ0.out.trans (HBS1.out.mono HBQ0.out.size))
            clear hb1
            go_wp2_with fail
            refine (HN2.out _).mono ?_
            rintro e v2 ⟨rfl, hb2⟩
            have hbs2 := hbs1.trans (hb2.mono hbs1.size)
            have HBS2 := Lib.hid hbs2
            obtain ⟨s0, s1, s2, s3, s4, s5, s6, s7⟩ := HK.out _ (HBQ0.out.trans (HBS2.out.mono HBQ0.out.size))
            clear hb2
            go_wp2_with fail
            refine (HN3.out _).mono ?_
            rintro e v3 ⟨rfl, hb3⟩
            have hbs3 := hbs2.trans (hb3.mono hbs2.size)
            have HBS3 := Lib.hid hbs3
            obtain ⟨s0, s1, s2, s3, s4, s5, s6, s7⟩ := HK.out _ (HBQ0.out.trans (HBS3.out.mono HBQ0.out.size))
            clear hb3
            go_wp2
            go_ret
            exact ⟨Eq.trans (b := .returned (.bool true)) rfl (by first | rfl | simp), HBQ.out.trans (HBS3.out.mono HBQ.out.size)⟩
          | false =>
            go_wp2_with fail
            refine (HN1.out _).mono ?_
            rintro e v1 ⟨rfl, hb1⟩
            have hbs1 := hb1
            have HBS1 := Lib.hid hbs1
            obtain ⟨s0, s1, s2, s3, s4, s5, s6, s7⟩ := HK.out _ (HBQ0.out.trans (HBS1.out.mono HBQ0.out.size))
            clear hb1
            go_wp2_with fail
            refine (HN2.out _).mono ?_
            rintro e v2 ⟨rfl, hb2⟩
            have hbs2 := hbs1.trans (hb2.mono hbs1.size)
            have HBS2 := Lib.hid hbs2
            obtain ⟨s0, s1, s2, s3, s4, s5, s6, s7⟩ := HK.out _ (HBQ0.out.trans (HBS2.out.mono HBQ0.out.size))
            clear hb2
            go_wp2_with fail
            refine (HN3.out _).mono ?_
            rintro e v3 ⟨rfl, hb3⟩
            have hbs3 := hbs2.trans (hb3.mono hbs2.size)
            have HBS3 := Lib.hid hbs3
            obtain ⟨s0, s1, s2, s3, s4, s5, s6, s7⟩ := HK.out _ (HBQ0.out.trans (HBS3.out.mono HBQ0.out.size))
            clear hb3
            go_wp2_with fail
            refine (HN4.out _).mono ?_
            rintro e v4 ⟨rfl, hb4⟩
            have hbs4 := hbs3.trans (hb4.mono hbs3.size)
            have HBS4 := Lib.hid hbs4
            obtain ⟨s0, s1, s2, s3, s4, s5, s6, s7⟩ := HK.out _ (HBQ0.out.trans (HBS4.out.mono HBQ0.out.size))
            clear hb4
            go_wp2
            go_ret
            exact ⟨Eq.trans (b := .returned (.bool n4)) rfl (by first | rfl | simp), HBQ.out.trans (HBS4.out.mono HBQ.out.size)⟩
end Go.Proofs.YtekambdnmaompaaGreat.SW

namespace Go.Proofs.YtekambdnmaompaaGreat.SW
set_option linter.unusedVariables false
set_option linter.unusedSimpArgs false
open Go.RowKit

/-- a block's cells, in a row -/
def Rw (w : World) (g : Nat) (t : TypeId) (cs : Array Value) : Prop := w.heap[g]? = some (.cells cs t (0, 0))
section
variable {w w' : World} {g B : Nat} {t : TypeId} {cs : Array Value}
theorem Rw.cell (h : Rw w g t cs) (i : Nat) : w.cell? ⟨g, i, none⟩ = cs[i]? := cell_of_row _ _ i _ _ _ h
theorem Rw.frozen (h : Rw w g t cs) (i : Nat) : w.frozen? ⟨g, i, none⟩ = false := by
  unfold Rw at h
  simp [World.frozen?, h]
theorem Rw.below (h : Rw w g t cs) (hb : Below B w w') (hg : g < B) : Rw w' g t cs := (hb.block g hg).trans h
theorem Rw.lt (h : Rw w g t cs) : g < w.heap.size := (Array.getElem?_eq_some_iff.1 h).1
theorem Rw.new (w : World) (cs : Array Value) (t : TypeId) : Rw (w.alloc (.cells cs t)) w.heap.size t cs := heap_alloc_new w _
theorem Rw.alloc (h : Rw w g t cs) (o : Obj) : Rw (w.alloc o) g t cs := (Below.heap_alloc _ _ _ h.lt).trans h
theorem Rw.drew (h : Rw w g t cs) : Rw w.drew g t cs := h
theorem Rw.set (h : Rw w g t cs) (i : Nat) (u : Value) : Rw (w.setCell ⟨g, i, none⟩ u) g t (cs.setIfInBounds i u) := by
  unfold Rw
  rw [heap_set_same _ h]
theorem Rw.far (h : Rw w g t cs) {k : Nat} (i : Nat) (u : Value) (hk : g ≠ k) : Rw (w.setCell ⟨k, i, none⟩ u) g t cs := (Below.heap_setCell _ _ _ g hk).trans h
theorem Rw.set2 {a b x y : Value} (h : Rw w g t #[a, b]) : Rw ((w.setCell ⟨g, 0, none⟩ x).setCell ⟨g, 1, none⟩ y) g t #[x, y] := (h.set 0 x).set 1 y
theorem Rw.far2 (h : Rw w g t cs) {k : Nat} {x y : Value} (hk : g ≠ k) : Rw ((w.setCell ⟨k, 0, none⟩ x).setCell ⟨k, 1, none⟩ y) g t cs := (h.far 0 x hk).far 1 y hk
end
theorem res_cc {P : Program} {fn : Func} {p q : Tmp} {ty ty2 : TypeId} (h : fn.results = #[.cell p ty, .cell q ty2]) (tmps : Array Value) (w : World) (g g2 : Nat) (t t2 : TypeId) (cs cs2 : Array Value) (d d2 : TypeDesc)
    (hp : tmps.getD p undef = .pointer (some ⟨g, 0, none⟩)) (hp2 : tmps.getD q undef = .pointer (some ⟨g2, 0, none⟩)) (hg : Rw w g t cs) (hg2 : Rw w g2 t2 cs2)
    (hu : P.underlying ty = some d) (hd : (match d with | .struct _ | .array _ _ => true | _ => false) = true) (hi : (P.info? ty).map (·.size) = some cs.size)
    (hu2 : P.underlying ty2 = some d2) (hd2 : (match d2 with | .struct _ | .array _ _ => true | _ => false) = true) (hi2 : (P.info? ty2).map (·.size) = some cs2.size) :
    (results fn tmps).run P w = .ok (.tuple #[.agg cs, .agg cs2]) w := by
  have hp' : tmps[p]?.getD undef = .pointer (some ⟨g, 0, none⟩) := by simpa using hp
  have hq' : tmps[q]?.getD undef = .pointer (some ⟨g2, 0, none⟩) := by simpa using hp2
  simp [results, h, hp', hq', asAddr, run_loadVar_row w g t ty cs (0, 0) d hg hu hd hi, run_loadVar_row w g2 t2 ty2 cs2 (0, 0) d2 hg2 hu2 hd2 hi2]
theorem res_ct {P : Program} {fn : Func} {p u : Tmp} {ty : TypeId} (h : fn.results = #[.cell p ty, .tmp u]) (tmps : Array Value) (w : World) (g : Nat) (t : TypeId) (cs : Array Value) (d : TypeDesc) (v : Value)
    (hp : tmps.getD p undef = .pointer (some ⟨g, 0, none⟩)) (hv : tmps.getD u undef = v) (hg : Rw w g t cs)
    (hu : P.underlying ty = some d) (hd : (match d with | .struct _ | .array _ _ => true | _ => false) = true) (hi : (P.info? ty).map (·.size) = some cs.size) :
    (results fn tmps).run P w = .ok (.tuple #[.agg cs, v]) w := by
  have hp' : tmps[p]?.getD undef = .pointer (some ⟨g, 0, none⟩) := by simpa using hp
  have hv' : tmps[u]?.getD undef = v := by simpa using hv
  simp [results, h, hp', hv', asAddr, run_loadVar_row w g t ty cs (0, 0) d hg hu hd hi]
theorem res_cct {P : Program} {fn : Func} {p q u : Tmp} {ty ty2 : TypeId} (h : fn.results = #[.cell p ty, .cell q ty2, .tmp u]) (tmps : Array Value) (w : World) (g g2 : Nat) (t t2 : TypeId) (cs cs2 : Array Value) (d d2 : TypeDesc) (v : Value)
    (hp : tmps.getD p undef = .pointer (some ⟨g, 0, none⟩)) (hp2 : tmps.getD q undef = .pointer (some ⟨g2, 0, none⟩)) (hv : tmps.getD u undef = v) (hg : Rw w g t cs) (hg2 : Rw w g2 t2 cs2)
    (hu : P.underlying ty = some d) (hd : (match d with | .struct _ | .array _ _ => true | _ => false) = true) (hi : (P.info? ty).map (·.size) = some cs.size)
    (hu2 : P.underlying ty2 = some d2) (hd2 : (match d2 with | .struct _ | .array _ _ => true | _ => false) = true) (hi2 : (P.info? ty2).map (·.size) = some cs2.size) :
    (results fn tmps).run P w = .ok (.tuple #[.agg cs, .agg cs2, v]) w := by
  have hp' : tmps[p]?.getD undef = .pointer (some ⟨g, 0, none⟩) := by simpa using hp
  have hq' : tmps[q]?.getD undef = .pointer (some ⟨g2, 0, none⟩) := by simpa using hp2
  have hv' : tmps[u]?.getD undef = v := by simpa using hv
  simp [results, h, hp', hq', hv', asAddr, run_loadVar_row w g t ty cs (0, 0) d hg hu hd hi, run_loadVar_row w g2 t2 ty2 cs2 (0, 0) d2 hg2 hu2 hd2 hi2]
end Go.Proofs.YtekambdnmaompaaGreat.SW
