/- Texts C27 C28 C29 C30 C31 C32 C35. -/
import Derived.Test.YtbnfnpakibkboaaGreatKJ
import Derived.Lib.Mul64
import Derived.Laws.Bits64b
import Derived.Laws.CopyOwn
import Derived.Laws.StructEq
import Derived.Test.YtbnfnpakibkboaaGreatKI
namespace Go.Proofs.YtbnfnpakibkboaaGreat
set_option linter.unusedVariables false
set_option linter.unusedSimpArgs false
open Go.RowKit

set_option maxRecDepth 100000 in
set_option maxHeartbeats 4000000 in
theorem frac_any (x y : Int) (w : World) (hy : 0 < y) (hyb : y ≤ 4000000000000000000) (hx1 : -4000000000000000000 ≤ x) (hx2 : x ≤ 4000000000000000000) :
    Calls Tryz.prog 77 #[.int .i64 x, .int .i64 y] w fun e w' => e = .returned (.agg #[.int .i64 (x / (Int.gcd x y : Int)), .int .i64 (y / (Int.gcd x y : Int))]) ∧ Below w.heap.size w w' := by
  have hb1 := (Below.refl w.heap.size w).alloc (Nat.le_refl _) (.cells #[.int .i64 0, .int .i64 0] 55)
  have q1 := Rw.new w #[.int .i64 0, .int .i64 0] 55
  have hng : IntKind.i64.wrap (-x) = -x := by rw [IntKind.wrap_i64]; omega
  have hmx : max x (-x) = ((x.natAbs : Nat) : Int) := by omega
  obtain ⟨xa, hxa⟩ : ∃ a, x.natAbs = a := ⟨_, rfl⟩
  rw [hxa] at hmx
  obtain ⟨yn, rfl⟩ : ∃ n : Nat, y = (n : Int) := ⟨y.toNat, by omega⟩
  have hgc : Int.gcd x (yn : Int) = Nat.gcd xa yn := by unfold Int.gcd; rw [hxa]; rfl
  have hg0 : 0 < Nat.gcd xa yn := Nat.gcd_pos_of_pos_right _ (by omega)
  have hdx : ((Nat.gcd xa yn : Nat) : Int) ∣ x := by rw [← hgc]; exact Int.gcd_dvd_left ..
  have hdy : ((Nat.gcd xa yn : Nat) : Int) ∣ (yn : Int) := by rw [← hgc]; exact Int.gcd_dvd_right ..
  have hgl : Nat.gcd xa yn ≤ yn := Nat.le_of_dvd (by omega) (Nat.gcd_dvd_right _ _)
  obtain ⟨g, hg⟩ : ∃ g, Nat.gcd xa yn = g := ⟨_, rfl⟩
  rw [hgc]
  rw [hg] at hg0 hdx hdy hgl ⊢
  have HG := Lib.hid hg
  obtain ⟨W1, hW1⟩ : ∃ z, w.alloc (.cells #[.int .i64 0, .int .i64 0] 55) = z := ⟨_, rfl⟩
  rw [hW1] at hb1 q1
  have HB1 := Lib.hid hb1; have HQ := Lib.hid q1
  have hxal : xa ≤ 4000000000000000000 := by omega
  have HXA := Lib.hid (And.intro hxal hyb)
  have HD := Lib.hid (And.intro hdx hdy)
  clear hb1 q1 hxa hgc hg hdx hdy hxal
  go_enter Tryz.func77, Tryz.ntmps77
  go_wp2
  go_loopw [5, 6] (fun s5 s6 wr => ∃ (a b : Nat), s5 = .int .i64 (a : Int) ∧ s6 = .int .i64 (b : Int) ∧ Nat.gcd a b = g ∧ (a : Int) ≤ 4000000000000000000 ∧ (b : Int) ≤ 4000000000000000000 ∧ Below W1.heap.size W1 wr) (fun _ s6 _ => (intOf s6).toNat)
  case atStart => exact ⟨xa, yn, by first | rfl | simp, rfl, HG.out, by have := HXA.out.1; omega, HXA.out.2, by first | exact Below.refl _ _ | trivial⟩
  case round =>
    obtain ⟨a, b, rfl, rfl, hgg, ha, hb, hbr⟩ := hrel
    by_cases hb0 : b = 0
    · have hbi : (b : Int) = 0 := by omega
      have hag : a = g := by rw [← hgg, hb0, Nat.gcd_zero_right]
      clear hgg
      subst hag
      have hdx := HD.out.1; have hdy := HD.out.2
      have hq1 : Int.tdiv x (a : Int) = x / (a : Int) := Int.tdiv_eq_ediv_of_dvd hdx
      have hq2 : Int.tdiv (yn : Int) (a : Int) = (yn : Int) / (a : Int) := Int.tdiv_eq_ediv_of_dvd hdy
      obtain ⟨p, hp⟩ : ∃ p, x / (a : Int) = p := ⟨_, rfl⟩
      obtain ⟨q, hq⟩ : ∃ q, (yn : Int) / (a : Int) = q := ⟨_, rfl⟩
      have hpb : -4000000000000000000 ≤ p ∧ p ≤ 4000000000000000000 := by
        have h1 := Int.natAbs_ediv_le_natAbs x (a : Int)
        rw [hp] at h1; omega
      have hqb : -4000000000000000000 ≤ q ∧ q ≤ 4000000000000000000 := by
        have h1 := Int.natAbs_ediv_le_natAbs (yn : Int) (a : Int)
        rw [hq] at h1; omega
      rw [hp] at hq1
      rw [hq] at hq2
      have HPQ := Lib.hid (And.intro hp hq)
      have hw1 : IntKind.i64.wrap p = p := by rw [IntKind.wrap_i64]; omega
      have hw2 : IntKind.i64.wrap q = q := by rw [IntKind.wrap_i64]; omega
      have hne : ¬ (a : Int) = 0 := by omega
      have z := HQ.out.below hbr HQ.out.lt
      have zc := z.cell; have zf := z.frozen
      have HZ := Lib.hid z; have HBR := Lib.hid hbr
      clear z hbr hp hq hdx hdy ha hb
      go_upto_region 4 with (fail)
      refine wp_region_noPanic ?_
      go_region
      refine NoPanic.normal ?_
      have HRE := Lib.hid (show Rw (((wr.setCell ⟨w.heap.size, 0, none⟩ (.int .i64 p)).setCell ⟨w.heap.size, 1, none⟩ (.int .i64 q)).drew) w.heap.size 55 #[.int .i64 p, .int .i64 q] from ((HZ.out.set 0 (.int .i64 p)).set 1 (.int .i64 q)).drew)
      have HBE := Lib.hid (show Below w.heap.size w (((wr.setCell ⟨w.heap.size, 0, none⟩ (.int .i64 p)).setCell ⟨w.heap.size, 1, none⟩ (.int .i64 q)).drew) from (((HB1.out.trans (HBR.out.mono HB1.out.size)).setCell (p := ⟨w.heap.size, 0, none⟩) (Nat.le_refl _) _).setCell (p := ⟨w.heap.size, 1, none⟩) (Nat.le_refl _) _).drew)
      (try simp only [Exit.inBlock, Exit.then])
      go_wp2
      (try simp only [Exit.inBlock, Exit.then])
      refine bodyPost_ret (res_c rfl _ _ w.heap.size 55 _ _ rfl HRE.out Tryz.underlying55 rfl rfl) rfl ?_
      exact ⟨by rw [HPQ.out.1, HPQ.out.2], HBE.out⟩
    · have hbi : ¬ (b : Int) = 0 := by omega
      have hrem : Int.tmod (a : Int) (b : Int) = ((a % b : Nat) : Int) := by rw [Int.tmod_eq_emod_of_nonneg (by omega)]; rfl
      have hml := Nat.mod_lt a (show 0 < b by omega)
      have HGG := Lib.hid (show Nat.gcd b (a % b) = g from by rw [← hgg, Nat.gcd_comm b, ← Nat.gcd_rec, Nat.gcd_comm])
      have HML := Lib.hid hml; have HBR := Lib.hid hbr; have HBB := Lib.hid hb
      obtain ⟨r, hr⟩ : ∃ r, a % b = r := ⟨_, rfl⟩
      rw [hr] at hrem hml HGG HML
      clear hgg hml hbr hr
      go_upto_region 3 with (fail)
      refine wp_region_noPanic ?_
      go_region
      refine NoPanic.normal ?_
      have HBD := Lib.hid (show Below W1.heap.size W1 wr.drew from HBR.out.drew)
      (try simp only [Exit.inBlock, Exit.then])
      go_wp2
      refine ⟨⟨b, r, rfl, rfl, HGG.out, HBB.out, by have := HML.out; have := HBB.out; omega, HBD.out⟩, ?_⟩
      have := HML.out; simp [intOf] <;> omega
end Go.Proofs.YtbnfnpakibkboaaGreat

namespace Go.Proofs.YtbnfnpakibkboaaGreat
set_option linter.unusedVariables false
set_option linter.unusedSimpArgs false
open Go.RowKit

set_option maxRecDepth 100000 in
set_option maxHeartbeats 4000000 in
theorem index94_any (A : Option Addr) (n c : Nat) (l : List Bool) (x : Bool) (w : World) (hn : l.length = n) (hm : n ≤ 1000000) (hS : Sl w w.heap.size 1 CB A l) :
    Calls Tryz.prog 94 #[.slice A n c, .bool x] w fun e w' => (∃ r : Int, e = .returned (.int .i64 r) ∧ decide (0 ≤ r) = l.any (fun y => y == x)) ∧ w = w' := by
  have HS := Lib.hid hS; have HN := Lib.hid hn
  clear hS hn
  go_enter Tryz.func94, Tryz.ntmps94
  go_wp2
  go_loopw [8] (fun sl wr => ∃ i : Nat, i ≤ n ∧ sl = .int .i64 (i : Int) ∧ (l.take i).any (fun y => y == x) = false ∧ w = wr) (fun sl _ => n - (intOf sl).toNat)
  case atStart => exact ⟨0, Nat.zero_le _, rfl, rfl, rfl⟩
  case round =>
    obtain ⟨i, hi, rfl, hb, rfl⟩ := hrel
    have HB := Lib.hid hb
    clear hb
    by_cases hin : i < n
    · have hii : (i : Int) < (n : Int) := by omega
      have hi0 : (0 : Int) ≤ (i : Int) := by omega
      have hil : i < l.length := by have := HN.out; omega
      obtain ⟨b, o, rfl, gb, c0⟩ := bool_at HS.out hil
      obtain ⟨g, hg⟩ : ∃ g, l[i] = g := ⟨_, rfl⟩
      rw [hg] at c0
      have HI := Lib.hid hin
      have HG := Lib.hid (show g ∈ l from by rw [← hg]; exact List.getElem_mem hil)
      have HTK := Lib.hid (show (l.take (i + 1)).any (fun y => y == x) = (g == x) from by
        rw [List.take_succ_eq_append_getElem hil, List.any_append, HB.out, hg]; simp)
      clear hil hg
      cases g <;> cases x
      all_goals first
        | (go_wp2
           go_ret
           refine ⟨⟨(i : Int), by first | rfl | simp, ?_⟩, rfl⟩
           rw [decide_eq_true (show (0 : Int) ≤ (i : Int) by omega)]
           exact (List.any_eq_true.2 ⟨_, HG.out, rfl⟩).symm)
        | (go_wp2
           go_roundw
           case rel => exact ⟨i + 1, by have := HI.out; omega, by simp, HTK.out, by first | rfl | trivial⟩
           case measure => have := HI.out; simp [intOf] <;> omega)
    · have hii : ¬ (i : Int) < (n : Int) := by omega
      have HE := Lib.hid (show l.any (fun y => y == x) = false from by have := HB.out; rwa [List.take_of_length_le (by have := HN.out; omega)] at this)
      go_wp2
      go_ret
      exact ⟨⟨-1, by first | rfl | simp, by rw [HE.out]; rfl⟩, rfl⟩
set_option maxRecDepth 100000 in
set_option maxHeartbeats 4000000 in
theorem contains76_any (A : Option Addr) (n c : Nat) (l : List Bool) (x : Bool) (w : World) (hn : l.length = n) (hm : n ≤ 1000000) (hS : Sl w w.heap.size 1 CB A l) :
    Calls Tryz.prog 76 #[.slice A n c, .bool x] w fun e w' => e = .returned (.bool (l.any (fun y => y == x))) ∧ w = w' := by
  have HI := Lib.hid (index94_any A n c l x w hn hm hS)
  clear hS hn
  go_enter Tryz.func76, Tryz.ntmps76
  go_wp2_with fail
  (with_reducible refine (HI.out).mono ?_)
  rintro e w3 ⟨⟨r, rfl, hr⟩, rfl⟩
  have HE := Lib.hid hr
  clear hr
  go_wp2
  go_ret
  exact ⟨by rw [← HE.out]; first | done | rfl | simp, rfl⟩
end Go.Proofs.YtbnfnpakibkboaaGreat

namespace Go.Proofs.YtbnfnpakibkboaaGreat
set_option linter.unusedVariables false
set_option linter.unusedSimpArgs false
open Go.RowKit

def cmpI (x y : Int) : Int := if x < y then -1 else if x = y then 0 else 1
theorem nanU_any (x : Int) (w : World) : Calls Tryz.prog 151 #[.int .u64 x] w fun e w' => e = .returned (.bool false) ∧ w = w' := by
  go_enter Tryz.func151, Tryz.ntmps151
  go_wp2
  go_ret
  exact ⟨rfl, rfl⟩
set_option maxHeartbeats 1000000 in
theorem compareU_any (x y : Int) (w : World) : Calls Tryz.prog 137 #[.int .u64 x, .int .u64 y] w fun e w' => e = .returned (.int .i64 (cmpI x y)) ∧ w = w' := by
  have HC := Lib.hid (show cmpI x y = if x < y then -1 else if x = y then 0 else 1 from rfl)
  by_cases h1 : x < y
  · have HV := Lib.hid (show cmpI x y = -1 by rw [HC.out, if_pos h1])
    clear HC
    go_enter Tryz.func137, Tryz.ntmps137
    go_wp2_with fail
    refine (nanU_any _ _).mono ?_
    rintro e w1 ⟨rfl, rfl⟩
    go_wp2_with fail
    refine (nanU_any _ _).mono ?_
    rintro e w1 ⟨rfl, rfl⟩
    go_wp2
    go_ret
    exact ⟨by rw [HV.out]; rfl, rfl⟩
  · by_cases h2 : y < x
    · have HV := Lib.hid (show cmpI x y = 1 by rw [HC.out, if_neg h1, if_neg (by omega)])
      clear HC
      go_enter Tryz.func137, Tryz.ntmps137
      go_wp2_with fail
      refine (nanU_any _ _).mono ?_
      rintro e w1 ⟨rfl, rfl⟩
      go_wp2_with fail
      refine (nanU_any _ _).mono ?_
      rintro e w1 ⟨rfl, rfl⟩
      go_wp2
      go_ret
      exact ⟨by rw [HV.out]; rfl, rfl⟩
    · have HV := Lib.hid (show cmpI x y = 0 by rw [HC.out, if_neg h1, if_pos (by omega)])
      clear HC
      go_enter Tryz.func137, Tryz.ntmps137
      go_wp2_with fail
      refine (nanU_any _ _).mono ?_
      rintro e w1 ⟨rfl, rfl⟩
      go_wp2_with fail
      refine (nanU_any _ _).mono ?_
      rintro e w1 ⟨rfl, rfl⟩
      go_wp2
      go_ret
      exact ⟨by rw [HV.out]; rfl, rfl⟩
/-- the first of two numbers that is not 0 -/
def orI (a b : Int) : Int := if a ≠ 0 then a else b
set_option maxHeartbeats 1000000 in
theorem or_any (g : Nat) (a b : Int) (w : World) (h0 : w.cell? ⟨g, 0, none⟩ = some (.int .i64 a)) (h1 : w.cell? ⟨g, 1, none⟩ = some (.int .i64 b)) :
    Calls Tryz.prog 136 #[.slice (some ⟨g, 0, none⟩) 2 2] w fun e w' => e = .returned (.int .i64 (orI a b)) ∧ w = w' := by
  have HO := Lib.hid (show orI a b = if a ≠ 0 then a else b from rfl)
  go_enter Tryz.func136, Tryz.ntmps136
  go_wp2
  go_loop [8] (fun s => ∃ i : Nat, i ≤ 2 ∧ s = .int .i64 (i : Int) ∧ (1 ≤ i → a = 0) ∧ (2 ≤ i → b = 0)) (fun s => 2 - (intOf s).toNat)
  case atStart => exact ⟨0, by omega, rfl, (fun h => by omega), fun h => by omega⟩
  case round =>
    obtain ⟨i, hi, rfl, h3, h4⟩ := hrel
    rcases (show i = 0 ∨ i = 1 ∨ i = 2 by omega) with rfl | rfl | rfl
    · clear h3 h4
      by_cases ha : a = 0
      · have HA := Lib.hid ha
        have ha2 : (a != 0) = false := by simp [ha]
        clear ha
        go_wp2
        go_round
        case rel => exact ⟨1, by omega, rfl, (fun _ => HA.out), fun h => by omega⟩
        case measure => simp [intOf]
      · have HV := Lib.hid (show orI a b = a by rw [HO.out, if_pos ha])
        have ha2 : (a != 0) = true := by simp [ha]
        go_wp2
        go_ret
        exact ⟨by rw [HV.out]; rfl, rfl⟩
    · have ha := h3 (by omega)
      clear h3 h4
      by_cases hb : b = 0
      · have HA := Lib.hid ha
        have HBB := Lib.hid hb
        have hb2 : (b != 0) = false := by simp [hb]
        clear ha hb
        go_wp2
        go_round
        case rel => exact ⟨2, by omega, rfl, (fun _ => HA.out), fun _ => HBB.out⟩
        case measure => simp [intOf]
      · have HV := Lib.hid (show orI a b = b by rw [HO.out, if_neg (by simp [ha])])
        have hb2 : (b != 0) = true := by simp [hb]
        clear ha
        go_wp2
        go_ret
        exact ⟨by rw [HV.out]; rfl, rfl⟩
    · have HV := Lib.hid (show orI a b = 0 by rw [HO.out, if_neg (by simp [h3 (by omega)]), h4 (by omega)])
      clear h3 h4
      go_wp2
      go_ret
      exact ⟨by rw [HV.out]; rfl, rfl⟩
/-- product of two words -/
theorem u_mask (a : Nat) (ha : a < 18446744073709551616) : bits .and .u64 (a : Int) 4294967295 = ((a % 4294967296 : Nat) : Int) := by
  have h := bits_and_u64_nat a 4294967295 ha (by omega)
  rwa [show a &&& 4294967295 = a % 4294967296 from Nat.and_two_pow_sub_one_eq_mod a 32] at h
theorem u_wrap {a : Nat} (ha : a < 18446744073709551616) : IntKind.u64.wrap (a : Int) = (a : Int) := by rw [IntKind.wrap_u64]; omega
theorem u_rest (a : Nat) : IntKind.u64.wrap (a : Int) = ((a % 18446744073709551616 : Nat) : Int) := by rw [IntKind.wrap_u64]; omega
theorem u_half (a : Nat) : (a : Int) / 4294967296 = ((a / 4294967296 : Nat) : Int) := by omega
set_option maxHeartbeats 1000000 in
theorem mul64_any (x y : Nat) (hx : x < 18446744073709551616) (hy : y < 18446744073709551616) (w : World) :
    Calls Tryz.prog 129 #[.int .u64 x, .int .u64 y] w fun e w' => e = .returned (.tuple #[.int .u64 ((x * y / 18446744073709551616 : Nat) : Int), .int .u64 ((x * y % 18446744073709551616 : Nat) : Int)]) ∧ w = w' := by
  obtain ⟨bd, bt, bw, hhi⟩ := Lib.mul64_hi x y hx hy
  have ba := Lib.half_mul_le (a := x / 4294967296) (b := y / 4294967296) (by omega) (by omega)
  have bb := Lib.half_mul_le (a := x / 4294967296) (b := y % 4294967296) (by omega) (by omega)
  have bc := Lib.half_mul_le (a := x % 4294967296) (b := y / 4294967296) (by omega) (by omega)
  go_enter Tryz.func129, Tryz.ntmps129
  go_wp2
  simp only [u_mask x hx, u_mask y hy, u_half, ← Int.natCast_mul, ← Int.natCast_add, u_wrap bd, u_wrap (show x / 4294967296 * (y % 4294967296) < 18446744073709551616 by omega), u_wrap bt, u_mask _ bt, u_wrap (show x % 4294967296 * (y / 4294967296) < 18446744073709551616 by omega), u_wrap bw, u_wrap (show x / 4294967296 * (y / 4294967296) < 18446744073709551616 by omega),
    u_wrap (show x / 4294967296 * (y / 4294967296) + (x / 4294967296 * (y % 4294967296) + x % 4294967296 * (y % 4294967296) / 4294967296) / 4294967296 < 18446744073709551616 by omega),
    u_wrap (show x / 4294967296 * (y / 4294967296) + (x / 4294967296 * (y % 4294967296) + x % 4294967296 * (y % 4294967296) / 4294967296) / 4294967296 + ((x / 4294967296 * (y % 4294967296) + x % 4294967296 * (y % 4294967296) / 4294967296) % 4294967296 + x % 4294967296 * (y / 4294967296)) / 4294967296 < 18446744073709551616 by omega), u_rest (x * y)]
  rw [hhi]
  go_ret2
  exact ⟨rfl, rfl⟩
/-- comparing two words after two words is comparing the numbers -/
theorem or_words (p q : Nat) : orI (cmpI ((p / 18446744073709551616 : Nat) : Int) ((q / 18446744073709551616 : Nat) : Int)) (cmpI ((p % 18446744073709551616 : Nat) : Int) ((q % 18446744073709551616 : Nat) : Int)) = cmpI (p : Int) (q : Int) := by
  unfold orI cmpI
  have := Nat.div_add_mod p 18446744073709551616
  have := Nat.div_add_mod q 18446744073709551616
  have := Nat.mod_lt p (show 0 < 18446744073709551616 by omega)
  have := Nat.mod_lt q (show 0 < 18446744073709551616 by omega)
  generalize p / 18446744073709551616 = a at *
  generalize p % 18446744073709551616 = b at *
  generalize q / 18446744073709551616 = c at *
  generalize q % 18446744073709551616 = d at *
  split <;> split <;> (try split) <;> (try split) <;> (try split) <;> omega
set_option maxRecDepth 100000 in
set_option maxHeartbeats 4000000 in
theorem compare_any (x y u v : Nat) (hx : x < 9223372036854775808) (hy : y < 9223372036854775808) (hu : u < 9223372036854775808) (hv : v < 9223372036854775808) (w : World) :
    Calls Tryz.prog 116 #[.int .i64 (x : Int), .int .i64 (y : Int), .int .i64 (u : Int), .int .i64 (v : Int)] w fun e w' => e = .returned (.int .i64 (cmpI ((x * v : Nat) : Int) ((u * y : Nat) : Int))) ∧ Below w.heap.size w w' := by
  have H1 := Lib.hid (mul64_any x v (by omega) (by omega) w)
  have H2 := Lib.hid (mul64_any u y (by omega) (by omega) w)
  have HOW := Lib.hid (or_words (x * v) (u * y))
  generalize ((x * v / 18446744073709551616 : Nat) : Int) = a at H1 HOW
  generalize ((x * v % 18446744073709551616 : Nat) : Int) = b at H1 HOW
  generalize ((u * y / 18446744073709551616 : Nat) : Int) = c at H2 HOW
  generalize ((u * y % 18446744073709551616 : Nat) : Int) = d at H2 HOW
  have hwx : IntKind.u64.wrap (x : Int) = (x : Int) := u_wrap (by omega)
  have hwy : IntKind.u64.wrap (y : Int) = (y : Int) := u_wrap (by omega)
  have hwu : IntKind.u64.wrap (u : Int) = (u : Int) := u_wrap (by omega)
  have hwv : IntKind.u64.wrap (v : Int) = (v : Int) := u_wrap (by omega)
  have H3 := Lib.hid (compareU_any a c w); have H4 := Lib.hid (compareU_any b d w)
  obtain ⟨p, hp⟩ : ∃ p, cmpI a c = p := ⟨_, rfl⟩
  obtain ⟨q, hq⟩ : ∃ q, cmpI b d = q := ⟨_, rfl⟩
  rw [hp] at H3 HOW
  rw [hq] at H4 HOW
  have hb1 := (Below.refl w.heap.size w).alloc (Nat.le_refl _) (.cells #[.int .i64 p, .int .i64 q] 3)
  have q1 := Rw.new w #[.int .i64 p, .int .i64 q] 3
  have H5 := Lib.hid (or_any w.heap.size p q (w.alloc (.cells #[.int .i64 p, .int .i64 q] 3)) (q1.cell 0) (q1.cell 1))
  have HB := Lib.hid hb1
  clear hp hq hb1 q1 hx hy hu hv
  go_enter Tryz.func116, Tryz.ntmps116
  go_wp2_with fail
  (with_reducible refine (H1.out).mono ?_)
  rintro e w1 ⟨rfl, rfl⟩
  go_wp2_with fail
  (with_reducible refine (H2.out).mono ?_)
  rintro e w1 ⟨rfl, rfl⟩
  go_wp2_with fail
  (with_reducible refine (H3.out).mono ?_)
  rintro e w1 ⟨rfl, rfl⟩
  go_wp2_with fail
  (with_reducible refine (H4.out).mono ?_)
  rintro e w1 ⟨rfl, rfl⟩
  go_wp2_with fail
  (with_reducible refine (H5.out).mono ?_)
  rintro e w1 ⟨rfl, rfl⟩
  go_wp2
  go_ret
  exact ⟨by rw [← HOW.out]; rfl, HB.out⟩
end Go.Proofs.YtbnfnpakibkboaaGreat

namespace Go.Proofs.YtbnfnpakibkboaaGreat
set_option linter.unusedVariables false
set_option linter.unusedSimpArgs false
open Go.RowKit

theorem mulW_any (x y : Nat) (hx : x < 18446744073709551616) (hy : y < 18446744073709551616) (w : World) :
    Calls Tryz.prog 107 #[.int .u64 x, .int .u64 y] w fun e w' => e = .returned (.tuple #[.int .u64 ((x * y / 18446744073709551616 : Nat) : Int), .int .u64 ((x * y % 18446744073709551616 : Nat) : Int)]) ∧ w = w' := by
  obtain ⟨hi, hhi⟩ : ∃ z, x * y / 18446744073709551616 = z := ⟨_, rfl⟩
  obtain ⟨lo, hlo⟩ : ∃ z, x * y % 18446744073709551616 = z := ⟨_, rfl⟩
  have HM := Lib.hid (mul64_any x y hx hy w)
  rw [hhi, hlo] at HM
  rw [hhi, hlo]
  clear hhi hlo
  go_enter Tryz.func107, Tryz.ntmps107
  go_wp2_with fail
  (with_reducible refine (HM.out).mono ?_)
  rintro e w1 ⟨rfl, rfl⟩
  go_wp2
  go_ret2
  exact ⟨rfl, rfl⟩
theorem run_copy_sp {P : Program} {w : World} (dT sT ty : TypeId) (elem : TypeId) (hu : P.underlying dT = some (.slice elem)) (hsz : (P.info? elem).map (·.size) = some 1)
    (dp sp : Option Addr) (dLen dCap sLen sCap : Nat) (g off : Nat) (cur : List Value) (t : TypeId) (hg : w.heap[g]? = some (.cells cur.toArray t (0, 0))) (cs : List Value) (hn : cs.length = Nat.min sLen dLen)
    (hpos : 0 < cs.length → dp = some ⟨g, off, none⟩ ∧ ∃ ad, sp = some ad ∧ ∀ j v, cs[j]? = some v → w.cell? (ad.add j) = some v)
    (hfit : off + cs.length ≤ cur.length) (h1 : ∀ v ∈ cs, v.oneCell' = true) (B : Nat) (w0 : World) (hb : Below B w0 w) (hBg : B ≤ g) :
    ∃ w', (Builtin.copy_ #[dT, sT] ty #[.slice dp dLen dCap, .slice sp sLen sCap]).run P w = .ok (goInt cs.length) w' ∧ w'.heap[g]? = some (.cells (splice cur off cs).toArray t (0, 0)) ∧ Below B w0 w' := by
  by_cases h0 : cs.length = 0
  · obtain rfl : cs = [] := List.eq_nil_of_length_eq_zero h0
    exact ⟨w, run_copy_none (P := P) w dT sT ty elem dp sp dLen dCap sLen sCap hu hsz (by simpa using hn.symm), by simpa [splice] using hg, hb⟩
  · obtain ⟨rfl, ad, rfl, hsrc⟩ := hpos (by omega)
    exact ⟨_, run_copy_row (P := P) w dT sT ty elem g off dLen dCap ad sLen sCap cur.toArray t cs hu hsz hg hn hsrc (by simpa using hfit) h1, by simpa [splice] using setRow_heap w g _ _ t _ hg, below_setRow hb hBg _⟩
theorem own_reps {w : World} {base mb m : Nat} (hb : base ≤ mb) (hm : m ≤ maxLen) (h : Rw w mb 4 (List.replicate m (Value.bool true)).toArray) : Own w base 4 1 fB (.slice (some ⟨mb, 0, none⟩) m m) (List.replicate m true) := by
  have e : ∀ m : Nat, (List.replicate m true).flatMap fB = List.replicate m (Value.bool true) := fun m => by
    induction m with
    | zero => rfl
    | succ m ih => rw [List.replicate_succ, List.flatMap_cons, ih]; rfl
  unfold Own
  rw [List.length_replicate, e]
  exact ⟨by simp, .inr ⟨mb, m, _, rfl, hb, h, Nat.le_refl _, hm, by simp, by simp⟩⟩
/-- m truths, the first k of them true -/
def reps (k m : Nat) : List Value := List.replicate k (Value.bool true) ++ List.replicate (m - k) (Value.bool false)
theorem reps_len {k m : Nat} (h : k ≤ m) : (reps k m).length = m := by unfold reps; simp; omega
theorem reps_splice {k j m : Nat} (h : k + j ≤ m) : splice (reps k m) k (List.replicate j (Value.bool true)) = reps (k + j) m := by
  unfold splice reps
  have e1 : (List.replicate k (Value.bool true) ++ List.replicate (m - k) (Value.bool false)).take k = List.replicate k (Value.bool true) := by
    rw [List.take_append_of_le_length (by simp)]; simp
  have e2 : (List.replicate k (Value.bool true) ++ List.replicate (m - k) (Value.bool false)).drop (k + j) = List.replicate (m - (k + j)) (Value.bool false) := by
    rw [List.drop_append, List.drop_of_length_le (by simp)]; simp; omega
  rw [List.length_replicate, e1, e2, ← List.append_assoc, List.replicate_append_replicate]
set_option maxRecDepth 100000 in
set_option maxHeartbeats 8000000 in
theorem repeat_any (A : Option Addr) (c m : Nat) (w : World) (hm : m ≤ 100000) (hS : Sl w w.heap.size 1 CB A [true]) :
    Calls Tryz.prog 92 #[.slice A 1 c, .int .i64 (m : Int)] w fun e w' => ∃ A2 : Option Addr, e = .returned (.slice A2 m m) ∧ Own w' w.heap.size 4 1 fB (.slice A2 m m) (List.replicate m true) ∧ Below w.heap.size w w' := by
  obtain ⟨i4, hi4, hz4, hs4, hy4⟩ := info_parts info4
  have hmk := fun W : World => run_mk (P := Tryz.prog) 26 4 i4 _ 1 Tryz.underlying26 hi4 hz4 hs4 (m : Int) (m : Int) m m rfl rfl (by omega) (by rw [hy4]; omega) (by omega) W
  have H1 := Lib.hid (show Calls Tryz.prog 107 #[.int .u64 1, .int .u64 (m : Int)] w fun e w' => e = .returned (.tuple #[.int .u64 0, .int .u64 (m : Int)]) ∧ w = w' from by
    have h := mulW_any 1 m (by omega) (by omega) w
    rw [show 1 * m / 18446744073709551616 = 0 from by omega, show 1 * m % 18446744073709551616 = m from by omega] at h
    exact h)
  have hw1 : IntKind.u64.wrap (m : Int) = (m : Int) := by rw [IntKind.wrap_u64]; omega
  have hw2 : IntKind.i64.wrap (m : Int) = (m : Int) := by rw [IntKind.wrap_i64]; omega
  have hm0 : ¬ (m : Int) < 0 := by omega
  have hm1 : ¬ (9223372036854775807 : Int) < (m : Int) := by omega
  have HS := Lib.hid hS
  clear hS
  go_enter Tryz.func92, Tryz.ntmps92
  go_wp2_with fail
  (with_reducible refine (H1.out).mono ?_)
  rintro e w1 ⟨rfl, rfl⟩
  go_upto_region 7 with (fail)
  have hgr : (w.alloc (.cells (madeCells #[.bool false] m) 4)).heap[w.heap.size]? = some (.cells (reps 0 m).toArray 4 (0, 0)) := by
    rw [(MapKept.heap_alloc w _).1]
    have e : madeCells #[Value.bool false] m = (reps 0 m).toArray := by
      apply Array.toList_inj.1
      rw [toList_madeCells_one]; unfold reps; simp
    rw [e]
  have hb1 := (Below.refl w.heap.size w).alloc (Nat.le_refl _) (.cells (madeCells #[.bool false] m) 4)
  have HS1 := Lib.hid (HS.out.below hb1)
  obtain ⟨W1, hW1⟩ : ∃ z, w.alloc (.cells (madeCells #[.bool false] m) 4) = z := ⟨_, rfl⟩
  rw [hW1] at hgr hb1 HS1 ⊢
  obtain ⟨k0, hk0⟩ : ∃ k0, min 1 m = k0 := ⟨_, rfl⟩
  have HG1 := Lib.hid hgr; have HB1 := Lib.hid hb1; have HK0 := Lib.hid hk0
  have hsz4 : (Tryz.prog.info? 4).map (·.size) = some 1 := by rw [hi4]; simp [hs4]
  obtain ⟨b1, o1, hA, gb1, d1⟩ := bool_at (l := [true]) HS1.out (i := 0) (by simp)
  have HA := Lib.hid hA
  have HD1 := Lib.hid (show W1.cell? ⟨b1, o1, none⟩ = some (.bool true) from d1)
  clear hgr hb1 hW1 hk0 hmk hA gb1 d1
  obtain ⟨w2, hcp, hg2, hb2⟩ := run_copy_sp (P := Tryz.prog) (w := W1) 26 26 3 4 Tryz.underlying26 hsz4 (some ⟨w.heap.size, 0, none⟩) A m m 1 c w.heap.size 0 (reps 0 m) 4 HG1.out (List.replicate k0 (.bool true)) (by rw [List.length_replicate]; exact HK0.out.symm) (fun hp => ⟨rfl, ⟨b1, o1, none⟩, HA.out, fun j v hj => by
    have hj0 : j = 0 := by have := (List.getElem?_eq_some_iff.1 hj).1; rw [List.length_replicate] at this; have := HK0.out; omega
    subst hj0
    have hv : v = .bool true := by have := List.mem_of_getElem? hj; exact (List.mem_replicate.1 this).2
    rw [hv]; exact HD1.out⟩) (by rw [List.length_replicate, reps_len (Nat.zero_le _)]; have := HK0.out; omega) (fun v hv => by rw [(List.mem_replicate.1 hv).2]; rfl) w.heap.size w HB1.out (Nat.le_refl _)
  rw [reps_splice (by have := HK0.out; omega), Nat.zero_add] at hg2
  rw [List.length_replicate] at hcp
  unfold goInt at hcp
  obtain ⟨mb, hmb⟩ : ∃ z, w.heap.size = z := ⟨_, rfl⟩
  rw [hmb] at hg2 hcp ⊢
  have HG2 := Lib.hid hg2; have HB2 := Lib.hid hb2; have HMB := Lib.hid hmb
  clear hg2 hb2 hmb
  go_wp2
  clear hcp
  go_loopw [8] (fun s8 wr => ∃ k : Nat, k0 ≤ k ∧ k ≤ m ∧ s8 = .int .i64 (k : Int) ∧ Hid (Rw wr mb 4 (reps k m).toArray) ∧ Below w.heap.size w wr) (fun s8 _ => m - (intOf s8).toNat)
  case atStart => exact ⟨k0, Nat.le_refl _, by have := HK0.out; omega, rfl, HG2, HB2.out⟩
  case round =>
    obtain ⟨k, hk0, hk, rfl, hgk, hbk⟩ := hrel
    by_cases hkm : k < m
    · have hki : (k : Int) < (m : Int) := by omega
      have hkz : (0 : Int) ≤ (k : Int) := by omega
      have hkle : (k : Int) ≤ (m : Int) := by omega
      have hk1 : 1 ≤ k := by have := HK0.out; omega
      have hml : mb < wr.heap.size := Rw.lt (show Rw wr mb 4 (reps k m).toArray from hgk)
      obtain ⟨j, hj⟩ : ∃ j, Nat.min k (m - k) = j := ⟨_, rfl⟩
      have hj1 : 1 ≤ j ∧ j ≤ k ∧ j ≤ m - k := by
        have h := hj
        rw [show Nat.min k (m - k) = min k (m - k) from rfl] at h
        omega
      have hgd : (wr.drew).heap[mb]? = some (.cells (reps k m).toArray 4 (0, 0)) := hgk
      obtain ⟨w3, hcp, hg3, hb3⟩ := run_copy_sp (P := Tryz.prog) (w := wr.drew) 26 26 3 4 Tryz.underlying26 hsz4 (some ⟨mb, k, none⟩) (some ⟨mb, 0, none⟩) (m - k) (m - k) k m mb k (reps k m) 4 hgd (List.replicate j (.bool true)) (by rw [List.length_replicate]; exact hj.symm) (fun hp => ⟨rfl, ⟨mb, 0, none⟩, rfl, fun i v hi => by
        have hi0 := (List.getElem?_eq_some_iff.1 hi).1
        rw [List.length_replicate] at hi0
        have hv : v = .bool true := by have := List.mem_of_getElem? hi; exact (List.mem_replicate.1 this).2
        have hc := (show Rw wr.drew mb 4 (reps k m).toArray from hgd).cell i
        rw [hv]
        have he : (reps k m).toArray[i]? = some (Value.bool true) := by
          unfold reps
          rw [List.getElem?_toArray, List.getElem?_append_left (by simp; omega), List.getElem?_replicate, if_pos (by omega)]
        rw [he] at hc
        have ha : (⟨mb, 0, none⟩ : Addr).add i = ⟨mb, i, none⟩ := by simp [Addr.add]; exact fun h => h.symm
        rw [ha]; exact hc⟩) (by rw [List.length_replicate, reps_len (by omega)]; omega) (fun v hv => by rw [(List.mem_replicate.1 hv).2]; rfl) w.heap.size w hbk.drew (by have := HMB.out; omega)
      rw [reps_splice (by omega)] at hg3
      rw [List.length_replicate] at hcp
      unfold goInt at hcp
      have HG3 := Lib.hid hg3; have HB3 := Lib.hid hb3; have HJ := Lib.hid hj1; have HKM := Lib.hid hkm
      clear hgk hgd hg3 hb3 hj hbk
      go_upto_region 9 with (fail)
      refine wp_region_noPanic ?_
      go_region
      refine NoPanic.normal ?_
      clear hcp
      (try simp only [Exit.inBlock, Exit.then])
      go_wp2
      refine ⟨⟨k + j, by have := HJ.out; omega, by have := HJ.out; omega, by simp, HG3.out, HB3.out⟩, ?_⟩
      have := HJ.out; have := HKM.out; simp [intOf] <;> omega
    · have hki : ¬ (k : Int) < (m : Int) := by omega
      have hkm2 : k = m := by omega
      subst hkm2
      have HO := Lib.hid (own_reps (base := w.heap.size) (w := wr) (mb := mb) (m := k) (by have := HMB.out; omega) (by unfold maxLen; omega) (by have h : Rw wr mb 4 (reps k k).toArray := hgk; unfold reps at h; simpa using h))
      have HBE := Lib.hid hbk
      clear hgk hbk
      go_wp2
      go_ret
      exact ⟨some ⟨mb, 0, none⟩, rfl, HO.out, HBE.out⟩
end Go.Proofs.YtbnfnpakibkboaaGreat

namespace Go.Proofs.YtbnfnpakibkboaaGreat
set_option linter.unusedVariables false
set_option linter.unusedSimpArgs false
open Go.RowKit

set_option maxRecDepth 100000 in
set_option maxHeartbeats 4000000 in
theorem requal_any (A B : Option Addr) (n m c d : Nat) (l k : List Int) (w : World) (hn : l.length = n) (hm : k.length = m) (hn2 : n ≤ 1000000) (hm2 : m ≤ 1000000) (hS : Sl w w.heap.size 1 CI A l) (hT : Sl w w.heap.size 1 CI B k) :
    Calls Tryz.prog 21 #[.slice A n c, .slice B m d] w fun e w' => e = .returned (.bool (decide (l = k))) ∧ Below w.heap.size w w' := by
  have HS := Lib.hid hS; have HT := Lib.hid hT; have HN := Lib.hid hn; have HM := Lib.hid hm
  clear hS hT hn hm
  by_cases hnm : n = m
  · subst hnm
    go_enter Tryz.func21, Tryz.ntmps21
    go_wp2
    go_loopw [5] (fun sl wr => ∃ i : Nat, i ≤ n ∧ sl = .int .i64 (i : Int) ∧ l.take i = k.take i ∧ Below w.heap.size w wr) (fun sl _ => n - (intOf sl).toNat)
    case atStart => exact ⟨0, Nat.zero_le _, rfl, rfl, Below.refl _ _⟩
    case round =>
      obtain ⟨i, hi, rfl, hb, hbr⟩ := hrel
      have HB := Lib.hid hb; have HBR := Lib.hid hbr
      clear hb
      by_cases hin : i < n
      · have hii : (i : Int) < (n : Int) := by omega
        have hi0 : (0 : Int) ≤ (i : Int) := by omega
        have hil : i < l.length := by have := HN.out; omega
        have hik : i < k.length := by have := HM.out; omega
        obtain ⟨b, o, rfl, gb, c0⟩ := int_at (HS.out.below hbr) hil
        obtain ⟨b', o', rfl, gb', c0'⟩ := int_at (HT.out.below hbr) hik
        obtain ⟨g, hg⟩ : ∃ g, l[i] = g := ⟨_, rfl⟩
        obtain ⟨h, hh⟩ : ∃ g, k[i] = g := ⟨_, rfl⟩
        rw [hg] at c0
        rw [hh] at c0'
        have HI := Lib.hid hin
        by_cases hx : g = h
        · have HTK := Lib.hid (show l.take (i + 1) = k.take (i + 1) from by rw [List.take_succ_eq_append_getElem hil, List.take_succ_eq_append_getElem hik, HB.out, hg, hh, hx])
          subst hx
          clear hil hik hg hh hbr
          go_upto_region 6 with (fail)
          refine wp_region_noPanic ?_
          go_region
          refine NoPanic.normal ?_
          have HBD := Lib.hid (show Below w.heap.size w wr.drew from HBR.out.drew)
          (try simp only [Exit.inBlock, Exit.then])
          go_wp2
          refine ⟨⟨i + 1, by have := HI.out; omega, by simp, HTK.out, HBD.out⟩, ?_⟩
          have := HI.out; simp [intOf] <;> omega
        · have HE := Lib.hid (show ¬ l = k from fun e => by subst e; rw [hg] at hh; exact hx hh)
          have hbe : (g != h) = true := by simp [hx]
          have hbe' : (g == h) = false := by simp [hx]
          clear hil hik hg hh hbr
          go_upto_region 6 with (fail)
          refine wp_region_noPanic ?_
          go_region
          refine NoPanic.normal ?_
          have HBD := Lib.hid (show Below w.heap.size w wr.drew from HBR.out.drew)
          (try simp only [Exit.inBlock, Exit.then])
          go_wp2
          go_ret
          exact ⟨by rw [decide_eq_false HE.out]; rfl, HBD.out⟩
      · have hii : ¬ (i : Int) < (n : Int) := by omega
        have HE := Lib.hid (show l = k from by
          have h := HB.out
          rw [List.take_of_length_le (by have := HN.out; omega), List.take_of_length_le (by have := HM.out; omega)] at h; exact h)
        clear hbr
        go_wp2
        go_ret
        exact ⟨by rw [decide_eq_true HE.out]; rfl, HBR.out⟩
  · have HE := Lib.hid (show ¬ l = k from fun e => by have := HN.out; have := HM.out; subst e; omega)
    have hnm' : ¬ (n : Int) = (m : Int) := by omega
    have hbe : ((n : Int) != (m : Int)) = true := bne_iff_ne.2 hnm'
    go_enter Tryz.func21, Tryz.ntmps21
    go_wp2
    go_ret
    exact ⟨by rw [decide_eq_false HE.out]; rfl, Below.refl _ _⟩
end Go.Proofs.YtbnfnpakibkboaaGreat

namespace Go.Proofs.YtbnfnpakibkboaaGreat
set_option linter.unusedVariables false
set_option linter.unusedSimpArgs false
open Go.RowKit

def fQ (x : Int × Int) : List Value := [.int .i64 x.1, .int .i64 x.2]
def CQ (x : Int × Int) (cs : List Value) : Prop := cs = fQ x
theorem frac_at {w : World} {B : Nat} {A : Option Addr} {l : List (Int × Int)} (h : Sl w B 2 CQ A l) {i : Nat} (hi : i < l.length) :
    ∃ b off, A = some ⟨b, off, none⟩ ∧ b < B ∧ w.cell? ⟨b, off + i * 2, none⟩ = some (.int .i64 l[i].1) ∧ w.cell? ⟨b, off + i * 2 + 1, none⟩ = some (.int .i64 l[i].2) := by
  obtain ⟨b, off, cs, e, hb, rfl, hc⟩ := h.at_ hi
  exact ⟨b, off, e, hb, hc 0 _ rfl, hc 1 _ rfl⟩
end Go.Proofs.YtbnfnpakibkboaaGreat

namespace Go.Proofs.YtbnfnpakibkboaaGreat
set_option linter.unusedVariables false
set_option linter.unusedSimpArgs false
open Go.RowKit

/-- a circuit's five slices; a solution's two slices and its divisor -/
structure Ci where
  s1 : Sc
  s2 : Sc
  s3 : Sc
  so : Sc
  sk : Sc
def fCi (x : Ci) : List Value := [x.s1.v, x.s2.v, x.s3.v, x.so.v, x.sk.v]
structure Vi where
  sv : Sc
  sa : Sc
  d : Int
def fVi (x : Vi) : List Value := [x.sv.v, x.sa.v, .int .i64 x.d]
def cell5 (C : Nat → Ci) (k : Nat) : Value := ((fCi (C (k / 5)))[k % 5]?).getD undef
def cell3 (V : Nat → Vi) (k : Nat) : Value := ((fVi (V (k / 3)))[k % 3]?).getD undef
theorem cell5_at (C : Nat → Ci) (i j : Nat) (hj : j < 5) : cell5 C (i * 5 + j) = ((fCi (C i))[j]?).getD undef := by
  unfold cell5; rw [show (i * 5 + j) / 5 = i from by omega, show (i * 5 + j) % 5 = j from by omega]
theorem cell3_at (V : Nat → Vi) (i j : Nat) (hj : j < 3) : cell3 V (i * 3 + j) = ((fVi (V i))[j]?).getD undef := by
  unfold cell3; rw [show (i * 3 + j) / 3 = i from by omega, show (i * 3 + j) % 3 = j from by omega]
/-- what a settling's block holds -/
structure SL where
  N : Nat
  wires : Sc
  feeds : Sc
  least : Int
  fon : Sc
  sw : Sc
  loads : Sc
  run : Sc
  parts : Sc
  pof : Sc
  cb : Nat
  vb : Nat
  kb : Nat
  np : Nat
def fSet (x : SL) : Array Value := #[.int .i64 (x.N : Int), x.wires.v, x.feeds.v, .int .i64 x.least, x.fon.v, x.sw.v, x.loads.v, x.run.v, x.parts.v, x.pof.v, .slice (some ⟨x.cb, 0, none⟩) x.np x.np, .slice (some ⟨x.vb, 0, none⟩) x.np x.np, .slice (some ⟨x.kb, 0, none⟩) x.np x.np]
/-- the rows of a settling in memory -/
structure StR (w : World) (sb : Nat) (x : SL) (C : Nat → Ci) (V : Nat → Vi) (K : Nat → Bool) : Prop where
  r : Rw w sb 110 (fSet x)
  c : Rf w x.cb 134 (x.np * 5) (cell5 C)
  v : Rf w x.vb 136 (x.np * 3) (cell3 V)
  k : Rf w x.kb 4 x.np (fun i => .bool (K i))
theorem StR.below {w w' : World} {sb : Nat} {x : SL} {C : Nat → Ci} {V : Nat → Vi} {K : Nat → Bool} (h : StR w sb x C V K) (hb : Below w.heap.size w w') : StR w' sb x C V K :=
  ⟨h.r.below hb h.r.lt, h.c.below hb h.c.lt, h.v.below hb h.v.lt, h.k.below hb h.k.lt⟩
theorem StR.c5 {w : World} {sb : Nat} {x : SL} {C : Nat → Ci} {V : Nat → Vi} {K : Nat → Bool} (h : StR w sb x C V K) {i : Nat} (hi : i < x.np) :
    w.cell? ⟨x.cb, i * 5, none⟩ = some (C i).s1.v ∧ w.cell? ⟨x.cb, i * 5 + 1, none⟩ = some (C i).s2.v ∧ w.cell? ⟨x.cb, i * 5 + 2, none⟩ = some (C i).s3.v ∧ w.cell? ⟨x.cb, i * 5 + 3, none⟩ = some (C i).so.v ∧ w.cell? ⟨x.cb, i * 5 + 4, none⟩ = some (C i).sk.v := by
  have e := fun j (hj : j < 5) => (h.c.cell (show i * 5 + j < x.np * 5 by omega)).trans (congrArg some (cell5_at C i j hj))
  exact ⟨e 0 (by omega), e 1 (by omega), e 2 (by omega), e 3 (by omega), e 4 (by omega)⟩
theorem StR.v3 {w : World} {sb : Nat} {x : SL} {C : Nat → Ci} {V : Nat → Vi} {K : Nat → Bool} (h : StR w sb x C V K) {i : Nat} (hi : i < x.np) :
    w.cell? ⟨x.vb, i * 3, none⟩ = some (V i).sv.v ∧ w.cell? ⟨x.vb, i * 3 + 1, none⟩ = some (V i).sa.v ∧ w.cell? ⟨x.vb, i * 3 + 2, none⟩ = some (.int .i64 (V i).d) := by
  have e := fun j (hj : j < 3) => (h.v.cell (show i * 3 + j < x.np * 3 by omega)).trans (congrArg some (cell3_at V i j hj))
  exact ⟨e 0 (by omega), e 1 (by omega), e 2 (by omega)⟩
set_option maxRecDepth 100000 in
set_option maxHeartbeats 4000000 in
theorem hasVolts_any (sb : Nat) (x : SL) (C : Nat → Ci) (V : Nat → Vi) (K : Nat → Bool) (w : World) (hnp : x.np ≤ 1000) (h : StR w sb x C V K) :
    Calls Tryz.prog 52 #[.pointer (some ⟨sb, 0, none⟩)] w fun e w' => e = .returned (.bool (!((List.range x.np).map K).any (fun y => y == false))) ∧ w = w' := by
  have HI := Lib.hid (contains76_any (some ⟨x.kb, 0, none⟩) x.np x.np ((List.range x.np).map K) false w (by simp) (by omega) (h.k.sl (by simp) (fun k y hk => by
    obtain ⟨hk1, hk2⟩ := List.getElem?_eq_some_iff.1 hk
    rw [List.getElem_map, List.getElem_range] at hk2
    rw [hk2]; rfl)))
  have c := h.r.cell 12
  unfold fSet at c
  obtain ⟨y, hy⟩ : ∃ y, ((List.range x.np).map K).any (fun y => y == false) = y := ⟨_, rfl⟩
  rw [hy] at HI ⊢
  clear hy h
  go_enter Tryz.func52, Tryz.ntmps52
  go_wp2_with fail
  (with_reducible refine (HI.out).mono ?_)
  rintro e w3 ⟨rfl, rfl⟩
  go_wp2
  go_ret
  exact ⟨rfl, rfl⟩
end Go.Proofs.YtbnfnpakibkboaaGreat
