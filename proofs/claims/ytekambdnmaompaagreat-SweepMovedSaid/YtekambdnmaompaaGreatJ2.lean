/- Contracts: strips that come too near. -/
import Derived.Test.YtekambdnmaompaaGreatJ1
namespace Go.Proofs.YtekambdnmaompaaGreat.SW
set_option linter.unusedVariables false
set_option linter.unusedSimpArgs false
open Go.RowKit

set_option maxHeartbeats 1000000 in
theorem reach1_any (hx sx hy sy : Int) (w : World) (h1 : 0 ≤ hx) (h2 : hx ≤ 10000) (h3 : 0 ≤ sx) (h4 : sx ≤ 10000) (h5 : 0 ≤ hy) (h6 : hy ≤ 10000) (h7 : 0 ≤ sy) (h8 : sy ≤ 10000) :
    Calls Tryz.prog 116 #[.agg #[.int .i64 hx, .int .i64 sx], .agg #[.int .i64 hy, .int .i64 sy]] w fun e w' => e = .returned (.int .i64 (hx + hy)) ∧ Below w.heap.size w w' := by
  go_enter Tryz.func116, Tryz.ntmps116
  go_wp2
  go_ret
  exact ⟨rfl, ((Below.refl _ w).alloc (Nat.le_refl _) _).alloc (by simp) _⟩
set_option maxHeartbeats 1000000 in
theorem reach2_any (hx sx hy sy : Int) (w : World) (h1 : 0 ≤ hx) (h2 : hx ≤ 10000) (h3 : 0 ≤ sx) (h4 : sx ≤ 10000) (h5 : 0 ≤ hy) (h6 : hy ≤ 10000) (h7 : 0 ≤ sy) (h8 : sy ≤ 10000) :
    Calls Tryz.prog 117 #[.agg #[.int .i64 hx, .int .i64 sx], .agg #[.int .i64 hy, .int .i64 sy]] w fun e w' => e = .returned (.int .i64 (hx + sx + hy)) ∧ Below w.heap.size w w' := by
  go_enter Tryz.func117, Tryz.ntmps117
  go_wp2
  go_ret
  exact ⟨rfl, ((Below.refl _ w).alloc (Nat.le_refl _) _).alloc (by simp) _⟩
set_option maxHeartbeats 1000000 in
theorem reach3_any (hx sx hy sy : Int) (w : World) (h1 : 0 ≤ hx) (h2 : hx ≤ 10000) (h3 : 0 ≤ sx) (h4 : sx ≤ 10000) (h5 : 0 ≤ hy) (h6 : hy ≤ 10000) (h7 : 0 ≤ sy) (h8 : sy ≤ 10000) :
    Calls Tryz.prog 119 #[.agg #[.int .i64 hx, .int .i64 sx], .agg #[.int .i64 hy, .int .i64 sy]] w fun e w' => e = .returned (.int .i64 (hx + hy + sy)) ∧ Below w.heap.size w w' := by
  go_enter Tryz.func119, Tryz.ntmps119
  go_wp2
  go_ret
  exact ⟨rfl, ((Below.refl _ w).alloc (Nat.le_refl _) _).alloc (by simp) _⟩
set_option maxHeartbeats 1000000 in
theorem reach4_any (hx sx hy sy : Int) (w : World) (h1 : 0 ≤ hx) (h2 : hx ≤ 10000) (h3 : 0 ≤ sx) (h4 : sx ≤ 10000) (h5 : 0 ≤ hy) (h6 : hy ≤ 10000) (h7 : 0 ≤ sy) (h8 : sy ≤ 10000) :
    Calls Tryz.prog 121 #[.agg #[.int .i64 hx, .int .i64 sx], .agg #[.int .i64 hy, .int .i64 sy]] w fun e w' => e = .returned (.int .i64 (hx + sx + hy + sy)) ∧ Below w.heap.size w w' := by
  go_enter Tryz.func121, Tryz.ntmps121
  go_wp2
  go_ret
  exact ⟨rfl, ((Below.refl _ w).alloc (Nat.le_refl _) _).alloc (by simp) _⟩
set_option maxRecDepth 100000 in
set_option maxHeartbeats 4000000 in
theorem far_any (x y : SwM) (r : Int) (w : World) (hx : SwOk x.s) (hy : SwOk y.s) :
    Calls Tryz.prog 92 #[.agg (fSw x).toArray, .agg (fSw y).toArray, .int .i64 r] w fun e w' => e = .returned (.bool (farB x.s y.s r)) ∧ Below w.heap.size w w' := by
  obtain ⟨⟨a1, a2, a3, a4⟩, ⟨b1, b2, b3, b4⟩, _, _⟩ := id hx
  obtain ⟨⟨c1, c2, c3, c4⟩, ⟨d1, d2, d3, d4⟩, _, _⟩ := id hy
  have HV := Lib.hid (show farB x.s y.s r = (decide (r < min x.s.a.x x.s.b.x - max y.s.a.x y.s.b.x) || decide (r < min y.s.a.x y.s.b.x - max x.s.a.x x.s.b.x) || decide (r < min x.s.a.y x.s.b.y - max y.s.a.y y.s.b.y) || decide (r < min y.s.a.y y.s.b.y - max x.s.a.y x.s.b.y)) from rfl)
  rw [HV.out]
  rw [show (fSw x).toArray = #[.int .i64 x.s.rail, .int .i64 x.s.seg, .int .i64 x.s.a.x, .int .i64 x.s.a.y, .int .i64 x.s.b.x, .int .i64 x.s.b.y, .int .i64 x.s.bg, .int .i64 x.s.en, .slice x.A x.s.bends.length x.c, .int .i64 (min x.s.a.x x.s.b.x), .int .i64 (min x.s.a.y x.s.b.y), .int .i64 (max x.s.a.x x.s.b.x), .int .i64 (max x.s.a.y x.s.b.y)] from rfl, show (fSw y).toArray = #[.int .i64 y.s.rail, .int .i64 y.s.seg, .int .i64 y.s.a.x, .int .i64 y.s.a.y, .int .i64 y.s.b.x, .int .i64 y.s.b.y, .int .i64 y.s.bg, .int .i64 y.s.en, .slice y.A y.s.bends.length y.c, .int .i64 (min y.s.a.x y.s.b.x), .int .i64 (min y.s.a.y y.s.b.y), .int .i64 (max y.s.a.x y.s.b.x), .int .i64 (max y.s.a.y y.s.b.y)] from rfl]
  obtain ⟨l1, e1⟩ : ∃ z, min x.s.a.x x.s.b.x = z := ⟨_, rfl⟩
  obtain ⟨l2, e2⟩ : ∃ z, min x.s.a.y x.s.b.y = z := ⟨_, rfl⟩
  obtain ⟨l3, e3⟩ : ∃ z, max x.s.a.x x.s.b.x = z := ⟨_, rfl⟩
  obtain ⟨l4, e4⟩ : ∃ z, max x.s.a.y x.s.b.y = z := ⟨_, rfl⟩
  obtain ⟨m1, f1⟩ : ∃ z, min y.s.a.x y.s.b.x = z := ⟨_, rfl⟩
  obtain ⟨m2, f2⟩ : ∃ z, min y.s.a.y y.s.b.y = z := ⟨_, rfl⟩
  obtain ⟨m3, f3⟩ : ∃ z, max y.s.a.x y.s.b.x = z := ⟨_, rfl⟩
  obtain ⟨m4, f4⟩ : ∃ z, max y.s.a.y y.s.b.y = z := ⟨_, rfl⟩
  have g1 : -10000000 ≤ l1 ∧ l1 ≤ 10000000 := by omega
  have g2 : -10000000 ≤ l2 ∧ l2 ≤ 10000000 := by omega
  have g3 : -10000000 ≤ l3 ∧ l3 ≤ 10000000 := by omega
  have g4 : -10000000 ≤ l4 ∧ l4 ≤ 10000000 := by omega
  have g5 : -10000000 ≤ m1 ∧ m1 ≤ 10000000 := by omega
  have g6 : -10000000 ≤ m2 ∧ m2 ≤ 10000000 := by omega
  have g7 : -10000000 ≤ m3 ∧ m3 ≤ 10000000 := by omega
  have g8 : -10000000 ≤ m4 ∧ m4 ≤ 10000000 := by omega
  rw [e1, e2, e3, e4, f1, f2, f3, f4]
  obtain ⟨p1, p2⟩ := g1; obtain ⟨p3, p4⟩ := g2; obtain ⟨p5, p6⟩ := g3; obtain ⟨p7, p8⟩ := g4
  obtain ⟨q1, q2⟩ := g5; obtain ⟨q3, q4⟩ := g6; obtain ⟨q5, q6⟩ := g7; obtain ⟨q7, q8⟩ := g8
  clear HV e1 e2 e3 e4 f1 f2 f3 f4 hx hy a1 a2 a3 a4 b1 b2 b3 b4 c1 c2 c3 c4 d1 d2 d3 d4
  have w1' : IntKind.i64.wrap (l1 - m3) = l1 - m3 := by rw [IntKind.wrap_i64]; omega
  have w2' : IntKind.i64.wrap (m1 - l3) = m1 - l3 := by rw [IntKind.wrap_i64]; omega
  have w3' : IntKind.i64.wrap (l2 - m4) = l2 - m4 := by rw [IntKind.wrap_i64]; omega
  have w4' : IntKind.i64.wrap (m2 - l4) = m2 - l4 := by rw [IntKind.wrap_i64]; omega
  cases k1 : decide (r < l1 - m3) with
  | true =>
    simp only [Bool.true_or, Bool.false_or, Bool.or_true, Bool.or_false]
    go_enter Tryz.func92, Tryz.ntmps92
    go_wp2
    go_ret
    exact ⟨rfl, ((Below.refl _ w).alloc (Nat.le_refl _) _).alloc (by simp) _⟩
  | false =>
    cases k2 : decide (r < m1 - l3) with
    | true =>
      simp only [Bool.true_or, Bool.false_or, Bool.or_true, Bool.or_false]
      go_enter Tryz.func92, Tryz.ntmps92
      go_wp2
      go_ret
      exact ⟨rfl, ((Below.refl _ w).alloc (Nat.le_refl _) _).alloc (by simp) _⟩
    | false =>
      cases k3 : decide (r < l2 - m4) with
      | true =>
        simp only [Bool.true_or, Bool.false_or, Bool.or_true, Bool.or_false]
        go_enter Tryz.func92, Tryz.ntmps92
        go_wp2
        go_ret
        exact ⟨rfl, ((Below.refl _ w).alloc (Nat.le_refl _) _).alloc (by simp) _⟩
      | false =>
        cases k4 : decide (r < m2 - l4) with
        | true =>
          simp only [Bool.true_or, Bool.false_or, Bool.or_true, Bool.or_false]
          go_enter Tryz.func92, Tryz.ntmps92
          go_wp2
          go_ret
          exact ⟨rfl, ((Below.refl _ w).alloc (Nat.le_refl _) _).alloc (by simp) _⟩
        | false =>
          simp only [Bool.true_or, Bool.false_or, Bool.or_true, Bool.or_false]
          go_enter Tryz.func92, Tryz.ntmps92
          go_wp2
          go_ret
          exact ⟨rfl, ((Below.refl _ w).alloc (Nat.le_refl _) _).alloc (by simp) _⟩
end Go.Proofs.YtekambdnmaompaaGreat.SW

namespace Go.Proofs.YtekambdnmaompaaGreat.SW
set_option linter.unusedVariables false
set_option linter.unusedSimpArgs false
open Go.RowKit

theorem any_take {α : Type} {f : α → Bool} {l : List α} {i : Nat} (hi : i < l.length) : (l.take (i + 1)).any f = ((l.take i).any f || f l[i]) := by
  rw [List.take_succ_eq_append_getElem hi, List.any_append]
  simp
set_option maxRecDepth 100000 in
set_option maxHeartbeats 8000000 in
theorem bends_any (x y : SwM) (r : Int) (w : World) (hx : SwOk x.s) (hy : SwOk y.s) (hB : Sl w w.heap.size 2 CS x.A x.s.bends) (hn : x.s.bends.length ≤ 1000) (hr0 : 0 ≤ r) (hr1 : r ≤ 1000000) :
    Calls Tryz.prog 118 #[.agg (fSw x).toArray, .agg (fSw y).toArray, .int .i64 r] w fun e w' => e = .returned (.bool (bendsB x.s y.s r)) ∧ Below w.heap.size w w' := by
  have hrr : r * r < 9223372036854775808 := by
    have := Int.mul_le_mul hr1 hr1 hr0 (by omega)
    omega
  obtain ⟨b1, b2⟩ := two_bx w x y
  have hb0 := (((Below.refl _ w).alloc (Nat.le_refl _) (.cells #[.int .i64 x.s.rail, .int .i64 x.s.seg, .int .i64 x.s.a.x, .int .i64 x.s.a.y, .int .i64 x.s.b.x, .int .i64 x.s.b.y, .int .i64 x.s.bg, .int .i64 x.s.en, .slice x.A x.s.bends.length x.c, .int .i64 (min x.s.a.x x.s.b.x), .int .i64 (min x.s.a.y x.s.b.y), .int .i64 (max x.s.a.x x.s.b.x), .int .i64 (max x.s.a.y x.s.b.y)] 98)).alloc (by simp) (.cells #[.int .i64 y.s.rail, .int .i64 y.s.seg, .int .i64 y.s.a.x, .int .i64 y.s.a.y, .int .i64 y.s.b.x, .int .i64 y.s.b.y, .int .i64 y.s.bg, .int .i64 y.s.en, .slice y.A y.s.bends.length y.c, .int .i64 (min y.s.a.x y.s.b.x), .int .i64 (min y.s.a.y y.s.b.y), .int .i64 (max y.s.a.x y.s.b.x), .int .i64 (max y.s.a.y y.s.b.y)] 98))
  have hz : ((w.alloc (.cells #[.int .i64 x.s.rail, .int .i64 x.s.seg, .int .i64 x.s.a.x, .int .i64 x.s.a.y, .int .i64 x.s.b.x, .int .i64 x.s.b.y, .int .i64 x.s.bg, .int .i64 x.s.en, .slice x.A x.s.bends.length x.c, .int .i64 (min x.s.a.x x.s.b.x), .int .i64 (min x.s.a.y x.s.b.y), .int .i64 (max x.s.a.x x.s.b.x), .int .i64 (max x.s.a.y x.s.b.y)] 98)).alloc (.cells #[.int .i64 y.s.rail, .int .i64 y.s.seg, .int .i64 y.s.a.x, .int .i64 y.s.a.y, .int .i64 y.s.b.x, .int .i64 y.s.b.y, .int .i64 y.s.bg, .int .i64 y.s.en, .slice y.A y.s.bends.length y.c, .int .i64 (min y.s.a.x y.s.b.x), .int .i64 (min y.s.a.y y.s.b.y), .int .i64 (max y.s.a.x y.s.b.x), .int .i64 (max y.s.a.y y.s.b.y)] 98)).heap.size = w.heap.size + 1 + 1 := by simp
  obtain ⟨W1, hW1⟩ : ∃ z, (w.alloc (.cells #[.int .i64 x.s.rail, .int .i64 x.s.seg, .int .i64 x.s.a.x, .int .i64 x.s.a.y, .int .i64 x.s.b.x, .int .i64 x.s.b.y, .int .i64 x.s.bg, .int .i64 x.s.en, .slice x.A x.s.bends.length x.c, .int .i64 (min x.s.a.x x.s.b.x), .int .i64 (min x.s.a.y x.s.b.y), .int .i64 (max x.s.a.x x.s.b.x), .int .i64 (max x.s.a.y x.s.b.y)] 98)).alloc (.cells #[.int .i64 y.s.rail, .int .i64 y.s.seg, .int .i64 y.s.a.x, .int .i64 y.s.a.y, .int .i64 y.s.b.x, .int .i64 y.s.b.y, .int .i64 y.s.bg, .int .i64 y.s.en, .slice y.A y.s.bends.length y.c, .int .i64 (min y.s.a.x y.s.b.x), .int .i64 (min y.s.a.y y.s.b.y), .int .i64 (max y.s.a.x y.s.b.x), .int .i64 (max y.s.a.y y.s.b.y)] 98) = z := ⟨_, rfl⟩
  rw [hW1] at b1 b2 hb0 hz
  have HB1 := Lib.hid hb0
  have HBX := Lib.hid (show ∀ wx, Below W1.heap.size W1 wx → Bx w.heap.size x wx ∧ Bx (w.heap.size + 1) y wx from fun wx h => ⟨b1.keep h (by omega), b2.keep h (by omega)⟩)
  have HSB := Lib.hid (show ∀ wx, Below W1.heap.size W1 wx → Sl wx wx.heap.size 2 CS x.A x.s.bends from fun wx h => (hB.below (hb0.trans (h.mono (by omega)))).more (fun _ _ h => h) (by have := h.size; omega))
  have HIN := Lib.hid (show ∀ s ∈ x.s.bends, inR s from fun s hs => by rcases hx.bends s hs with h | h <;> rw [h]; exact hx.ha; exact hx.hb)
  have HSG := Lib.hid (show ∀ s, inR s → ∃ p q u : Int, sepC (sepSeg s y.s.a y.s.b) = [.int .u64 p, .int .u64 q, .int .u64 u] ∧ (∀ w, Calls Tryz.prog 111 #[.agg #[.int .i64 s.x, .int .i64 s.y], .agg #[.int .i64 y.s.a.x, .int .i64 y.s.a.y], .agg #[.int .i64 y.s.b.x, .int .i64 y.s.b.y]] w fun e w' => e = .returned (.agg #[.int .u64 p, .int .u64 q, .int .u64 u]) ∧ Below w.heap.size w w') ∧
      ∀ w, Calls Tryz.prog 88 #[.agg #[.int .u64 p, .int .u64 q, .int .u64 u], .int .i64 r] w fun e w' => e = .returned (.int .i64 ((sepSeg s y.s.a y.s.b).cmp r)) ∧ Below w.heap.size w w' from fun s hs => by
    obtain ⟨p, q, u, e, C⟩ := seg_calls hs hy.ha hy.hb hy.hab
    refine ⟨p, q, u, e, C, fun w => ?_⟩
    have := sepCmp_any (sepSeg s y.s.a y.s.b) r w (sepSeg_ok hs hy.ha hy.hb hy.hab) hrr
    rw [e] at this
    exact this)
  obtain ⟨n, hnn⟩ : ∃ z, x.s.bends.length = z := ⟨_, rfl⟩
  have HN := Lib.hid hnn
  have HBV := Lib.hid (show ∀ l, x.s.bends = l → bendsB x.s y.s r = l.any (fun s => decide ((sepSeg s y.s.a y.s.b).cmp r ≤ 0)) from fun l hl => by
    unfold bendsB
    rw [hl]
    congr 1
    funext s
    exact below_cmp _ _)
  obtain ⟨bl, hbl⟩ : ∃ z, x.s.bends = z := ⟨_, rfl⟩
  have HBL := Lib.hid hbl
  have f8 := b1 8 _ rfl
  rw [hnn] at f8 hn
  rw [show (fSw x).toArray = #[.int .i64 x.s.rail, .int .i64 x.s.seg, .int .i64 x.s.a.x, .int .i64 x.s.a.y, .int .i64 x.s.b.x, .int .i64 x.s.b.y, .int .i64 x.s.bg, .int .i64 x.s.en, .slice x.A x.s.bends.length x.c, .int .i64 (min x.s.a.x x.s.b.x), .int .i64 (min x.s.a.y x.s.b.y), .int .i64 (max x.s.a.x x.s.b.x), .int .i64 (max x.s.a.y x.s.b.y)] from rfl, show (fSw y).toArray = #[.int .i64 y.s.rail, .int .i64 y.s.seg, .int .i64 y.s.a.x, .int .i64 y.s.a.y, .int .i64 y.s.b.x, .int .i64 y.s.b.y, .int .i64 y.s.bg, .int .i64 y.s.en, .slice y.A y.s.bends.length y.c, .int .i64 (min y.s.a.x y.s.b.x), .int .i64 (min y.s.a.y y.s.b.y), .int .i64 (max y.s.a.x y.s.b.x), .int .i64 (max y.s.a.y y.s.b.y)] from rfl]
  rw [HBV.out bl hbl]
  rw [hnn] at hW1 ⊢
  obtain ⟨XA, hXA⟩ : ∃ z, x.A = z := ⟨_, rfl⟩
  rw [hXA] at HSB hW1 f8 ⊢
  clear hx hy hB b1 b2 hb0 hz hnn hbl HBV hXA
  go_enter Tryz.func118, Tryz.ntmps118
  go_wp2
  go_loopw [12] (fun s12 wr => ∃ i : Nat, i ≤ n ∧ s12 = .int .i64 (i : Int) ∧ (bl.take i).any (fun s => decide ((sepSeg s y.s.a y.s.b).cmp r ≤ 0)) = false ∧ Below W1.heap.size W1 wr) (fun s12 _ => n - (intOf s12).toNat)
  case atStart => exact ⟨0, Nat.zero_le _, rfl, by simp, Below.refl _ _⟩
  case round =>
    obtain ⟨i, hi, rfl, hno, hb⟩ := hrel
    have HNO := Lib.hid hno; have HB := Lib.hid hb
    clear hno hW1 f8
    by_cases hin : i < n
    · have hil : i < x.s.bends.length := by rw [HN.out]; exact hin
      obtain ⟨b, o, eA, hbk, q0, q1⟩ := spot_at (HSB.out wr hb) hil
      obtain ⟨s, hs⟩ : ∃ z, x.s.bends[i] = z := ⟨_, rfl⟩
      have his := HIN.out s (by rw [← hs]; exact List.getElem_mem hil)
      rw [hs] at q0 q1
      obtain ⟨p, q, u, _, C1, C2⟩ := HSG.out s his
      have HC1 := Lib.hid C1; have HC2 := Lib.hid C2
      have HTK := Lib.hid (show (bl.take (i + 1)).any (fun s => decide ((sepSeg s y.s.a y.s.b).cmp r ≤ 0)) = decide ((sepSeg s y.s.a y.s.b).cmp r ≤ 0) ∧ (decide ((sepSeg s y.s.a y.s.b).cmp r ≤ 0) = true → bl.any (fun s => decide ((sepSeg s y.s.a y.s.b).cmp r ≤ 0)) = true) by
        have hib : i < bl.length := by rw [← HBL.out]; exact hil
        have hse : bl[i] = s := by rw [← hs]; congr 1; exact HBL.out.symm
        refine ⟨by rw [any_take hib, HNO.out, hse, Bool.false_or], fun h => ?_⟩
        rw [List.any_eq_true]
        exact ⟨s, by rw [← hse]; exact List.getElem_mem hib, h⟩)
      obtain ⟨cv, hcv⟩ : ∃ z, (sepSeg s y.s.a y.s.b).cmp r = z := ⟨_, rfl⟩
      rw [hcv] at HC2 HTK
      obtain ⟨_, bx2⟩ := HBX.out wr hb
      have hzr := hb.size
      have hbe := (Below.refl wr.heap.size wr).alloc (Nat.le_refl _) (.cells #[.int .i64 s.x, .int .i64 s.y] 82)
      have g2 := (hbe.cell (p := ⟨w.heap.size + 1, 2, none⟩) (by have := World.block_lt_of_cell? _ _ (bx2 2 _ rfl); simpa using this)).trans (bx2 2 _ rfl)
      have g3 := (hbe.cell (p := ⟨w.heap.size + 1, 3, none⟩) (by have := World.block_lt_of_cell? _ _ (bx2 3 _ rfl); simpa using this)).trans (bx2 3 _ rfl)
      have g4 := (hbe.cell (p := ⟨w.heap.size + 1, 4, none⟩) (by have := World.block_lt_of_cell? _ _ (bx2 4 _ rfl); simpa using this)).trans (bx2 4 _ rfl)
      have g5 := (hbe.cell (p := ⟨w.heap.size + 1, 5, none⟩) (by have := World.block_lt_of_cell? _ _ (bx2 5 _ rfl); simpa using this)).trans (bx2 5 _ rfl)
      have g0 := cell_new1 wr #[.int .i64 s.x, .int .i64 s.y] 82 0
      have g1 := cell_new1 wr #[.int .i64 s.x, .int .i64 s.y] 82 1
      obtain ⟨W2, hW2⟩ : ∃ z, wr.alloc (.cells #[.int .i64 s.x, .int .i64 s.y] 82) = z := ⟨_, rfl⟩
      rw [hW2] at hbe g0 g1 g2 g3 g4 g5
      have HB2 := Lib.hid (HB.out.trans (hbe.mono hzr))
      have i0 : (0 : Int) ≤ (i : Int) := by omega
      have i1 : (i : Int) < (n : Int) := by omega
      subst eA
      clear hs his C1 C2 hcv bx2 hb hbe
      go_wp2_with fail
      (with_reducible refine (HC1.out _).mono ?_)
      rintro e w5 ⟨rfl, hb5⟩
      clear hW2 g0 g1 g2 g3 g4 g5 q0 q1
      have HB5 := Lib.hid (HB2.out.trans (hb5.mono HB2.out.size))
      clear hb5
      by_cases hc : cv ≤ 0
      · have HD := Lib.hid (HTK.out.2 (decide_eq_true hc))
        go_wp2_with fail
        (with_reducible refine (HC2.out _).mono ?_)
        rintro e w6 ⟨rfl, hb6⟩
        have HB6 := Lib.hid (HB5.out.trans (hb6.mono HB5.out.size))
        clear hb6
        go_wp2
        go_ret
        exact ⟨by rw [HD.out]; rfl, HB1.out.trans (HB6.out.mono HB1.out.size)⟩
      · have HD := Lib.hid (show decide (cv ≤ 0) = false by rw [decide_eq_false_iff_not]; exact hc)
        have hcd : decide (cv ≤ 0) = false := HD.out
        go_wp2_with fail
        (with_reducible refine (HC2.out _).mono ?_)
        rintro e w6 ⟨rfl, hb6⟩
        have HB6 := Lib.hid (HB5.out.trans (hb6.mono HB5.out.size))
        clear hb6
        go_wp2
        go_roundw
        case rel => exact ⟨i + 1, by omega, by go_num, by rw [HTK.out.1]; first | exact HD.out | (rw [decide_eq_false_iff_not]; exact hc), HB6.out⟩
        case measure => simp [intOf]; omega
    · have hnl : n ≤ i := by omega
      have HD := Lib.hid (show bl.any (fun s => decide ((sepSeg s y.s.a y.s.b).cmp r ≤ 0)) = false by
        have h5 := HNO.out
        rwa [List.take_of_length_le (by rw [← HBL.out, HN.out]; exact hnl)] at h5)
      clear hb
      go_wp2
      go_ret
      exact ⟨by rw [HD.out]; rfl, HB1.out.trans (HB.out.mono HB1.out.size)⟩
end Go.Proofs.YtekambdnmaompaaGreat.SW

namespace Go.Proofs.YtekambdnmaompaaGreat.SW
set_option linter.unusedVariables false
set_option linter.unusedSimpArgs false
open Go.RowKit

set_option maxRecDepth 100000 in
set_option maxHeartbeats 4000000 in
theorem test4_any (x y : SwM) (r : Int) (w : World) (hx : SwOk x.s) (hy : SwOk y.s) (hB : Sl w w.heap.size 2 CS y.A y.s.bends) (hn : y.s.bends.length ≤ 1000) (hr0 : 0 ≤ r) (hr1 : r ≤ 1000000) :
    Calls Tryz.prog 120 #[.agg (fSw x).toArray, .agg (fSw y).toArray, .int .i64 r] w fun e w' => e = .returned (.bool (bendsB y.s x.s r)) ∧ Below w.heap.size w w' := by
  obtain ⟨b1, b2⟩ := two_bx w x y
  have hb0 := (((Below.refl _ w).alloc (Nat.le_refl _) (.cells #[.int .i64 x.s.rail, .int .i64 x.s.seg, .int .i64 x.s.a.x, .int .i64 x.s.a.y, .int .i64 x.s.b.x, .int .i64 x.s.b.y, .int .i64 x.s.bg, .int .i64 x.s.en, .slice x.A x.s.bends.length x.c, .int .i64 (min x.s.a.x x.s.b.x), .int .i64 (min x.s.a.y x.s.b.y), .int .i64 (max x.s.a.x x.s.b.x), .int .i64 (max x.s.a.y x.s.b.y)] 98)).alloc (by simp) (.cells #[.int .i64 y.s.rail, .int .i64 y.s.seg, .int .i64 y.s.a.x, .int .i64 y.s.a.y, .int .i64 y.s.b.x, .int .i64 y.s.b.y, .int .i64 y.s.bg, .int .i64 y.s.en, .slice y.A y.s.bends.length y.c, .int .i64 (min y.s.a.x y.s.b.x), .int .i64 (min y.s.a.y y.s.b.y), .int .i64 (max y.s.a.x y.s.b.x), .int .i64 (max y.s.a.y y.s.b.y)] 98))
  have hz : ((w.alloc (.cells #[.int .i64 x.s.rail, .int .i64 x.s.seg, .int .i64 x.s.a.x, .int .i64 x.s.a.y, .int .i64 x.s.b.x, .int .i64 x.s.b.y, .int .i64 x.s.bg, .int .i64 x.s.en, .slice x.A x.s.bends.length x.c, .int .i64 (min x.s.a.x x.s.b.x), .int .i64 (min x.s.a.y x.s.b.y), .int .i64 (max x.s.a.x x.s.b.x), .int .i64 (max x.s.a.y x.s.b.y)] 98)).alloc (.cells #[.int .i64 y.s.rail, .int .i64 y.s.seg, .int .i64 y.s.a.x, .int .i64 y.s.a.y, .int .i64 y.s.b.x, .int .i64 y.s.b.y, .int .i64 y.s.bg, .int .i64 y.s.en, .slice y.A y.s.bends.length y.c, .int .i64 (min y.s.a.x y.s.b.x), .int .i64 (min y.s.a.y y.s.b.y), .int .i64 (max y.s.a.x y.s.b.x), .int .i64 (max y.s.a.y y.s.b.y)] 98)).heap.size = w.heap.size + 1 + 1 := by simp
  obtain ⟨W1, hW1⟩ : ∃ z, (w.alloc (.cells #[.int .i64 x.s.rail, .int .i64 x.s.seg, .int .i64 x.s.a.x, .int .i64 x.s.a.y, .int .i64 x.s.b.x, .int .i64 x.s.b.y, .int .i64 x.s.bg, .int .i64 x.s.en, .slice x.A x.s.bends.length x.c, .int .i64 (min x.s.a.x x.s.b.x), .int .i64 (min x.s.a.y x.s.b.y), .int .i64 (max x.s.a.x x.s.b.x), .int .i64 (max x.s.a.y x.s.b.y)] 98)).alloc (.cells #[.int .i64 y.s.rail, .int .i64 y.s.seg, .int .i64 y.s.a.x, .int .i64 y.s.a.y, .int .i64 y.s.b.x, .int .i64 y.s.b.y, .int .i64 y.s.bg, .int .i64 y.s.en, .slice y.A y.s.bends.length y.c, .int .i64 (min y.s.a.x y.s.b.x), .int .i64 (min y.s.a.y y.s.b.y), .int .i64 (max y.s.a.x y.s.b.x), .int .i64 (max y.s.a.y y.s.b.y)] 98) = z := ⟨_, rfl⟩
  rw [hW1] at b1 b2 hb0 hz
  have HB1 := Lib.hid hb0
  have HBX := Lib.hid (show ∀ wx, Below W1.heap.size W1 wx → Bx w.heap.size x wx ∧ Bx (w.heap.size + 1) y wx from fun wx h => ⟨b1.keep h (by omega), b2.keep h (by omega)⟩)
  have HC := Lib.hid (bends_any y x r W1 hy hx ((hB.below hb0).more (fun _ _ h => h) hb0.size) hn hr0 hr1)
  obtain ⟨v, hv⟩ : ∃ z, bendsB y.s x.s r = z := ⟨_, rfl⟩
  rw [hv] at HC ⊢
  rw [show (fSw x).toArray = #[.int .i64 x.s.rail, .int .i64 x.s.seg, .int .i64 x.s.a.x, .int .i64 x.s.a.y, .int .i64 x.s.b.x, .int .i64 x.s.b.y, .int .i64 x.s.bg, .int .i64 x.s.en, .slice x.A x.s.bends.length x.c, .int .i64 (min x.s.a.x x.s.b.x), .int .i64 (min x.s.a.y x.s.b.y), .int .i64 (max x.s.a.x x.s.b.x), .int .i64 (max x.s.a.y x.s.b.y)] from rfl, show (fSw y).toArray = #[.int .i64 y.s.rail, .int .i64 y.s.seg, .int .i64 y.s.a.x, .int .i64 y.s.a.y, .int .i64 y.s.b.x, .int .i64 y.s.b.y, .int .i64 y.s.bg, .int .i64 y.s.en, .slice y.A y.s.bends.length y.c, .int .i64 (min y.s.a.x y.s.b.x), .int .i64 (min y.s.a.y y.s.b.y), .int .i64 (max y.s.a.x y.s.b.x), .int .i64 (max y.s.a.y y.s.b.y)] from rfl] at HC ⊢
  have f0 := b1 0 _ rfl; have g0 := b2 0 _ rfl
  have f1 := b1 1 _ rfl; have g1 := b2 1 _ rfl
  have f2 := b1 2 _ rfl; have g2 := b2 2 _ rfl
  have f3 := b1 3 _ rfl; have g3 := b2 3 _ rfl
  have f4 := b1 4 _ rfl; have g4 := b2 4 _ rfl
  have f5 := b1 5 _ rfl; have g5 := b2 5 _ rfl
  have f6 := b1 6 _ rfl; have g6 := b2 6 _ rfl
  have f7 := b1 7 _ rfl; have g7 := b2 7 _ rfl
  have f8 := b1 8 _ rfl; have g8 := b2 8 _ rfl
  have f9 := b1 9 _ rfl; have g9 := b2 9 _ rfl
  have f10 := b1 10 _ rfl; have g10 := b2 10 _ rfl
  have f11 := b1 11 _ rfl; have g11 := b2 11 _ rfl
  have f12 := b1 12 _ rfl; have g12 := b2 12 _ rfl
  clear hx hy hB hn hz hv hb0 b1 b2
  go_enter Tryz.func120, Tryz.ntmps120
  go_wp2_with fail
  (with_reducible refine (HC.out).mono ?_)
  rintro e w5 ⟨rfl, hb5⟩
  clear f0 g0 f1 g1 f2 g2 f3 g3 f4 g4 f5 g5 f6 g6 f7 g7 f8 g8 f9 g9 f10 g10 f11 g11 f12 g12 hW1
  go_wp2
  go_ret
  exact ⟨rfl, HB1.out.trans (hb5.mono HB1.out.size)⟩
set_option maxRecDepth 100000 in
set_option maxHeartbeats 8000000 in
theorem both_any (x y : SwM) (r : Int) (w : World) (hx : SwOk x.s) (hy : SwOk y.s) (hB : Sl w w.heap.size 2 CS x.A x.s.bends) (hn : x.s.bends.length ≤ 1000) (hB2 : Sl w w.heap.size 2 CS y.A y.s.bends) (hn2 : y.s.bends.length ≤ 1000) (hr0 : 0 ≤ r) (hr1 : r ≤ 1000000) :
    Calls Tryz.prog 122 #[.agg (fSw x).toArray, .agg (fSw y).toArray, .int .i64 r] w fun e w' => e = .returned (.bool (bothB x.s y.s r)) ∧ Below w.heap.size w w' := by
  have hrr : r * r < 9223372036854775808 := by
    have := Int.mul_le_mul hr1 hr1 hr0 (by omega)
    omega
  obtain ⟨b1, b2⟩ := two_bx w x y
  have hb0 := (((Below.refl _ w).alloc (Nat.le_refl _) (.cells #[.int .i64 x.s.rail, .int .i64 x.s.seg, .int .i64 x.s.a.x, .int .i64 x.s.a.y, .int .i64 x.s.b.x, .int .i64 x.s.b.y, .int .i64 x.s.bg, .int .i64 x.s.en, .slice x.A x.s.bends.length x.c, .int .i64 (min x.s.a.x x.s.b.x), .int .i64 (min x.s.a.y x.s.b.y), .int .i64 (max x.s.a.x x.s.b.x), .int .i64 (max x.s.a.y x.s.b.y)] 98)).alloc (by simp) (.cells #[.int .i64 y.s.rail, .int .i64 y.s.seg, .int .i64 y.s.a.x, .int .i64 y.s.a.y, .int .i64 y.s.b.x, .int .i64 y.s.b.y, .int .i64 y.s.bg, .int .i64 y.s.en, .slice y.A y.s.bends.length y.c, .int .i64 (min y.s.a.x y.s.b.x), .int .i64 (min y.s.a.y y.s.b.y), .int .i64 (max y.s.a.x y.s.b.x), .int .i64 (max y.s.a.y y.s.b.y)] 98))
  have hz : ((w.alloc (.cells #[.int .i64 x.s.rail, .int .i64 x.s.seg, .int .i64 x.s.a.x, .int .i64 x.s.a.y, .int .i64 x.s.b.x, .int .i64 x.s.b.y, .int .i64 x.s.bg, .int .i64 x.s.en, .slice x.A x.s.bends.length x.c, .int .i64 (min x.s.a.x x.s.b.x), .int .i64 (min x.s.a.y x.s.b.y), .int .i64 (max x.s.a.x x.s.b.x), .int .i64 (max x.s.a.y x.s.b.y)] 98)).alloc (.cells #[.int .i64 y.s.rail, .int .i64 y.s.seg, .int .i64 y.s.a.x, .int .i64 y.s.a.y, .int .i64 y.s.b.x, .int .i64 y.s.b.y, .int .i64 y.s.bg, .int .i64 y.s.en, .slice y.A y.s.bends.length y.c, .int .i64 (min y.s.a.x y.s.b.x), .int .i64 (min y.s.a.y y.s.b.y), .int .i64 (max y.s.a.x y.s.b.x), .int .i64 (max y.s.a.y y.s.b.y)] 98)).heap.size = w.heap.size + 1 + 1 := by simp
  obtain ⟨W1, hW1⟩ : ∃ z, (w.alloc (.cells #[.int .i64 x.s.rail, .int .i64 x.s.seg, .int .i64 x.s.a.x, .int .i64 x.s.a.y, .int .i64 x.s.b.x, .int .i64 x.s.b.y, .int .i64 x.s.bg, .int .i64 x.s.en, .slice x.A x.s.bends.length x.c, .int .i64 (min x.s.a.x x.s.b.x), .int .i64 (min x.s.a.y x.s.b.y), .int .i64 (max x.s.a.x x.s.b.x), .int .i64 (max x.s.a.y x.s.b.y)] 98)).alloc (.cells #[.int .i64 y.s.rail, .int .i64 y.s.seg, .int .i64 y.s.a.x, .int .i64 y.s.a.y, .int .i64 y.s.b.x, .int .i64 y.s.b.y, .int .i64 y.s.bg, .int .i64 y.s.en, .slice y.A y.s.bends.length y.c, .int .i64 (min y.s.a.x y.s.b.x), .int .i64 (min y.s.a.y y.s.b.y), .int .i64 (max y.s.a.x y.s.b.x), .int .i64 (max y.s.a.y y.s.b.y)] 98) = z := ⟨_, rfl⟩
  rw [hW1] at b1 b2 hb0 hz
  have HB1 := Lib.hid hb0
  have HBX := Lib.hid (show ∀ wx, Below W1.heap.size W1 wx → Bx w.heap.size x wx ∧ Bx (w.heap.size + 1) y wx from fun wx h => ⟨b1.keep h (by omega), b2.keep h (by omega)⟩)
  have HSB := Lib.hid (show ∀ wx, Below W1.heap.size W1 wx → Sl wx wx.heap.size 2 CS x.A x.s.bends ∧ Sl wx wx.heap.size 2 CS y.A y.s.bends from fun wx h => ⟨(hB.below (hb0.trans (h.mono (by omega)))).more (fun _ _ h => h) (by have := h.size; omega), (hB2.below (hb0.trans (h.mono (by omega)))).more (fun _ _ h => h) (by have := h.size; omega)⟩)
  have HIN := Lib.hid (show (∀ s ∈ x.s.bends, inR s) ∧ ∀ s ∈ y.s.bends, inR s from ⟨fun s hs => by rcases hx.bends s hs with h | h <;> rw [h]; exact hx.ha; exact hx.hb, fun s hs => by rcases hy.bends s hs with h | h <;> rw [h]; exact hy.ha; exact hy.hb⟩)
  have HSG := Lib.hid (show ∀ s v, inR s → inR v → ∃ p q u : Int, (∀ w, Calls Tryz.prog 135 #[.agg #[.int .i64 s.x, .int .i64 s.y], .agg #[.int .i64 v.x, .int .i64 v.y]] w fun e w' => e = .returned (.agg #[.int .u64 p, .int .u64 q, .int .u64 u]) ∧ Below w.heap.size w w') ∧
      ∀ w, Calls Tryz.prog 88 #[.agg #[.int .u64 p, .int .u64 q, .int .u64 u], .int .i64 r] w fun e w' => e = .returned (.int .i64 ((sepSpot s v).cmp r)) ∧ Below w.heap.size w w' from fun s v hs hv => by
    obtain ⟨p, q, u, e⟩ := sep3 (sepSpot s v)
    have ho := sepSpot_ok hs hv
    refine ⟨p, q, u, fun w => ?_, fun w => ?_⟩
    · have := fromSpot_any s v w hs hv
      rw [e] at this
      exact this
    · have := sepCmp_any (sepSpot s v) r w ⟨ho.1, by omega, by simp [sepSpot], by simp [sepSpot]⟩ hrr
      rw [e] at this
      exact this)
  obtain ⟨n, hnn⟩ : ∃ z, x.s.bends.length = z := ⟨_, rfl⟩
  obtain ⟨m, hmm⟩ : ∃ z, y.s.bends.length = z := ⟨_, rfl⟩
  have HN := Lib.hid hnn
  have HM := Lib.hid hmm
  have HBV := Lib.hid (show ∀ l l2, x.s.bends = l → y.s.bends = l2 → bothB x.s y.s r = l.any (fun s => l2.any fun u => decide ((sepSpot s u).cmp r ≤ 0)) from fun l l2 hl hl2 => by
    unfold bothB
    rw [hl, hl2]
    congr 1
    funext s
    congr 1
    funext u
    exact below_cmp _ _)
  obtain ⟨bl, hbl⟩ : ∃ z, x.s.bends = z := ⟨_, rfl⟩
  obtain ⟨yl, hyl⟩ : ∃ z, y.s.bends = z := ⟨_, rfl⟩
  have HBL := Lib.hid hbl
  have HYL := Lib.hid hyl
  have f8 := b1 8 _ rfl
  rw [hnn] at f8 hn
  rw [hmm] at hn2
  rw [show (fSw x).toArray = #[.int .i64 x.s.rail, .int .i64 x.s.seg, .int .i64 x.s.a.x, .int .i64 x.s.a.y, .int .i64 x.s.b.x, .int .i64 x.s.b.y, .int .i64 x.s.bg, .int .i64 x.s.en, .slice x.A x.s.bends.length x.c, .int .i64 (min x.s.a.x x.s.b.x), .int .i64 (min x.s.a.y x.s.b.y), .int .i64 (max x.s.a.x x.s.b.x), .int .i64 (max x.s.a.y x.s.b.y)] from rfl, show (fSw y).toArray = #[.int .i64 y.s.rail, .int .i64 y.s.seg, .int .i64 y.s.a.x, .int .i64 y.s.a.y, .int .i64 y.s.b.x, .int .i64 y.s.b.y, .int .i64 y.s.bg, .int .i64 y.s.en, .slice y.A y.s.bends.length y.c, .int .i64 (min y.s.a.x y.s.b.x), .int .i64 (min y.s.a.y y.s.b.y), .int .i64 (max y.s.a.x y.s.b.x), .int .i64 (max y.s.a.y y.s.b.y)] from rfl]
  rw [HBV.out bl yl hbl hyl]
  rw [hnn, hmm] at hW1 ⊢
  obtain ⟨XA, hXA⟩ : ∃ z, x.A = z := ⟨_, rfl⟩
  obtain ⟨YA, hYA⟩ : ∃ z, y.A = z := ⟨_, rfl⟩
  have HG8 := Lib.hid (show ∀ wx, Below W1.heap.size W1 wx → wx.cell? ⟨w.heap.size + 1, 8, none⟩ = some (.slice YA m y.c) from fun wx h => by
    have := (HBX.out wx h).2 8 _ rfl
    rwa [hmm, hYA] at this)
  have HKK := Lib.hid (show w.heap.size + 1 < W1.heap.size by omega)
  rw [hXA] at HSB hW1 f8 ⊢
  rw [hYA] at HSB hW1 ⊢
  clear hx hy hB hB2 b1 b2 hb0 hz hnn hmm hbl hyl HBV hXA hYA HBX
  go_enter Tryz.func122, Tryz.ntmps122
  go_wp2
  go_loopw [14] (fun s14 wr => ∃ i : Nat, i ≤ n ∧ s14 = .int .i64 (i : Int) ∧ (bl.take i).any (fun s => yl.any fun u => decide ((sepSpot s u).cmp r ≤ 0)) = false ∧ Below W1.heap.size W1 wr) (fun s14 _ => n - (intOf s14).toNat)
  case atStart => exact ⟨0, Nat.zero_le _, rfl, by simp, Below.refl _ _⟩
  case round =>
    obtain ⟨i, hi, rfl, hno, hb⟩ := hrel
    obtain ⟨wb, rfl⟩ : ∃ z, z = wr := ⟨_, rfl⟩
    have HNO := Lib.hid hno; have HB := Lib.hid hb
    clear hno hW1 f8
    by_cases hin : i < n
    · have hil : i < x.s.bends.length := by rw [HN.out]; exact hin
      obtain ⟨b, o, eA, hbk, q0, q1⟩ := spot_at (HSB.out wb hb).1 hil
      obtain ⟨s, hs⟩ : ∃ z, x.s.bends[i] = z := ⟨_, rfl⟩
      have HIS := Lib.hid (HIN.out.1 s (by rw [← hs]; exact List.getElem_mem hil))
      rw [hs] at q0 q1
      have hib : i < bl.length := by rw [← HBL.out]; exact hil
      have hse : bl[i] = s := by rw [← hs]; congr 1; exact HBL.out.symm
      have HTK := Lib.hid (show (bl.take (i + 1)).any (fun s => yl.any fun u => decide ((sepSpot s u).cmp r ≤ 0)) = (yl.any fun u => decide ((sepSpot s u).cmp r ≤ 0)) ∧ ((yl.any fun u => decide ((sepSpot s u).cmp r ≤ 0)) = true → bl.any (fun s => yl.any fun u => decide ((sepSpot s u).cmp r ≤ 0)) = true) by
        refine ⟨by rw [any_take hib, HNO.out, hse, Bool.false_or], fun h => ?_⟩
        rw [List.any_eq_true]
        exact ⟨s, by rw [← hse]; exact List.getElem_mem hib, h⟩)
      have hzr := hb.size
      have hbe := (Below.refl wb.heap.size wb).alloc (Nat.le_refl _) (.cells #[.int .i64 s.x, .int .i64 s.y] 82)
      have g0 := cell_new1 wb #[.int .i64 s.x, .int .i64 s.y] 82 0
      have g1 := cell_new1 wb #[.int .i64 s.x, .int .i64 s.y] 82 1
      have hsz2 : (wb.alloc (.cells #[.int .i64 s.x, .int .i64 s.y] 82)).heap.size = wb.heap.size + 1 := by simp
      obtain ⟨W2, hW2⟩ : ∃ z, wb.alloc (.cells #[.int .i64 s.x, .int .i64 s.y] 82) = z := ⟨_, rfl⟩
      rw [hW2] at hbe g0 g1 hsz2
      have HB2 := Lib.hid (HB.out.trans (hbe.mono hzr))
      have HGS := Lib.hid (show ∀ wx, Below W2.heap.size W2 wx → wx.cell? ⟨wb.heap.size, 0, none⟩ = some (.int .i64 s.x) ∧ wx.cell? ⟨wb.heap.size, 1, none⟩ = some (.int .i64 s.y) from fun wx h => ⟨(h.cell (p := ⟨wb.heap.size, 0, none⟩) (by simp; omega)).trans g0, (h.cell (p := ⟨wb.heap.size, 1, none⟩) (by simp; omega)).trans g1⟩)
      have g8 := HG8.out W2 HB2.out
      have i0 : (0 : Int) ≤ (i : Int) := by omega
      have i1 : (i : Int) < (n : Int) := by omega
      subst eA
      clear hs hib hse hb hbe hsz2
      go_wp2
      clear g8 q0 q1 g0 g1 hW2
      go_loopw [21] (fun s21 wr => ∃ j : Nat, j ≤ m ∧ s21 = .int .i64 (j : Int) ∧ (yl.take j).any (fun u => decide ((sepSpot s u).cmp r ≤ 0)) = false ∧ Below W2.heap.size W2 wr) (fun s21 _ => m - (intOf s21).toNat)
      case atStart => exact ⟨0, Nat.zero_le _, rfl, by simp, Below.refl _ _⟩
      case round =>
        obtain ⟨j, hj, rfl, hno, hb⟩ := hrel
        have HNJ := Lib.hid hno; have HBJ := Lib.hid hb
        have HBJ1 := Lib.hid (HB2.out.trans (hb.mono HB2.out.size))
        clear hno
        by_cases hjm : j < m
        · have hjl : j < y.s.bends.length := by rw [HM.out]; exact hjm
          obtain ⟨b', o', eA', hbk', q0, q1⟩ := spot_at (HSB.out wr HBJ1.out).2 hjl
          obtain ⟨v, hv⟩ : ∃ z, y.s.bends[j] = z := ⟨_, rfl⟩
          have hiv := HIN.out.2 v (by rw [← hv]; exact List.getElem_mem hjl)
          rw [hv] at q0 q1
          obtain ⟨p, q, u, C1, C2⟩ := HSG.out s v HIS.out hiv
          have HC1 := Lib.hid C1; have HC2 := Lib.hid C2
          have HTJ := Lib.hid (show (yl.take (j + 1)).any (fun u => decide ((sepSpot s u).cmp r ≤ 0)) = decide ((sepSpot s v).cmp r ≤ 0) ∧ (decide ((sepSpot s v).cmp r ≤ 0) = true → (yl.any fun u => decide ((sepSpot s u).cmp r ≤ 0)) = true) by
            have hjb : j < yl.length := by rw [← HYL.out]; exact hjl
            have hve : yl[j] = v := by rw [← hv]; congr 1; exact HYL.out.symm
            refine ⟨by rw [any_take hjb, HNJ.out, hve, Bool.false_or], fun h => ?_⟩
            rw [List.any_eq_true]
            exact ⟨v, by rw [← hve]; exact List.getElem_mem hjb, h⟩)
          obtain ⟨cv, hcv⟩ : ∃ z, (sepSpot s v).cmp r = z := ⟨_, rfl⟩
          rw [hcv] at HC2 HTJ
          have hbe := (Below.refl wr.heap.size wr).alloc (Nat.le_refl _) (.cells #[.int .i64 v.x, .int .i64 v.y] 82)
          have g0 := cell_new1 wr #[.int .i64 v.x, .int .i64 v.y] 82 0
          have g1 := cell_new1 wr #[.int .i64 v.x, .int .i64 v.y] 82 1
          obtain ⟨W3, hW3⟩ : ∃ z, wr.alloc (.cells #[.int .i64 v.x, .int .i64 v.y] 82) = z := ⟨_, rfl⟩
          rw [hW3] at hbe g0 g1
          have HB3 := Lib.hid (HBJ.out.trans (hbe.mono hb.size))
          obtain ⟨g2, g3⟩ := HGS.out W3 HB3.out
          have j0 : (0 : Int) ≤ (j : Int) := by omega
          have j1 : (j : Int) < (m : Int) := by omega
          subst eA'
          clear hv hiv C1 C2 hcv hb hbe
          go_wp2_with fail
          (with_reducible refine (HC1.out _).mono ?_)
          rintro e w5 ⟨rfl, hb5⟩
          clear hW3 g0 g1 g2 g3 q0 q1
          have HB5 := Lib.hid (HB3.out.trans (hb5.mono HB3.out.size))
          clear hb5
          by_cases hc : cv ≤ 0
          · have HD := Lib.hid (HTK.out.2 (HTJ.out.2 (decide_eq_true hc)))
            go_wp2_with fail
            (with_reducible refine (HC2.out _).mono ?_)
            rintro e w6 ⟨rfl, hb6⟩
            have HB6 := Lib.hid (HB5.out.trans (hb6.mono HB5.out.size))
            clear hb6
            go_wp2
            go_ret
            exact ⟨by rw [HD.out]; rfl, HB1.out.trans ((HB2.out.trans (HB6.out.mono HB2.out.size)).mono HB1.out.size)⟩
          · have HCN := Lib.hid hc
            have hcd : decide (cv ≤ 0) = false := by rw [decide_eq_false_iff_not]; exact hc
            go_wp2_with fail
            (with_reducible refine (HC2.out _).mono ?_)
            rintro e w6 ⟨rfl, hb6⟩
            have HB6 := Lib.hid (HB5.out.trans (hb6.mono HB5.out.size))
            clear hb6
            go_wp2
            go_roundw
            case rel => exact ⟨j + 1, by omega, by go_num, by rw [HTJ.out.1, decide_eq_false_iff_not]; have := HCN.out; omega, HB6.out⟩
            case measure => simp [intOf]; omega
        · have hml : m ≤ j := by omega
          have HD := Lib.hid (show (bl.take (i + 1)).any (fun s => yl.any fun u => decide ((sepSpot s u).cmp r ≤ 0)) = false by
            rw [HTK.out.1]
            have h5 := HNJ.out
            rwa [List.take_of_length_le (by rw [← HYL.out, HM.out]; exact hml)] at h5)
          clear hb
          go_wp2
          go_roundw
          case rel => exact ⟨i + 1, by omega, by go_num, HD.out, HBJ1.out⟩
          case measure => simp [intOf]; omega
    · have hnl : n ≤ i := by omega
      have HD := Lib.hid (show bl.any (fun s => yl.any fun u => decide ((sepSpot s u).cmp r ≤ 0)) = false by
        have h5 := HNO.out
        rwa [List.take_of_length_le (by rw [← HBL.out, HN.out]; exact hnl)] at h5)
      clear hb
      go_wp2
      go_ret
      exact ⟨by rw [HD.out]; rfl, HB1.out.trans (HB.out.mono HB1.out.size)⟩
end Go.Proofs.YtekambdnmaompaaGreat.SW

namespace Go.Proofs.YtekambdnmaompaaGreat.SW
set_option linter.unusedVariables false
set_option linter.unusedSimpArgs false
open Go.RowKit

/-- the four tests in memory -/
def Ts (g : Nat) (w' : World) : Prop := w'.cell? ⟨g, 0, none⟩ = some (.func (.func 116) #[] #[]) ∧ w'.cell? ⟨g, 1, none⟩ = some (.func (.func 62) #[] #[]) ∧ w'.cell? ⟨g, 2, none⟩ = some (.func (.func 117) #[] #[]) ∧ w'.cell? ⟨g, 3, none⟩ = some (.func (.func 118) #[] #[]) ∧ w'.cell? ⟨g, 4, none⟩ = some (.func (.func 119) #[] #[]) ∧ w'.cell? ⟨g, 5, none⟩ = some (.func (.func 120) #[] #[]) ∧ w'.cell? ⟨g, 6, none⟩ = some (.func (.func 121) #[] #[]) ∧ w'.cell? ⟨g, 7, none⟩ = some (.func (.func 122) #[] #[])
theorem Ts.keep {g B : Nat} {w w' : World} (h : Ts g w) (hb : Below B w w') (hk : g < B) : Ts g w' := by
  obtain ⟨h0, h1, h2, h3, h4, h5, h6, h7⟩ := h
  exact ⟨(hb.cell (p := ⟨g, 0, none⟩) hk).trans h0, (hb.cell (p := ⟨g, 1, none⟩) hk).trans h1, (hb.cell (p := ⟨g, 2, none⟩) hk).trans h2, (hb.cell (p := ⟨g, 3, none⟩) hk).trans h3, (hb.cell (p := ⟨g, 4, none⟩) hk).trans h4, (hb.cell (p := ⟨g, 5, none⟩) hk).trans h5, (hb.cell (p := ⟨g, 6, none⟩) hk).trans h6, (hb.cell (p := ⟨g, 7, none⟩) hk).trans h7⟩
set_option maxHeartbeats 1000000 in
theorem tests_any (w : World) : Calls Tryz.prog 91 #[] w fun e w' => (∃ g, e = .returned (.slice (some ⟨g, 0, none⟩) 4 4) ∧ Ts g w' ∧ g < w'.heap.size) ∧ Below w.heap.size w w' := by
  go_enter Tryz.func91, Tryz.ntmps91
  go_wp2
  go_ret
  have c0 := fun i => cell_new1 w #[.func (.func 116) #[] #[], .func (.func 62) #[] #[], .func (.func 117) #[] #[], .func (.func 118) #[] #[], .func (.func 119) #[] #[], .func (.func 120) #[] #[], .func (.func 121) #[] #[], .func (.func 122) #[] #[]] 158 i
  exact ⟨⟨w.heap.size, rfl, ⟨c0 0, c0 1, c0 2, c0 3, c0 4, c0 5, c0 6, c0 7⟩, by simp⟩, (Below.refl _ w).alloc (Nat.le_refl _) _⟩
theorem sw_at {w : World} {B : Nat} {A : Option Addr} {l : List SwM} (h : Sl w B 13 (fun x cs => cs = fSw x) A l) {i : Nat} (hi : i < l.length) :
    ∃ b o, A = some ⟨b, o, none⟩ ∧ b < B ∧ ∀ (j : Nat) (u : Value), (fSw l[i])[j]? = some u → w.cell? ⟨b, o + i * 13 + j, none⟩ = some u := by
  obtain ⟨b, off, cs, e, hb, rfl, hc⟩ := h.at_ hi
  exact ⟨b, off, e, hb, hc⟩
structure SwIn (w : World) (x : SwM) : Prop where
  ok : SwOk x.s
  sl : Sl w w.heap.size 2 CS x.A x.s.bends
  le : x.s.bends.length ≤ 1000
theorem SwIn.below {w w' : World} {x : SwM} (h : SwIn w x) (hb : Below w.heap.size w w') : SwIn w' x := ⟨h.ok, (h.sl.below hb).more (fun _ _ h => h) hb.size, h.le⟩
structure Pr (hx sx : Int) : Prop where
  h1 : 0 ≤ hx
  h2 : hx ≤ 10000
  h3 : 0 ≤ sx
  h4 : sx ≤ 10000
set_option maxRecDepth 100000 in
set_option maxHeartbeats 16000000 in
theorem foulSome_any (x : SwM) (A : Option Addr) (c n : Nat) (hx sx hy sy : Int) (l : List SwM) (w : World) (hn : l.length = n) (hn2 : n ≤ 1000000) (hP : Pr hx sx) (hQ : Pr hy sy) (hX : SwIn w x) (hL : ∀ y ∈ l, SwIn w y) (hS : Sl w w.heap.size 13 (fun x cs => cs = fSw x) A l) :
    Calls Tryz.prog 67 #[.agg (fSw x).toArray, .agg #[.int .i64 hx, .int .i64 sx], .slice A n c, .agg #[.int .i64 hy, .int .i64 sy]] w fun e w' => e = .returned (.bool (l.any fun y => foulB x.s y.s hx sx hy sy)) ∧ Below w.heap.size w w' := by
  have hbx := (((Below.refl _ w).alloc (Nat.le_refl _) (.cells #[.int .i64 x.s.rail, .int .i64 x.s.seg, .int .i64 x.s.a.x, .int .i64 x.s.a.y, .int .i64 x.s.b.x, .int .i64 x.s.b.y, .int .i64 x.s.bg, .int .i64 x.s.en, .slice x.A x.s.bends.length x.c, .int .i64 (min x.s.a.x x.s.b.x), .int .i64 (min x.s.a.y x.s.b.y), .int .i64 (max x.s.a.x x.s.b.x), .int .i64 (max x.s.a.y x.s.b.y)] 98)).alloc (by simp) (.cells #[.int .i64 hx, .int .i64 sx] 46)).alloc (by simp; omega) (.cells #[.int .i64 hy, .int .i64 sy] 46)
  have hz : (((w.alloc (.cells #[.int .i64 x.s.rail, .int .i64 x.s.seg, .int .i64 x.s.a.x, .int .i64 x.s.a.y, .int .i64 x.s.b.x, .int .i64 x.s.b.y, .int .i64 x.s.bg, .int .i64 x.s.en, .slice x.A x.s.bends.length x.c, .int .i64 (min x.s.a.x x.s.b.x), .int .i64 (min x.s.a.y x.s.b.y), .int .i64 (max x.s.a.x x.s.b.x), .int .i64 (max x.s.a.y x.s.b.y)] 98)).alloc (.cells #[.int .i64 hx, .int .i64 sx] 46)).alloc (.cells #[.int .i64 hy, .int .i64 sy] 46)).heap.size = w.heap.size + 3 := by simp
  have hb3 := fun i => box_cells3 w #[.int .i64 x.s.rail, .int .i64 x.s.seg, .int .i64 x.s.a.x, .int .i64 x.s.a.y, .int .i64 x.s.b.x, .int .i64 x.s.b.y, .int .i64 x.s.bg, .int .i64 x.s.en, .slice x.A x.s.bends.length x.c, .int .i64 (min x.s.a.x x.s.b.x), .int .i64 (min x.s.a.y x.s.b.y), .int .i64 (max x.s.a.x x.s.b.x), .int .i64 (max x.s.a.y x.s.b.y)] #[.int .i64 hx, .int .i64 sx] #[.int .i64 hy, .int .i64 sy] 98 46 46 i
  have hB1 := ((Bx.new w x).keep ((Below.refl _ (w.alloc (.cells #[.int .i64 x.s.rail, .int .i64 x.s.seg, .int .i64 x.s.a.x, .int .i64 x.s.a.y, .int .i64 x.s.b.x, .int .i64 x.s.b.y, .int .i64 x.s.bg, .int .i64 x.s.en, .slice x.A x.s.bends.length x.c, .int .i64 (min x.s.a.x x.s.b.x), .int .i64 (min x.s.a.y x.s.b.y), .int .i64 (max x.s.a.x x.s.b.x), .int .i64 (max x.s.a.y x.s.b.y)] 98))).alloc (Nat.le_refl _) (.cells #[.int .i64 hx, .int .i64 sx] 46)) (by simp)).keep ((Below.refl _ ((w.alloc (.cells #[.int .i64 x.s.rail, .int .i64 x.s.seg, .int .i64 x.s.a.x, .int .i64 x.s.a.y, .int .i64 x.s.b.x, .int .i64 x.s.b.y, .int .i64 x.s.bg, .int .i64 x.s.en, .slice x.A x.s.bends.length x.c, .int .i64 (min x.s.a.x x.s.b.x), .int .i64 (min x.s.a.y x.s.b.y), .int .i64 (max x.s.a.x x.s.b.x), .int .i64 (max x.s.a.y x.s.b.y)] 98)).alloc (.cells #[.int .i64 hx, .int .i64 sx] 46))).alloc (Nat.le_refl _) (.cells #[.int .i64 hy, .int .i64 sy] 46)) (by simp; omega)
  obtain ⟨W1, hW1⟩ : ∃ z, ((w.alloc (.cells #[.int .i64 x.s.rail, .int .i64 x.s.seg, .int .i64 x.s.a.x, .int .i64 x.s.a.y, .int .i64 x.s.b.x, .int .i64 x.s.b.y, .int .i64 x.s.bg, .int .i64 x.s.en, .slice x.A x.s.bends.length x.c, .int .i64 (min x.s.a.x x.s.b.x), .int .i64 (min x.s.a.y x.s.b.y), .int .i64 (max x.s.a.x x.s.b.x), .int .i64 (max x.s.a.y x.s.b.y)] 98)).alloc (.cells #[.int .i64 hx, .int .i64 sx] 46)).alloc (.cells #[.int .i64 hy, .int .i64 sy] 46) = z := ⟨_, rfl⟩
  rw [hW1] at hbx hz hB1
  have hc := fun i => (show W1.cell? ⟨w.heap.size + 1, i, none⟩ = #[Value.int .i64 hx, .int .i64 sx][i]? ∧ W1.cell? ⟨w.heap.size + 1 + 1, i, none⟩ = #[Value.int .i64 hy, .int .i64 sy][i]? from by rw [← hW1]; exact hb3 i)
  have HB1 := Lib.hid hbx
  have HP4 := Lib.hid (show ∀ wx, Below W1.heap.size W1 wx → Bx w.heap.size x wx ∧ wx.cell? ⟨w.heap.size + 1, 0, none⟩ = some (.int .i64 hx) ∧ wx.cell? ⟨w.heap.size + 1, 1, none⟩ = some (.int .i64 sx) ∧ wx.cell? ⟨w.heap.size + 1 + 1, 0, none⟩ = some (.int .i64 hy) ∧ wx.cell? ⟨w.heap.size + 1 + 1, 1, none⟩ = some (.int .i64 sy) from fun wx h =>
    ⟨hB1.keep h (by omega), (h.cell (p := ⟨w.heap.size + 1, 0, none⟩) (by simp; omega)).trans (hc 0).1, (h.cell (p := ⟨w.heap.size + 1, 1, none⟩) (by simp; omega)).trans (hc 1).1, (h.cell (p := ⟨w.heap.size + 1 + 1, 0, none⟩) (by simp; omega)).trans (hc 0).2, (h.cell (p := ⟨w.heap.size + 1 + 1, 1, none⟩) (by simp; omega)).trans (hc 1).2⟩)
  have HSL := Lib.hid (show ∀ wx, Below W1.heap.size W1 wx → Sl wx wx.heap.size 13 (fun x cs => cs = fSw x) A l from fun wx h => (hS.below (hbx.trans (h.mono (by omega)))).more (fun _ _ h => h) (by have := h.size; omega))
  have HXI := Lib.hid (show ∀ wx, Below W1.heap.size W1 wx → SwIn wx x from fun wx h => hX.below (hbx.trans (h.mono (by omega))))
  have HLI := Lib.hid (show ∀ y ∈ l, ∀ wx, Below W1.heap.size W1 wx → SwIn wx y from fun y hy' wx h => (hL y hy').below (hbx.trans (h.mono (by omega))))
  obtain ⟨p1, p2, p3, p4⟩ := hP
  obtain ⟨q1, q2, q3, q4⟩ := hQ
  have HR1 := Lib.hid (fun w => reach1_any hx sx hy sy w p1 p2 p3 p4 q1 q2 q3 q4)
  have HR2 := Lib.hid (fun w => reach2_any hx sx hy sy w p1 p2 p3 p4 q1 q2 q3 q4)
  have HR3 := Lib.hid (fun w => reach3_any hx sx hy sy w p1 p2 p3 p4 q1 q2 q3 q4)
  have HR4 := Lib.hid (fun w => reach4_any hx sx hy sy w p1 p2 p3 p4 q1 q2 q3 q4)
  obtain ⟨r1, e1⟩ : ∃ z, hx + hy = z := ⟨_, rfl⟩
  obtain ⟨r2, e2⟩ : ∃ z, hx + sx + hy = z := ⟨_, rfl⟩
  obtain ⟨r3, e3⟩ : ∃ z, hx + hy + sy = z := ⟨_, rfl⟩
  obtain ⟨r4, e4⟩ : ∃ z, hx + sx + hy + sy = z := ⟨_, rfl⟩
  rw [e1] at HR1; rw [e2] at HR2; rw [e3] at HR3; rw [e4] at HR4
  have HRB := Lib.hid (show (0 ≤ r1 ∧ r1 ≤ 1000000) ∧ (0 ≤ r2 ∧ r2 ≤ 1000000) ∧ (0 ≤ r3 ∧ r3 ≤ 1000000) ∧ (0 ≤ r4 ∧ r4 ≤ 1000000) by omega)
  have HFB := Lib.hid (show ∀ y : Swp, foulB x.s y hx sx hy sy = ((!farB x.s y r1 && sidesB x.s y r1) || ((!farB x.s y r2 && bendsB x.s y r2) || ((!farB x.s y r3 && bendsB y x.s r3) || (!farB x.s y r4 && bothB x.s y r4)))) from fun y => by unfold foulB; rw [e4, e3, e2, e1])
  obtain ⟨f, hf⟩ : ∃ f : SwM → Bool, f = fun y => foulB x.s y.s hx sx hy sy := ⟨_, rfl⟩
  have HF := Lib.hid (show ∀ y, f y = foulB x.s y.s hx sx hy sy from fun y => by rw [hf])
  rw [show (l.any fun y => foulB x.s y.s hx sx hy sy) = l.any f by rw [hf]]
  have HN := Lib.hid hn
  rw [show (fSw x).toArray = #[.int .i64 x.s.rail, .int .i64 x.s.seg, .int .i64 x.s.a.x, .int .i64 x.s.a.y, .int .i64 x.s.b.x, .int .i64 x.s.b.y, .int .i64 x.s.bg, .int .i64 x.s.en, .slice x.A x.s.bends.length x.c, .int .i64 (min x.s.a.x x.s.b.x), .int .i64 (min x.s.a.y x.s.b.y), .int .i64 (max x.s.a.x x.s.b.x), .int .i64 (max x.s.a.y x.s.b.y)] from rfl]
  clear hb3 hc hz hB1 hbx hX hL hS e1 e2 e3 e4 hf hn p1 p2 p3 p4 q1 q2 q3 q4
  go_enter Tryz.func67, Tryz.ntmps67
  go_wp2
  go_step3
  go_wp2_with fail
  refine (tests_any _).mono ?_
  rintro e w2 ⟨⟨g, rfl, hts, hgl⟩, hb2⟩
  clear hW1
  have HB2 := Lib.hid hb2
  have HTS := Lib.hid (show ∀ wx, Below w2.heap.size w2 wx → Ts g wx from fun wx h => hts.keep h hgl)
  clear hts hgl hb2
  go_wp2
  go_step3
  go_wp2
  go_loopw [10, 19] (fun s10 s19 wr => ∃ i : Nat, i ≤ n ∧ s10 = .bool false ∧ s19 = .int .i64 (i : Int) ∧ (l.take i).any f = false ∧ Below w2.heap.size w2 wr) (fun _ s19 _ => n - (intOf s19).toNat)
  case atStart => exact ⟨0, Nat.zero_le _, rfl, rfl, by simp, Below.refl _ _⟩
  case round =>
    obtain ⟨i, hi, rfl, rfl, hno, hb⟩ := hrel
    obtain ⟨wb, rfl⟩ : ∃ z, z = wr := ⟨_, rfl⟩
    have HNO := Lib.hid hno; have HB := Lib.hid hb
    have HBW := Lib.hid (HB2.out.trans (hb.mono HB2.out.size))
    have hzr := hb.size
    clear hno hb
    by_cases hin : i < n
    · have hil : i < l.length := by rw [HN.out]; exact hin
      obtain ⟨b, o, eA, hbk, hcs⟩ := sw_at (HSL.out wb HBW.out) hil
      obtain ⟨y, hyl⟩ : ∃ z, l[i] = z := ⟨_, rfl⟩
      rw [hyl] at hcs
      have hym : y ∈ l := by rw [← hyl]; exact List.getElem_mem hil
      have HYI := Lib.hid (HLI.out y hym)
      have HTK := Lib.hid (show (l.take (i + 1)).any f = f y ∧ (f y = true → l.any f = true) from ⟨by rw [any_take hil, HNO.out, hyl, Bool.false_or], fun h => by
        rw [List.any_eq_true]; exact ⟨y, hym, h⟩⟩)
      have q0 := hcs 0 _ rfl
      rw [Nat.add_zero] at q0
      have q1 := hcs 1 _ rfl
      have q2 := hcs 2 _ rfl
      have q3 := hcs 3 _ rfl
      have q4 := hcs 4 _ rfl
      have q5 := hcs 5 _ rfl
      have q6 := hcs 6 _ rfl
      have q7 := hcs 7 _ rfl
      have q8 := hcs 8 _ rfl
      have q9 := hcs 9 _ rfl
      have q10 := hcs 10 _ rfl
      have q11 := hcs 11 _ rfl
      have q12 := hcs 12 _ rfl
      have hbe := (Below.refl wb.heap.size wb).alloc (Nat.le_refl _) (.cells #[.int .i64 y.s.rail, .int .i64 y.s.seg, .int .i64 y.s.a.x, .int .i64 y.s.a.y, .int .i64 y.s.b.x, .int .i64 y.s.b.y, .int .i64 y.s.bg, .int .i64 y.s.en, .slice y.A y.s.bends.length y.c, .int .i64 (min y.s.a.x y.s.b.x), .int .i64 (min y.s.a.y y.s.b.y), .int .i64 (max y.s.a.x y.s.b.x), .int .i64 (max y.s.a.y y.s.b.y)] 98)
      have hby := Bx.new wb y
      have hsz : (wb.alloc (.cells #[.int .i64 y.s.rail, .int .i64 y.s.seg, .int .i64 y.s.a.x, .int .i64 y.s.a.y, .int .i64 y.s.b.x, .int .i64 y.s.b.y, .int .i64 y.s.bg, .int .i64 y.s.en, .slice y.A y.s.bends.length y.c, .int .i64 (min y.s.a.x y.s.b.x), .int .i64 (min y.s.a.y y.s.b.y), .int .i64 (max y.s.a.x y.s.b.x), .int .i64 (max y.s.a.y y.s.b.y)] 98)).heap.size = wb.heap.size + 1 := by simp
      obtain ⟨W2, hW2⟩ : ∃ z, wb.alloc (.cells #[.int .i64 y.s.rail, .int .i64 y.s.seg, .int .i64 y.s.a.x, .int .i64 y.s.a.y, .int .i64 y.s.b.x, .int .i64 y.s.b.y, .int .i64 y.s.bg, .int .i64 y.s.en, .slice y.A y.s.bends.length y.c, .int .i64 (min y.s.a.x y.s.b.x), .int .i64 (min y.s.a.y y.s.b.y), .int .i64 (max y.s.a.x y.s.b.x), .int .i64 (max y.s.a.y y.s.b.y)] 98) = z := ⟨_, rfl⟩
      rw [hW2] at hbe hby hsz
      have HBE := Lib.hid (HBW.out.trans (hbe.mono HBW.out.size))
      have HBE2 := Lib.hid (HB.out.trans (hbe.mono hzr))
      have HBY := Lib.hid (show ∀ wx, Below W2.heap.size W2 wx → Bx wb.heap.size y wx from fun wx h => hby.keep h (by omega))
      obtain ⟨t1, ht1⟩ : ∃ z, (!farB x.s y.s r1 && sidesB x.s y.s r1) = z := ⟨_, rfl⟩
      obtain ⟨t2, ht2⟩ : ∃ z, (!farB x.s y.s r2 && bendsB x.s y.s r2) = z := ⟨_, rfl⟩
      obtain ⟨t3, ht3⟩ : ∃ z, (!farB x.s y.s r3 && bendsB y.s x.s r3) = z := ⟨_, rfl⟩
      obtain ⟨t4, ht4⟩ : ∃ z, (!farB x.s y.s r4 && bothB x.s y.s r4) = z := ⟨_, rfl⟩
      have HT1 := Lib.hid ht1; have HT2 := Lib.hid ht2; have HT3 := Lib.hid ht3; have HT4 := Lib.hid ht4
      have HFY := Lib.hid (show f y = (t1 || (t2 || (t3 || t4))) by rw [HF.out, HFB.out, ht1, ht2, ht3, ht4])
      have i0 : (0 : Int) ≤ (i : Int) := by omega
      have i1 : (i : Int) < (n : Int) := by omega
      subst eA
      clear hcs hyl hym hbe hby ht1 ht2 ht3 ht4
      go_wp2
      clear hW2 q0 q1 q2 q3 q4 q5 q6 q7 q8 q9 q10 q11 q12
      go_loopw [10, 25] (fun s10 s25 wr => Below W2.heap.size W2 wr ∧ s10 = .bool false ∧ ((s25 = .int .i64 0) ∨ (s25 = .int .i64 1 ∧ t1 = false) ∨ (s25 = .int .i64 2 ∧ t1 = false ∧ t2 = false) ∨ (s25 = .int .i64 3 ∧ t1 = false ∧ t2 = false ∧ t3 = false) ∨ (s25 = .int .i64 4 ∧ t1 = false ∧ t2 = false ∧ t3 = false ∧ t4 = false))) (fun _ s25 _ => 4 - (intOf s25).toNat)
      case atStart => exact ⟨Below.refl _ _, rfl, .inl rfl⟩
      case round =>
        obtain ⟨hb, rfl, rfl | ⟨rfl, z1⟩ | ⟨rfl, z1, z2⟩ | ⟨rfl, z1, z2, z3⟩ | ⟨rfl, z1, z2, z3, z4⟩⟩ := hrel
        · have HBC := Lib.hid hb
          have hts := HTS.out wr (HBE2.out.trans (hb.mono HBE2.out.size))
          obtain ⟨c0, c1, c2, c3, c4, c5, c6, c7⟩ := hts
          have hbe := (Below.refl wr.heap.size wr).alloc (Nat.le_refl _) (.cells #[.func (.func 116) #[] #[], .func (.func 62) #[] #[]] 158)
          have k0 := cell_new1 wr #[.func (.func 116) #[] #[], .func (.func 62) #[] #[]] 158 0
          have k1 := cell_new1 wr #[.func (.func 116) #[] #[], .func (.func 62) #[] #[]] 158 1
          have hzz : (wr.alloc (.cells #[.func (.func 116) #[] #[], .func (.func 62) #[] #[]] 158)).heap.size = wr.heap.size + 1 := by simp
          obtain ⟨W3, hW3⟩ : ∃ z, wr.alloc (.cells #[.func (.func 116) #[] #[], .func (.func 62) #[] #[]] 158) = z := ⟨_, rfl⟩
          rw [hW3] at hbe k0 k1 hzz
          have hq : Below W2.heap.size W2 W3 := hb.trans (hbe.mono hb.size)
          have HK1 := Lib.hid (show ∀ wx, Below W3.heap.size W3 wx → wx.cell? ⟨wr.heap.size, 0, none⟩ = some (.func (.func 116) #[] #[]) ∧ wx.cell? ⟨wr.heap.size, 1, none⟩ = some (.func (.func 62) #[] #[]) from fun wx h => ⟨(h.cell (p := ⟨wr.heap.size, 0, none⟩) (by simp; omega)).trans k0, (h.cell (p := ⟨wr.heap.size, 1, none⟩) (by simp; omega)).trans k1⟩)
          have HQ3 := Lib.hid hq
          obtain ⟨bX, pa, pb, pc, pd⟩ := HP4.out W3 (HBE.out.trans (hq.mono HBE.out.size))
          have bY := HBY.out W3 hq
          have f0 := bX 0 _ rfl; have g0 := bY 0 _ rfl
          have f1 := bX 1 _ rfl; have g1 := bY 1 _ rfl
          have f2 := bX 2 _ rfl; have g2 := bY 2 _ rfl
          have f3 := bX 3 _ rfl; have g3 := bY 3 _ rfl
          have f4 := bX 4 _ rfl; have g4 := bY 4 _ rfl
          have f5 := bX 5 _ rfl; have g5 := bY 5 _ rfl
          have f6 := bX 6 _ rfl; have g6 := bY 6 _ rfl
          have f7 := bX 7 _ rfl; have g7 := bY 7 _ rfl
          have f8 := bX 8 _ rfl; have g8 := bY 8 _ rfl
          have f9 := bX 9 _ rfl; have g9 := bY 9 _ rfl
          have f10 := bX 10 _ rfl; have g10 := bY 10 _ rfl
          have f11 := bX 11 _ rfl; have g11 := bY 11 _ rfl
          have f12 := bX 12 _ rfl; have g12 := bY 12 _ rfl
          clear bX bY
          clear hb hbe hq
          go_wp2_with fail
          (with_reducible refine (HR1.out _).mono ?_)
          rintro e w5 ⟨rfl, hb5⟩
          have HB5 := Lib.hid hb5
          have hq := HQ3.out.trans (hb5.mono HQ3.out.size)
          have HQ5 := Lib.hid hq
          clear hW3 f0 g0 f1 g1 f2 g2 f3 g3 f4 g4 f5 g5 f6 g6 f7 g7 f8 g8 f9 g9 f10 g10 f11 g11 f12 g12 pa pb pc pd c0 c1 c2 c3 c4 c5 c6 c7 k0 k1
          obtain ⟨k0, k1⟩ := HK1.out w5 hb5
          obtain ⟨bX, pa, pb, pc, pd⟩ := HP4.out w5 (HBE.out.trans (hq.mono HBE.out.size))
          have bY := HBY.out w5 hq
          have f0 := bX 0 _ rfl; have g0 := bY 0 _ rfl
          have f1 := bX 1 _ rfl; have g1 := bY 1 _ rfl
          have f2 := bX 2 _ rfl; have g2 := bY 2 _ rfl
          have f3 := bX 3 _ rfl; have g3 := bY 3 _ rfl
          have f4 := bX 4 _ rfl; have g4 := bY 4 _ rfl
          have f5 := bX 5 _ rfl; have g5 := bY 5 _ rfl
          have f6 := bX 6 _ rfl; have g6 := bY 6 _ rfl
          have f7 := bX 7 _ rfl; have g7 := bY 7 _ rfl
          have f8 := bX 8 _ rfl; have g8 := bY 8 _ rfl
          have f9 := bX 9 _ rfl; have g9 := bY 9 _ rfl
          have f10 := bX 10 _ rfl; have g10 := bY 10 _ rfl
          have f11 := bX 11 _ rfl; have g11 := bY 11 _ rfl
          have f12 := bX 12 _ rfl; have g12 := bY 12 _ rfl
          clear bX bY
          have HFAR := Lib.hid (far_any x y r1 w5 (HXI.out w5 (HBE.out.trans (hq.mono HBE.out.size))).ok (HYI.out w5 (HBE.out.trans (hq.mono HBE.out.size))).ok)
          have HNEAR := Lib.hid (fun w (h : Below W1.heap.size W1 w) => sides_any x y r1 w (HXI.out w h).ok (HYI.out w h).ok HRB.out.1.1 HRB.out.1.2)
          have HTT := HT1
          obtain ⟨fa, hfa⟩ : ∃ z, farB x.s y.s r1 = z := ⟨_, rfl⟩
          obtain ⟨ne, hne⟩ : ∃ z, sidesB x.s y.s r1 = z := ⟨_, rfl⟩
          rw [hfa] at HFAR HTT
          rw [hne] at HNEAR HTT
          rw [show (fSw x).toArray = #[.int .i64 x.s.rail, .int .i64 x.s.seg, .int .i64 x.s.a.x, .int .i64 x.s.a.y, .int .i64 x.s.b.x, .int .i64 x.s.b.y, .int .i64 x.s.bg, .int .i64 x.s.en, .slice x.A x.s.bends.length x.c, .int .i64 (min x.s.a.x x.s.b.x), .int .i64 (min x.s.a.y x.s.b.y), .int .i64 (max x.s.a.x x.s.b.x), .int .i64 (max x.s.a.y x.s.b.y)] from rfl, show (fSw y).toArray = #[.int .i64 y.s.rail, .int .i64 y.s.seg, .int .i64 y.s.a.x, .int .i64 y.s.a.y, .int .i64 y.s.b.x, .int .i64 y.s.b.y, .int .i64 y.s.bg, .int .i64 y.s.en, .slice y.A y.s.bends.length y.c, .int .i64 (min y.s.a.x y.s.b.x), .int .i64 (min y.s.a.y y.s.b.y), .int .i64 (max y.s.a.x y.s.b.x), .int .i64 (max y.s.a.y y.s.b.y)] from rfl] at HFAR HNEAR
          clear hfa hne hb5 hq
          cases fa with
          | true =>
            have HZZ := Lib.hid (show t1 = false from HTT.out.symm)
            go_wp2_with fail
            (with_reducible refine HFAR.out.mono ?_)
            rintro e w6 ⟨rfl, hb6⟩
            have HQ6 := Lib.hid (HQ5.out.trans (hb6.mono HQ5.out.size))
            clear hb6 f0 g0 f1 g1 f2 g2 f3 g3 f4 g4 f5 g5 f6 g6 f7 g7 f8 g8 f9 g9 f10 g10 f11 g11 f12 g12 pa pb pc pd k0 k1 HNEAR
            go_wp2
            go_roundw
            case rel => exact ⟨HQ6.out, rfl, .inr (.inl ⟨rfl, HZZ.out⟩)⟩
            case measure => simp [intOf]
          | false =>
            go_wp2_with fail
            (with_reducible refine HFAR.out.mono ?_)
            rintro e w6 ⟨rfl, hb6⟩
            have hq := HQ5.out.trans (hb6.mono HQ5.out.size)
            have HQ6 := Lib.hid hq
            clear f0 g0 f1 g1 f2 g2 f3 g3 f4 g4 f5 g5 f6 g6 f7 g7 f8 g8 f9 g9 f10 g10 f11 g11 f12 g12 pa pb pc pd k0 k1
            obtain ⟨k0, k1⟩ := HK1.out w6 (HB5.out.trans (hb6.mono HB5.out.size))
            obtain ⟨bX, pa, pb, pc, pd⟩ := HP4.out w6 (HBE.out.trans (hq.mono HBE.out.size))
            have bY := HBY.out w6 hq
            have f0 := bX 0 _ rfl; have g0 := bY 0 _ rfl
            have f1 := bX 1 _ rfl; have g1 := bY 1 _ rfl
            have f2 := bX 2 _ rfl; have g2 := bY 2 _ rfl
            have f3 := bX 3 _ rfl; have g3 := bY 3 _ rfl
            have f4 := bX 4 _ rfl; have g4 := bY 4 _ rfl
            have f5 := bX 5 _ rfl; have g5 := bY 5 _ rfl
            have f6 := bX 6 _ rfl; have g6 := bY 6 _ rfl
            have f7 := bX 7 _ rfl; have g7 := bY 7 _ rfl
            have f8 := bX 8 _ rfl; have g8 := bY 8 _ rfl
            have f9 := bX 9 _ rfl; have g9 := bY 9 _ rfl
            have f10 := bX 10 _ rfl; have g10 := bY 10 _ rfl
            have f11 := bX 11 _ rfl; have g11 := bY 11 _ rfl
            have f12 := bX 12 _ rfl; have g12 := bY 12 _ rfl
            clear bX bY
            have HNE := Lib.hid (HNEAR.out w6 (HBE.out.trans (hq.mono HBE.out.size)))
            clear hb6 hq HNEAR
            cases ne with
            | false =>
              have HZZ := Lib.hid (show t1 = false from HTT.out.symm)
              go_wp2_with fail
              (with_reducible refine HNE.out.mono ?_)
              rintro e w7 ⟨rfl, hb7⟩
              have HQ7 := Lib.hid (HQ6.out.trans (hb7.mono HQ6.out.size))
              clear hb7 f0 g0 f1 g1 f2 g2 f3 g3 f4 g4 f5 g5 f6 g6 f7 g7 f8 g8 f9 g9 f10 g10 f11 g11 f12 g12 pa pb pc pd k0 k1
              go_wp2
              go_roundw
              case rel => exact ⟨HQ7.out, rfl, .inr (.inl ⟨rfl, HZZ.out⟩)⟩
              case measure => simp [intOf]
            | true =>
              have HD := Lib.hid (HTK.out.2 (by rw [HFY.out, show t1 = true from HTT.out.symm]; simp))
              go_wp2_with fail
              (with_reducible refine HNE.out.mono ?_)
              rintro e w7 ⟨rfl, hb7⟩
              have HQ7 := Lib.hid (HQ6.out.trans (hb7.mono HQ6.out.size))
              clear hb7 f0 g0 f1 g1 f2 g2 f3 g3 f4 g4 f5 g5 f6 g6 f7 g7 f8 g8 f9 g9 f10 g10 f11 g11 f12 g12 pa pb pc pd k0 k1
              go_wp2
              try rw [Exit.noGoto_ret]
              go_ret
              exact ⟨by rw [HD.out]; rfl, HB1.out.trans ((HBE.out.trans (HQ7.out.mono HBE.out.size)).mono HB1.out.size)⟩
        · have HBC := Lib.hid hb
          have hts := HTS.out wr (HBE2.out.trans (hb.mono HBE2.out.size))
          obtain ⟨c0, c1, c2, c3, c4, c5, c6, c7⟩ := hts
          have hbe := (Below.refl wr.heap.size wr).alloc (Nat.le_refl _) (.cells #[.func (.func 117) #[] #[], .func (.func 118) #[] #[]] 158)
          have k0 := cell_new1 wr #[.func (.func 117) #[] #[], .func (.func 118) #[] #[]] 158 0
          have k1 := cell_new1 wr #[.func (.func 117) #[] #[], .func (.func 118) #[] #[]] 158 1
          have hzz : (wr.alloc (.cells #[.func (.func 117) #[] #[], .func (.func 118) #[] #[]] 158)).heap.size = wr.heap.size + 1 := by simp
          obtain ⟨W3, hW3⟩ : ∃ z, wr.alloc (.cells #[.func (.func 117) #[] #[], .func (.func 118) #[] #[]] 158) = z := ⟨_, rfl⟩
          rw [hW3] at hbe k0 k1 hzz
          have hq : Below W2.heap.size W2 W3 := hb.trans (hbe.mono hb.size)
          have HK1 := Lib.hid (show ∀ wx, Below W3.heap.size W3 wx → wx.cell? ⟨wr.heap.size, 0, none⟩ = some (.func (.func 117) #[] #[]) ∧ wx.cell? ⟨wr.heap.size, 1, none⟩ = some (.func (.func 118) #[] #[]) from fun wx h => ⟨(h.cell (p := ⟨wr.heap.size, 0, none⟩) (by simp; omega)).trans k0, (h.cell (p := ⟨wr.heap.size, 1, none⟩) (by simp; omega)).trans k1⟩)
          have HQ3 := Lib.hid hq
          obtain ⟨bX, pa, pb, pc, pd⟩ := HP4.out W3 (HBE.out.trans (hq.mono HBE.out.size))
          have bY := HBY.out W3 hq
          have f0 := bX 0 _ rfl; have g0 := bY 0 _ rfl
          have f1 := bX 1 _ rfl; have g1 := bY 1 _ rfl
          have f2 := bX 2 _ rfl; have g2 := bY 2 _ rfl
          have f3 := bX 3 _ rfl; have g3 := bY 3 _ rfl
          have f4 := bX 4 _ rfl; have g4 := bY 4 _ rfl
          have f5 := bX 5 _ rfl; have g5 := bY 5 _ rfl
          have f6 := bX 6 _ rfl; have g6 := bY 6 _ rfl
          have f7 := bX 7 _ rfl; have g7 := bY 7 _ rfl
          have f8 := bX 8 _ rfl; have g8 := bY 8 _ rfl
          have f9 := bX 9 _ rfl; have g9 := bY 9 _ rfl
          have f10 := bX 10 _ rfl; have g10 := bY 10 _ rfl
          have f11 := bX 11 _ rfl; have g11 := bY 11 _ rfl
          have f12 := bX 12 _ rfl; have g12 := bY 12 _ rfl
          clear bX bY
          clear hb hbe hq
          go_wp2_with fail
          (with_reducible refine (HR2.out _).mono ?_)
          rintro e w5 ⟨rfl, hb5⟩
          have HB5 := Lib.hid hb5
          have hq := HQ3.out.trans (hb5.mono HQ3.out.size)
          have HQ5 := Lib.hid hq
          clear hW3 f0 g0 f1 g1 f2 g2 f3 g3 f4 g4 f5 g5 f6 g6 f7 g7 f8 g8 f9 g9 f10 g10 f11 g11 f12 g12 pa pb pc pd c0 c1 c2 c3 c4 c5 c6 c7 k0 k1
          obtain ⟨k0, k1⟩ := HK1.out w5 hb5
          obtain ⟨bX, pa, pb, pc, pd⟩ := HP4.out w5 (HBE.out.trans (hq.mono HBE.out.size))
          have bY := HBY.out w5 hq
          have f0 := bX 0 _ rfl; have g0 := bY 0 _ rfl
          have f1 := bX 1 _ rfl; have g1 := bY 1 _ rfl
          have f2 := bX 2 _ rfl; have g2 := bY 2 _ rfl
          have f3 := bX 3 _ rfl; have g3 := bY 3 _ rfl
          have f4 := bX 4 _ rfl; have g4 := bY 4 _ rfl
          have f5 := bX 5 _ rfl; have g5 := bY 5 _ rfl
          have f6 := bX 6 _ rfl; have g6 := bY 6 _ rfl
          have f7 := bX 7 _ rfl; have g7 := bY 7 _ rfl
          have f8 := bX 8 _ rfl; have g8 := bY 8 _ rfl
          have f9 := bX 9 _ rfl; have g9 := bY 9 _ rfl
          have f10 := bX 10 _ rfl; have g10 := bY 10 _ rfl
          have f11 := bX 11 _ rfl; have g11 := bY 11 _ rfl
          have f12 := bX 12 _ rfl; have g12 := bY 12 _ rfl
          clear bX bY
          have HFAR := Lib.hid (far_any x y r2 w5 (HXI.out w5 (HBE.out.trans (hq.mono HBE.out.size))).ok (HYI.out w5 (HBE.out.trans (hq.mono HBE.out.size))).ok)
          have HNEAR := Lib.hid (fun w (h : Below W1.heap.size W1 w) => bends_any x y r2 w (HXI.out w h).ok (HYI.out w h).ok (HXI.out w h).sl (HXI.out w h).le HRB.out.2.1.1 HRB.out.2.1.2)
          have HTT := HT2
          obtain ⟨fa, hfa⟩ : ∃ z, farB x.s y.s r2 = z := ⟨_, rfl⟩
          obtain ⟨ne, hne⟩ : ∃ z, bendsB x.s y.s r2 = z := ⟨_, rfl⟩
          rw [hfa] at HFAR HTT
          rw [hne] at HNEAR HTT
          rw [show (fSw x).toArray = #[.int .i64 x.s.rail, .int .i64 x.s.seg, .int .i64 x.s.a.x, .int .i64 x.s.a.y, .int .i64 x.s.b.x, .int .i64 x.s.b.y, .int .i64 x.s.bg, .int .i64 x.s.en, .slice x.A x.s.bends.length x.c, .int .i64 (min x.s.a.x x.s.b.x), .int .i64 (min x.s.a.y x.s.b.y), .int .i64 (max x.s.a.x x.s.b.x), .int .i64 (max x.s.a.y x.s.b.y)] from rfl, show (fSw y).toArray = #[.int .i64 y.s.rail, .int .i64 y.s.seg, .int .i64 y.s.a.x, .int .i64 y.s.a.y, .int .i64 y.s.b.x, .int .i64 y.s.b.y, .int .i64 y.s.bg, .int .i64 y.s.en, .slice y.A y.s.bends.length y.c, .int .i64 (min y.s.a.x y.s.b.x), .int .i64 (min y.s.a.y y.s.b.y), .int .i64 (max y.s.a.x y.s.b.x), .int .i64 (max y.s.a.y y.s.b.y)] from rfl] at HFAR HNEAR
          clear hfa hne hb5 hq
          cases fa with
          | true =>
            have HZZ := Lib.hid (show t1 = false ∧ t2 = false from ⟨z1, HTT.out.symm⟩)
            go_wp2_with fail
            (with_reducible refine HFAR.out.mono ?_)
            rintro e w6 ⟨rfl, hb6⟩
            have HQ6 := Lib.hid (HQ5.out.trans (hb6.mono HQ5.out.size))
            clear hb6 f0 g0 f1 g1 f2 g2 f3 g3 f4 g4 f5 g5 f6 g6 f7 g7 f8 g8 f9 g9 f10 g10 f11 g11 f12 g12 pa pb pc pd k0 k1 HNEAR
            go_wp2
            go_roundw
            case rel => exact ⟨HQ6.out, rfl, .inr (.inr (.inl ⟨rfl, HZZ.out⟩))⟩
            case measure => simp [intOf]
          | false =>
            go_wp2_with fail
            (with_reducible refine HFAR.out.mono ?_)
            rintro e w6 ⟨rfl, hb6⟩
            have hq := HQ5.out.trans (hb6.mono HQ5.out.size)
            have HQ6 := Lib.hid hq
            clear f0 g0 f1 g1 f2 g2 f3 g3 f4 g4 f5 g5 f6 g6 f7 g7 f8 g8 f9 g9 f10 g10 f11 g11 f12 g12 pa pb pc pd k0 k1
            obtain ⟨k0, k1⟩ := HK1.out w6 (HB5.out.trans (hb6.mono HB5.out.size))
            obtain ⟨bX, pa, pb, pc, pd⟩ := HP4.out w6 (HBE.out.trans (hq.mono HBE.out.size))
            have bY := HBY.out w6 hq
            have f0 := bX 0 _ rfl; have g0 := bY 0 _ rfl
            have f1 := bX 1 _ rfl; have g1 := bY 1 _ rfl
            have f2 := bX 2 _ rfl; have g2 := bY 2 _ rfl
            have f3 := bX 3 _ rfl; have g3 := bY 3 _ rfl
            have f4 := bX 4 _ rfl; have g4 := bY 4 _ rfl
            have f5 := bX 5 _ rfl; have g5 := bY 5 _ rfl
            have f6 := bX 6 _ rfl; have g6 := bY 6 _ rfl
            have f7 := bX 7 _ rfl; have g7 := bY 7 _ rfl
            have f8 := bX 8 _ rfl; have g8 := bY 8 _ rfl
            have f9 := bX 9 _ rfl; have g9 := bY 9 _ rfl
            have f10 := bX 10 _ rfl; have g10 := bY 10 _ rfl
            have f11 := bX 11 _ rfl; have g11 := bY 11 _ rfl
            have f12 := bX 12 _ rfl; have g12 := bY 12 _ rfl
            clear bX bY
            have HNE := Lib.hid (HNEAR.out w6 (HBE.out.trans (hq.mono HBE.out.size)))
            clear hb6 hq HNEAR
            cases ne with
            | false =>
              have HZZ := Lib.hid (show t1 = false ∧ t2 = false from ⟨z1, HTT.out.symm⟩)
              go_wp2_with fail
              (with_reducible refine HNE.out.mono ?_)
              rintro e w7 ⟨rfl, hb7⟩
              have HQ7 := Lib.hid (HQ6.out.trans (hb7.mono HQ6.out.size))
              clear hb7 f0 g0 f1 g1 f2 g2 f3 g3 f4 g4 f5 g5 f6 g6 f7 g7 f8 g8 f9 g9 f10 g10 f11 g11 f12 g12 pa pb pc pd k0 k1
              go_wp2
              go_roundw
              case rel => exact ⟨HQ7.out, rfl, .inr (.inr (.inl ⟨rfl, HZZ.out⟩))⟩
              case measure => simp [intOf]
            | true =>
              have HD := Lib.hid (HTK.out.2 (by rw [HFY.out, show t2 = true from HTT.out.symm]; simp))
              go_wp2_with fail
              (with_reducible refine HNE.out.mono ?_)
              rintro e w7 ⟨rfl, hb7⟩
              have HQ7 := Lib.hid (HQ6.out.trans (hb7.mono HQ6.out.size))
              clear hb7 f0 g0 f1 g1 f2 g2 f3 g3 f4 g4 f5 g5 f6 g6 f7 g7 f8 g8 f9 g9 f10 g10 f11 g11 f12 g12 pa pb pc pd k0 k1
              go_wp2
              try rw [Exit.noGoto_ret]
              go_ret
              exact ⟨by rw [HD.out]; rfl, HB1.out.trans ((HBE.out.trans (HQ7.out.mono HBE.out.size)).mono HB1.out.size)⟩
        · have HBC := Lib.hid hb
          have hts := HTS.out wr (HBE2.out.trans (hb.mono HBE2.out.size))
          obtain ⟨c0, c1, c2, c3, c4, c5, c6, c7⟩ := hts
          have hbe := (Below.refl wr.heap.size wr).alloc (Nat.le_refl _) (.cells #[.func (.func 119) #[] #[], .func (.func 120) #[] #[]] 158)
          have k0 := cell_new1 wr #[.func (.func 119) #[] #[], .func (.func 120) #[] #[]] 158 0
          have k1 := cell_new1 wr #[.func (.func 119) #[] #[], .func (.func 120) #[] #[]] 158 1
          have hzz : (wr.alloc (.cells #[.func (.func 119) #[] #[], .func (.func 120) #[] #[]] 158)).heap.size = wr.heap.size + 1 := by simp
          obtain ⟨W3, hW3⟩ : ∃ z, wr.alloc (.cells #[.func (.func 119) #[] #[], .func (.func 120) #[] #[]] 158) = z := ⟨_, rfl⟩
          rw [hW3] at hbe k0 k1 hzz
          have hq : Below W2.heap.size W2 W3 := hb.trans (hbe.mono hb.size)
          have HK1 := Lib.hid (show ∀ wx, Below W3.heap.size W3 wx → wx.cell? ⟨wr.heap.size, 0, none⟩ = some (.func (.func 119) #[] #[]) ∧ wx.cell? ⟨wr.heap.size, 1, none⟩ = some (.func (.func 120) #[] #[]) from fun wx h => ⟨(h.cell (p := ⟨wr.heap.size, 0, none⟩) (by simp; omega)).trans k0, (h.cell (p := ⟨wr.heap.size, 1, none⟩) (by simp; omega)).trans k1⟩)
          have HQ3 := Lib.hid hq
          obtain ⟨bX, pa, pb, pc, pd⟩ := HP4.out W3 (HBE.out.trans (hq.mono HBE.out.size))
          have bY := HBY.out W3 hq
          have f0 := bX 0 _ rfl; have g0 := bY 0 _ rfl
          have f1 := bX 1 _ rfl; have g1 := bY 1 _ rfl
          have f2 := bX 2 _ rfl; have g2 := bY 2 _ rfl
          have f3 := bX 3 _ rfl; have g3 := bY 3 _ rfl
          have f4 := bX 4 _ rfl; have g4 := bY 4 _ rfl
          have f5 := bX 5 _ rfl; have g5 := bY 5 _ rfl
          have f6 := bX 6 _ rfl; have g6 := bY 6 _ rfl
          have f7 := bX 7 _ rfl; have g7 := bY 7 _ rfl
          have f8 := bX 8 _ rfl; have g8 := bY 8 _ rfl
          have f9 := bX 9 _ rfl; have g9 := bY 9 _ rfl
          have f10 := bX 10 _ rfl; have g10 := bY 10 _ rfl
          have f11 := bX 11 _ rfl; have g11 := bY 11 _ rfl
          have f12 := bX 12 _ rfl; have g12 := bY 12 _ rfl
          clear bX bY
          clear hb hbe hq
          go_wp2_with fail
          (with_reducible refine (HR3.out _).mono ?_)
          rintro e w5 ⟨rfl, hb5⟩
          have HB5 := Lib.hid hb5
          have hq := HQ3.out.trans (hb5.mono HQ3.out.size)
          have HQ5 := Lib.hid hq
          clear hW3 f0 g0 f1 g1 f2 g2 f3 g3 f4 g4 f5 g5 f6 g6 f7 g7 f8 g8 f9 g9 f10 g10 f11 g11 f12 g12 pa pb pc pd c0 c1 c2 c3 c4 c5 c6 c7 k0 k1
          obtain ⟨k0, k1⟩ := HK1.out w5 hb5
          obtain ⟨bX, pa, pb, pc, pd⟩ := HP4.out w5 (HBE.out.trans (hq.mono HBE.out.size))
          have bY := HBY.out w5 hq
          have f0 := bX 0 _ rfl; have g0 := bY 0 _ rfl
          have f1 := bX 1 _ rfl; have g1 := bY 1 _ rfl
          have f2 := bX 2 _ rfl; have g2 := bY 2 _ rfl
          have f3 := bX 3 _ rfl; have g3 := bY 3 _ rfl
          have f4 := bX 4 _ rfl; have g4 := bY 4 _ rfl
          have f5 := bX 5 _ rfl; have g5 := bY 5 _ rfl
          have f6 := bX 6 _ rfl; have g6 := bY 6 _ rfl
          have f7 := bX 7 _ rfl; have g7 := bY 7 _ rfl
          have f8 := bX 8 _ rfl; have g8 := bY 8 _ rfl
          have f9 := bX 9 _ rfl; have g9 := bY 9 _ rfl
          have f10 := bX 10 _ rfl; have g10 := bY 10 _ rfl
          have f11 := bX 11 _ rfl; have g11 := bY 11 _ rfl
          have f12 := bX 12 _ rfl; have g12 := bY 12 _ rfl
          clear bX bY
          have HFAR := Lib.hid (far_any x y r3 w5 (HXI.out w5 (HBE.out.trans (hq.mono HBE.out.size))).ok (HYI.out w5 (HBE.out.trans (hq.mono HBE.out.size))).ok)
          have HNEAR := Lib.hid (fun w (h : Below W1.heap.size W1 w) => test4_any x y r3 w (HXI.out w h).ok (HYI.out w h).ok (HYI.out w h).sl (HYI.out w h).le HRB.out.2.2.1.1 HRB.out.2.2.1.2)
          have HTT := HT3
          obtain ⟨fa, hfa⟩ : ∃ z, farB x.s y.s r3 = z := ⟨_, rfl⟩
          obtain ⟨ne, hne⟩ : ∃ z, bendsB y.s x.s r3 = z := ⟨_, rfl⟩
          rw [hfa] at HFAR HTT
          rw [hne] at HNEAR HTT
          rw [show (fSw x).toArray = #[.int .i64 x.s.rail, .int .i64 x.s.seg, .int .i64 x.s.a.x, .int .i64 x.s.a.y, .int .i64 x.s.b.x, .int .i64 x.s.b.y, .int .i64 x.s.bg, .int .i64 x.s.en, .slice x.A x.s.bends.length x.c, .int .i64 (min x.s.a.x x.s.b.x), .int .i64 (min x.s.a.y x.s.b.y), .int .i64 (max x.s.a.x x.s.b.x), .int .i64 (max x.s.a.y x.s.b.y)] from rfl, show (fSw y).toArray = #[.int .i64 y.s.rail, .int .i64 y.s.seg, .int .i64 y.s.a.x, .int .i64 y.s.a.y, .int .i64 y.s.b.x, .int .i64 y.s.b.y, .int .i64 y.s.bg, .int .i64 y.s.en, .slice y.A y.s.bends.length y.c, .int .i64 (min y.s.a.x y.s.b.x), .int .i64 (min y.s.a.y y.s.b.y), .int .i64 (max y.s.a.x y.s.b.x), .int .i64 (max y.s.a.y y.s.b.y)] from rfl] at HFAR HNEAR
          clear hfa hne hb5 hq
          cases fa with
          | true =>
            have HZZ := Lib.hid (show t1 = false ∧ t2 = false ∧ t3 = false from ⟨z1, z2, HTT.out.symm⟩)
            go_wp2_with fail
            (with_reducible refine HFAR.out.mono ?_)
            rintro e w6 ⟨rfl, hb6⟩
            have HQ6 := Lib.hid (HQ5.out.trans (hb6.mono HQ5.out.size))
            clear hb6 f0 g0 f1 g1 f2 g2 f3 g3 f4 g4 f5 g5 f6 g6 f7 g7 f8 g8 f9 g9 f10 g10 f11 g11 f12 g12 pa pb pc pd k0 k1 HNEAR
            go_wp2
            go_roundw
            case rel => exact ⟨HQ6.out, rfl, .inr (.inr (.inr (.inl ⟨rfl, HZZ.out⟩)))⟩
            case measure => simp [intOf]
          | false =>
            go_wp2_with fail
            (with_reducible refine HFAR.out.mono ?_)
            rintro e w6 ⟨rfl, hb6⟩
            have hq := HQ5.out.trans (hb6.mono HQ5.out.size)
            have HQ6 := Lib.hid hq
            clear f0 g0 f1 g1 f2 g2 f3 g3 f4 g4 f5 g5 f6 g6 f7 g7 f8 g8 f9 g9 f10 g10 f11 g11 f12 g12 pa pb pc pd k0 k1
            obtain ⟨k0, k1⟩ := HK1.out w6 (HB5.out.trans (hb6.mono HB5.out.size))
            obtain ⟨bX, pa, pb, pc, pd⟩ := HP4.out w6 (HBE.out.trans (hq.mono HBE.out.size))
            have bY := HBY.out w6 hq
            have f0 := bX 0 _ rfl; have g0 := bY 0 _ rfl
            have f1 := bX 1 _ rfl; have g1 := bY 1 _ rfl
            have f2 := bX 2 _ rfl; have g2 := bY 2 _ rfl
            have f3 := bX 3 _ rfl; have g3 := bY 3 _ rfl
            have f4 := bX 4 _ rfl; have g4 := bY 4 _ rfl
            have f5 := bX 5 _ rfl; have g5 := bY 5 _ rfl
            have f6 := bX 6 _ rfl; have g6 := bY 6 _ rfl
            have f7 := bX 7 _ rfl; have g7 := bY 7 _ rfl
            have f8 := bX 8 _ rfl; have g8 := bY 8 _ rfl
            have f9 := bX 9 _ rfl; have g9 := bY 9 _ rfl
            have f10 := bX 10 _ rfl; have g10 := bY 10 _ rfl
            have f11 := bX 11 _ rfl; have g11 := bY 11 _ rfl
            have f12 := bX 12 _ rfl; have g12 := bY 12 _ rfl
            clear bX bY
            have HNE := Lib.hid (HNEAR.out w6 (HBE.out.trans (hq.mono HBE.out.size)))
            clear hb6 hq HNEAR
            cases ne with
            | false =>
              have HZZ := Lib.hid (show t1 = false ∧ t2 = false ∧ t3 = false from ⟨z1, z2, HTT.out.symm⟩)
              go_wp2_with fail
              (with_reducible refine HNE.out.mono ?_)
              rintro e w7 ⟨rfl, hb7⟩
              have HQ7 := Lib.hid (HQ6.out.trans (hb7.mono HQ6.out.size))
              clear hb7 f0 g0 f1 g1 f2 g2 f3 g3 f4 g4 f5 g5 f6 g6 f7 g7 f8 g8 f9 g9 f10 g10 f11 g11 f12 g12 pa pb pc pd k0 k1
              go_wp2
              go_roundw
              case rel => exact ⟨HQ7.out, rfl, .inr (.inr (.inr (.inl ⟨rfl, HZZ.out⟩)))⟩
              case measure => simp [intOf]
            | true =>
              have HD := Lib.hid (HTK.out.2 (by rw [HFY.out, show t3 = true from HTT.out.symm]; simp))
              go_wp2_with fail
              (with_reducible refine HNE.out.mono ?_)
              rintro e w7 ⟨rfl, hb7⟩
              have HQ7 := Lib.hid (HQ6.out.trans (hb7.mono HQ6.out.size))
              clear hb7 f0 g0 f1 g1 f2 g2 f3 g3 f4 g4 f5 g5 f6 g6 f7 g7 f8 g8 f9 g9 f10 g10 f11 g11 f12 g12 pa pb pc pd k0 k1
              go_wp2
              try rw [Exit.noGoto_ret]
              go_ret
              exact ⟨by rw [HD.out]; rfl, HB1.out.trans ((HBE.out.trans (HQ7.out.mono HBE.out.size)).mono HB1.out.size)⟩
        · have HBC := Lib.hid hb
          have hts := HTS.out wr (HBE2.out.trans (hb.mono HBE2.out.size))
          obtain ⟨c0, c1, c2, c3, c4, c5, c6, c7⟩ := hts
          have hbe := (Below.refl wr.heap.size wr).alloc (Nat.le_refl _) (.cells #[.func (.func 121) #[] #[], .func (.func 122) #[] #[]] 158)
          have k0 := cell_new1 wr #[.func (.func 121) #[] #[], .func (.func 122) #[] #[]] 158 0
          have k1 := cell_new1 wr #[.func (.func 121) #[] #[], .func (.func 122) #[] #[]] 158 1
          have hzz : (wr.alloc (.cells #[.func (.func 121) #[] #[], .func (.func 122) #[] #[]] 158)).heap.size = wr.heap.size + 1 := by simp
          obtain ⟨W3, hW3⟩ : ∃ z, wr.alloc (.cells #[.func (.func 121) #[] #[], .func (.func 122) #[] #[]] 158) = z := ⟨_, rfl⟩
          rw [hW3] at hbe k0 k1 hzz
          have hq : Below W2.heap.size W2 W3 := hb.trans (hbe.mono hb.size)
          have HK1 := Lib.hid (show ∀ wx, Below W3.heap.size W3 wx → wx.cell? ⟨wr.heap.size, 0, none⟩ = some (.func (.func 121) #[] #[]) ∧ wx.cell? ⟨wr.heap.size, 1, none⟩ = some (.func (.func 122) #[] #[]) from fun wx h => ⟨(h.cell (p := ⟨wr.heap.size, 0, none⟩) (by simp; omega)).trans k0, (h.cell (p := ⟨wr.heap.size, 1, none⟩) (by simp; omega)).trans k1⟩)
          have HQ3 := Lib.hid hq
          obtain ⟨bX, pa, pb, pc, pd⟩ := HP4.out W3 (HBE.out.trans (hq.mono HBE.out.size))
          have bY := HBY.out W3 hq
          have f0 := bX 0 _ rfl; have g0 := bY 0 _ rfl
          have f1 := bX 1 _ rfl; have g1 := bY 1 _ rfl
          have f2 := bX 2 _ rfl; have g2 := bY 2 _ rfl
          have f3 := bX 3 _ rfl; have g3 := bY 3 _ rfl
          have f4 := bX 4 _ rfl; have g4 := bY 4 _ rfl
          have f5 := bX 5 _ rfl; have g5 := bY 5 _ rfl
          have f6 := bX 6 _ rfl; have g6 := bY 6 _ rfl
          have f7 := bX 7 _ rfl; have g7 := bY 7 _ rfl
          have f8 := bX 8 _ rfl; have g8 := bY 8 _ rfl
          have f9 := bX 9 _ rfl; have g9 := bY 9 _ rfl
          have f10 := bX 10 _ rfl; have g10 := bY 10 _ rfl
          have f11 := bX 11 _ rfl; have g11 := bY 11 _ rfl
          have f12 := bX 12 _ rfl; have g12 := bY 12 _ rfl
          clear bX bY
          clear hb hbe hq
          go_wp2_with fail
          (with_reducible refine (HR4.out _).mono ?_)
          rintro e w5 ⟨rfl, hb5⟩
          have HB5 := Lib.hid hb5
          have hq := HQ3.out.trans (hb5.mono HQ3.out.size)
          have HQ5 := Lib.hid hq
          clear hW3 f0 g0 f1 g1 f2 g2 f3 g3 f4 g4 f5 g5 f6 g6 f7 g7 f8 g8 f9 g9 f10 g10 f11 g11 f12 g12 pa pb pc pd c0 c1 c2 c3 c4 c5 c6 c7 k0 k1
          obtain ⟨k0, k1⟩ := HK1.out w5 hb5
          obtain ⟨bX, pa, pb, pc, pd⟩ := HP4.out w5 (HBE.out.trans (hq.mono HBE.out.size))
          have bY := HBY.out w5 hq
          have f0 := bX 0 _ rfl; have g0 := bY 0 _ rfl
          have f1 := bX 1 _ rfl; have g1 := bY 1 _ rfl
          have f2 := bX 2 _ rfl; have g2 := bY 2 _ rfl
          have f3 := bX 3 _ rfl; have g3 := bY 3 _ rfl
          have f4 := bX 4 _ rfl; have g4 := bY 4 _ rfl
          have f5 := bX 5 _ rfl; have g5 := bY 5 _ rfl
          have f6 := bX 6 _ rfl; have g6 := bY 6 _ rfl
          have f7 := bX 7 _ rfl; have g7 := bY 7 _ rfl
          have f8 := bX 8 _ rfl; have g8 := bY 8 _ rfl
          have f9 := bX 9 _ rfl; have g9 := bY 9 _ rfl
          have f10 := bX 10 _ rfl; have g10 := bY 10 _ rfl
          have f11 := bX 11 _ rfl; have g11 := bY 11 _ rfl
          have f12 := bX 12 _ rfl; have g12 := bY 12 _ rfl
          clear bX bY
          have HFAR := Lib.hid (far_any x y r4 w5 (HXI.out w5 (HBE.out.trans (hq.mono HBE.out.size))).ok (HYI.out w5 (HBE.out.trans (hq.mono HBE.out.size))).ok)
          have HNEAR := Lib.hid (fun w (h : Below W1.heap.size W1 w) => both_any x y r4 w (HXI.out w h).ok (HYI.out w h).ok (HXI.out w h).sl (HXI.out w h).le (HYI.out w h).sl (HYI.out w h).le HRB.out.2.2.2.1 HRB.out.2.2.2.2)
          have HTT := HT4
          obtain ⟨fa, hfa⟩ : ∃ z, farB x.s y.s r4 = z := ⟨_, rfl⟩
          obtain ⟨ne, hne⟩ : ∃ z, bothB x.s y.s r4 = z := ⟨_, rfl⟩
          rw [hfa] at HFAR HTT
          rw [hne] at HNEAR HTT
          rw [show (fSw x).toArray = #[.int .i64 x.s.rail, .int .i64 x.s.seg, .int .i64 x.s.a.x, .int .i64 x.s.a.y, .int .i64 x.s.b.x, .int .i64 x.s.b.y, .int .i64 x.s.bg, .int .i64 x.s.en, .slice x.A x.s.bends.length x.c, .int .i64 (min x.s.a.x x.s.b.x), .int .i64 (min x.s.a.y x.s.b.y), .int .i64 (max x.s.a.x x.s.b.x), .int .i64 (max x.s.a.y x.s.b.y)] from rfl, show (fSw y).toArray = #[.int .i64 y.s.rail, .int .i64 y.s.seg, .int .i64 y.s.a.x, .int .i64 y.s.a.y, .int .i64 y.s.b.x, .int .i64 y.s.b.y, .int .i64 y.s.bg, .int .i64 y.s.en, .slice y.A y.s.bends.length y.c, .int .i64 (min y.s.a.x y.s.b.x), .int .i64 (min y.s.a.y y.s.b.y), .int .i64 (max y.s.a.x y.s.b.x), .int .i64 (max y.s.a.y y.s.b.y)] from rfl] at HFAR HNEAR
          clear hfa hne hb5 hq
          cases fa with
          | true =>
            have HZZ := Lib.hid (show t1 = false ∧ t2 = false ∧ t3 = false ∧ t4 = false from ⟨z1, z2, z3, HTT.out.symm⟩)
            go_wp2_with fail
            (with_reducible refine HFAR.out.mono ?_)
            rintro e w6 ⟨rfl, hb6⟩
            have HQ6 := Lib.hid (HQ5.out.trans (hb6.mono HQ5.out.size))
            clear hb6 f0 g0 f1 g1 f2 g2 f3 g3 f4 g4 f5 g5 f6 g6 f7 g7 f8 g8 f9 g9 f10 g10 f11 g11 f12 g12 pa pb pc pd k0 k1 HNEAR
            go_wp2
            go_roundw
            case rel => exact ⟨HQ6.out, rfl, .inr (.inr (.inr (.inr (⟨rfl, HZZ.out⟩))))⟩
            case measure => simp [intOf]
          | false =>
            go_wp2_with fail
            (with_reducible refine HFAR.out.mono ?_)
            rintro e w6 ⟨rfl, hb6⟩
            have hq := HQ5.out.trans (hb6.mono HQ5.out.size)
            have HQ6 := Lib.hid hq
            clear f0 g0 f1 g1 f2 g2 f3 g3 f4 g4 f5 g5 f6 g6 f7 g7 f8 g8 f9 g9 f10 g10 f11 g11 f12 g12 pa pb pc pd k0 k1
            obtain ⟨k0, k1⟩ := HK1.out w6 (HB5.out.trans (hb6.mono HB5.out.size))
            obtain ⟨bX, pa, pb, pc, pd⟩ := HP4.out w6 (HBE.out.trans (hq.mono HBE.out.size))
            have bY := HBY.out w6 hq
            have f0 := bX 0 _ rfl; have g0 := bY 0 _ rfl
            have f1 := bX 1 _ rfl; have g1 := bY 1 _ rfl
            have f2 := bX 2 _ rfl; have g2 := bY 2 _ rfl
            have f3 := bX 3 _ rfl; have g3 := bY 3 _ rfl
            have f4 := bX 4 _ rfl; have g4 := bY 4 _ rfl
            have f5 := bX 5 _ rfl; have g5 := bY 5 _ rfl
            have f6 := bX 6 _ rfl; have g6 := bY 6 _ rfl
            have f7 := bX 7 _ rfl; have g7 := bY 7 _ rfl
            have f8 := bX 8 _ rfl; have g8 := bY 8 _ rfl
            have f9 := bX 9 _ rfl; have g9 := bY 9 _ rfl
            have f10 := bX 10 _ rfl; have g10 := bY 10 _ rfl
            have f11 := bX 11 _ rfl; have g11 := bY 11 _ rfl
            have f12 := bX 12 _ rfl; have g12 := bY 12 _ rfl
            clear bX bY
            have HNE := Lib.hid (HNEAR.out w6 (HBE.out.trans (hq.mono HBE.out.size)))
            clear hb6 hq HNEAR
            cases ne with
            | false =>
              have HZZ := Lib.hid (show t1 = false ∧ t2 = false ∧ t3 = false ∧ t4 = false from ⟨z1, z2, z3, HTT.out.symm⟩)
              go_wp2_with fail
              (with_reducible refine HNE.out.mono ?_)
              rintro e w7 ⟨rfl, hb7⟩
              have HQ7 := Lib.hid (HQ6.out.trans (hb7.mono HQ6.out.size))
              clear hb7 f0 g0 f1 g1 f2 g2 f3 g3 f4 g4 f5 g5 f6 g6 f7 g7 f8 g8 f9 g9 f10 g10 f11 g11 f12 g12 pa pb pc pd k0 k1
              go_wp2
              go_roundw
              case rel => exact ⟨HQ7.out, rfl, .inr (.inr (.inr (.inr (⟨rfl, HZZ.out⟩))))⟩
              case measure => simp [intOf]
            | true =>
              have HD := Lib.hid (HTK.out.2 (by rw [HFY.out, show t4 = true from HTT.out.symm]; simp))
              go_wp2_with fail
              (with_reducible refine HNE.out.mono ?_)
              rintro e w7 ⟨rfl, hb7⟩
              have HQ7 := Lib.hid (HQ6.out.trans (hb7.mono HQ6.out.size))
              clear hb7 f0 g0 f1 g1 f2 g2 f3 g3 f4 g4 f5 g5 f6 g6 f7 g7 f8 g8 f9 g9 f10 g10 f11 g11 f12 g12 pa pb pc pd k0 k1
              go_wp2
              try rw [Exit.noGoto_ret]
              go_ret
              exact ⟨by rw [HD.out]; rfl, HB1.out.trans ((HBE.out.trans (HQ7.out.mono HBE.out.size)).mono HB1.out.size)⟩
        · have HZ := Lib.hid (show (l.take (i + 1)).any f = false by rw [HTK.out.1, HFY.out, z1, z2, z3, z4]; rfl)
          have HBC := Lib.hid (HBE2.out.trans (hb.mono HBE2.out.size))
          clear hb z1 z2 z3 z4
          go_wp2
          go_roundw
          case rel => exact ⟨i + 1, by omega, rfl, by go_num, HZ.out, HBC.out⟩
          case measure => simp [intOf]; omega
    · have hnl : n ≤ i := by omega
      have HD := Lib.hid (show l.any f = false by
        have h5 := HNO.out
        rwa [List.take_of_length_le (by rw [HN.out]; exact hnl)] at h5)
      go_wp2
      try rw [Exit.noGoto_ret]
      go_ret
      exact ⟨by rw [HD.out]; rfl, HB1.out.trans (HBW.out.mono HB1.out.size)⟩
end Go.Proofs.YtekambdnmaompaaGreat.SW

namespace Go.Proofs.YtekambdnmaompaaGreat.SW
set_option linter.unusedVariables false
set_option linter.unusedSimpArgs false
open Go.RowKit

/-- a line does not go straight on at one of its spots -/
def isBendB (l : List S) (i : Nat) : Bool :=
  if i = 0 ∨ i + 1 = l.length then false
  else decide (sideV (sAt l (i - 1)) (sAt l i) (sAt l (i + 1)) ≠ 0) || decide (((sAt l i).x - (sAt l (i - 1)).x) * ((sAt l (i + 1)).x - (sAt l i).x) + ((sAt l i).y - (sAt l (i - 1)).y) * ((sAt l (i + 1)).y - (sAt l i).y) < 0)
/-- a spot in its box -/
def B1s (k : Nat) (a : S) (w' : World) : Prop := w'.cell? ⟨k, 0, none⟩ = some (.int .i64 a.x) ∧ w'.cell? ⟨k, 1, none⟩ = some (.int .i64 a.y)
theorem B1s.keep {k B : Nat} {a : S} {w w' : World} (h : B1s k a w) (hb : Below B w w') (hk : k < B) : B1s k a w' :=
  ⟨(hb.cell (p := ⟨k, 0, none⟩) hk).trans h.1, (hb.cell (p := ⟨k, 1, none⟩) hk).trans h.2⟩
theorem three_bx (w : World) (x y z : S) : B1s w.heap.size x (((w.alloc (.cells #[.int .i64 x.x, .int .i64 x.y] 82)).alloc (.cells #[.int .i64 y.x, .int .i64 y.y] 82)).alloc (.cells #[.int .i64 z.x, .int .i64 z.y] 82)).drew ∧
    B1s (w.heap.size + 1) y (((w.alloc (.cells #[.int .i64 x.x, .int .i64 x.y] 82)).alloc (.cells #[.int .i64 y.x, .int .i64 y.y] 82)).alloc (.cells #[.int .i64 z.x, .int .i64 z.y] 82)).drew ∧
    B1s (w.heap.size + 1 + 1) z (((w.alloc (.cells #[.int .i64 x.x, .int .i64 x.y] 82)).alloc (.cells #[.int .i64 y.x, .int .i64 y.y] 82)).alloc (.cells #[.int .i64 z.x, .int .i64 z.y] 82)).drew ∧
    Below w.heap.size w (((w.alloc (.cells #[.int .i64 x.x, .int .i64 x.y] 82)).alloc (.cells #[.int .i64 y.x, .int .i64 y.y] 82)).alloc (.cells #[.int .i64 z.x, .int .i64 z.y] 82)).drew := by
  have h := fun i => box_cells3 w #[.int .i64 x.x, .int .i64 x.y] #[.int .i64 y.x, .int .i64 y.y] #[.int .i64 z.x, .int .i64 z.y] 82 82 82 i
  have h0 := fun i => cell_keep1 (o := .cells #[.int .i64 z.x, .int .i64 z.y] 82) (cell_keep1 (o := .cells #[.int .i64 y.x, .int .i64 y.y] 82) (cell_new1 w #[.int .i64 x.x, .int .i64 x.y] 82 i) (by simp)) (by simp; omega)
  exact ⟨⟨h0 0, h0 1⟩, ⟨(h 0).1, (h 1).1⟩, ⟨(h 0).2, (h 1).2⟩, ((((Below.refl _ w).alloc (Nat.le_refl _) _).alloc (by simp) _).alloc (by simp; omega) _).drew⟩
set_option maxRecDepth 100000 in
set_option maxHeartbeats 4000000 in
theorem isBend_in (b0 o0 c n i : Nat) (l : List S) (w : World) (hl : Sl w w.heap.size 2 CS (some ⟨b0, o0, none⟩) l) (hin : ∀ s ∈ l, inR s) (hn : l.length = n) (h0 : i ≠ 0) (h1 : i + 1 < n) (hn2 : n ≤ 1000) :
    Calls Tryz.prog 100 #[.slice (some ⟨b0, o0, none⟩) n c, .int .i64 (i : Int)] w fun e w' => e = .returned (.bool (isBendB l i)) ∧ Below w.heap.size w w' := by
  have q := fun j (hj : j < l.length) => spot_at hl hj
  have ad := fun j (hj : j < l.length) => (show w.cell? ⟨b0, o0 + j * 2, none⟩ = some (.int .i64 l[j].x) ∧ w.cell? ⟨b0, o0 + j * 2 + 1, none⟩ = some (.int .i64 l[j].y) ∧ b0 < w.heap.size from by
    obtain ⟨b, o, e, hb, e0, e1⟩ := q j hj
    obtain ⟨rfl, rfl⟩ : b0 = b ∧ o0 = o := by simpa using e
    exact ⟨e0, e1, hb⟩)
  obtain ⟨k, rfl⟩ : ∃ k, i = k + 1 := ⟨i - 1, by omega⟩
  have a0 := ad k (by omega)
  have a1 := ad (k + 1) (by omega)
  have a2 := ad (k + 2) (by omega)
  obtain ⟨a, ha⟩ : ∃ z, l[k]'(by omega) = z := ⟨_, rfl⟩
  obtain ⟨b, hb⟩ : ∃ z, l[k + 1]'(by omega) = z := ⟨_, rfl⟩
  obtain ⟨d, hd⟩ : ∃ z, l[k + 2]'(by omega) = z := ⟨_, rfl⟩
  have ia : inR a := by rw [← ha]; exact hin _ (List.getElem_mem _)
  have ib : inR b := by rw [← hb]; exact hin _ (List.getElem_mem _)
  have id' : inR d := by rw [← hd]; exact hin _ (List.getElem_mem _)
  have HV := Lib.hid (show isBendB l (k + 1) = (decide (sideV a b d ≠ 0) || decide ((b.x - a.x) * (d.x - b.x) + (b.y - a.y) * (d.y - b.y) < 0)) by
    unfold isBendB
    rw [if_neg (by omega), sAt_eq (show k + 1 - 1 < l.length by omega), sAt_eq (show k + 1 < l.length by omega), sAt_eq (show k + 1 + 1 < l.length by omega)]
    simp only [Nat.add_sub_cancel, ha, hb, hd])
  rw [ha] at a0; rw [hb] at a1; rw [hd] at a2
  rw [HV.out]
  have HC := Lib.hid (show ∀ w, Calls Tryz.prog 110 #[.agg #[.int .i64 a.x, .int .i64 a.y], .agg #[.int .i64 b.x, .int .i64 b.y], .agg #[.int .i64 d.x, .int .i64 d.y]] w fun e w' => e = .returned (.int .i64 (sideV a b d)) ∧ Below w.heap.size w w' from fun w => side_any a b d w ia ib id')
  obtain ⟨sv, hsv⟩ : ∃ z, sideV a b d = z := ⟨_, rfl⟩
  rw [hsv] at HC ⊢
  obtain ⟨a1', a2', a3', a4'⟩ := id ia
  obtain ⟨b1', b2', b3', b4'⟩ := id ib
  obtain ⟨d1', d2', d3', d4'⟩ := id id'
  have m1 := mul_bd (x := b.x - a.x) (y := d.x - b.x) (c := 20000000) (d := 20000000) (by omega) (by omega) (by omega) (by omega)
  have m2 := mul_bd (x := b.y - a.y) (y := d.y - b.y) (c := 20000000) (d := 20000000) (by omega) (by omega) (by omega) (by omega)
  obtain ⟨x0, x1, hbl⟩ := a0
  obtain ⟨y0, y1, _⟩ := a1
  obtain ⟨z0, z1, _⟩ := a2
  clear q ad ha hb hd HV hsv ia ib id' hl hin hn
  have t1 : ((k + 1 : Nat) : Int) = (k : Int) + 1 := rfl
  rw [t1]
  have t2 : (k : Int) + 1 - 1 = (k : Int) := by omega
  have t3 : (k : Int) + 1 + 1 = (k : Int) + 2 := by omega
  have t4 : ((k : Int) + 1 == 0) = false := by rw [beq_eq_false_iff_ne]; omega
  have t5 : ((k : Int) + 1 == (n : Int) - 1) = false := by rw [beq_eq_false_iff_ne]; omega
  have t6 : (0 : Int) ≤ (k : Int) := by omega
  have t7 : (k : Int) + 2 < (n : Int) := by omega
  have u1 : b0 < w.heap.size + 1 := by omega
  have u2 : b0 < w.heap.size + 1 + 1 := by omega
  have u3 : b0 < w.heap.size + 1 + 1 + 1 := by omega
  go_enter Tryz.func100, Tryz.ntmps100
  go_upto_region 3 with (fail)
  go_cut [5, 6, 7] (fun s5 s6 s7 wx => (∃ A B C : Nat, s5 = .pointer (some ⟨A, 0, none⟩) ∧ s6 = .pointer (some ⟨B, 0, none⟩) ∧ s7 = .pointer (some ⟨C, 0, none⟩) ∧ B1s A a wx ∧ B1s B b wx ∧ B1s C d wx) ∧ Below w.heap.size w wx)
  case first =>
    go_region
    all_goals
      go_wp2_with fail
      go_meet
      refine ⟨⟨_, _, _, rfl, rfl, rfl, ?_, ?_, ?_⟩, ?_⟩
      all_goals first | exact (three_bx w a b d).1 | exact (three_bx w a b d).2.1 | exact (three_bx w a b d).2.2.1 | exact (three_bx w a b d).2.2.2 | exact (three_bx w a d b).1 | exact (three_bx w a d b).2.1 | exact (three_bx w a d b).2.2.1 | exact (three_bx w a d b).2.2.2 | exact (three_bx w b a d).1 | exact (three_bx w b a d).2.1 | exact (three_bx w b a d).2.2.1 | exact (three_bx w b a d).2.2.2 | exact (three_bx w b d a).1 | exact (three_bx w b d a).2.1 | exact (three_bx w b d a).2.2.1 | exact (three_bx w b d a).2.2.2 | exact (three_bx w d a b).1 | exact (three_bx w d a b).2.1 | exact (three_bx w d a b).2.2.1 | exact (three_bx w d a b).2.2.2 | exact (three_bx w d b a).1 | exact (three_bx w d b a).2.1 | exact (three_bx w d b a).2.2.1 | exact (three_bx w d b a).2.2.2
  case rest =>
  obtain ⟨⟨A, B, C, rfl, rfl, rfl, ⟨e0, e1⟩, ⟨e2, e3⟩, e4, e5⟩, hb⟩ := hcut
  have HB := Lib.hid hb
  clear hb x0 x1 y0 y1 z0 z1 u1 u2 u3 hbl
  by_cases hs0 : sv = 0
  · have v1 : (sv != 0) = false := by simp [hs0]
    have HS0 := Lib.hid hs0
    clear hs0
    go_wp2_with fail
    refine (HC.out _).mono ?_
    rintro e w2 ⟨rfl, hb2⟩
    go_wp2
    go_ret
    exact ⟨by rw [show decide (sv ≠ 0) = false by simp [HS0.out], Bool.false_or]; rfl, HB.out.trans (hb2.mono HB.out.size)⟩
  · have v1 : (sv != 0) = true := by simp [hs0]
    have HS0 := Lib.hid hs0
    clear hs0
    go_wp2_with fail
    refine (HC.out _).mono ?_
    rintro e w2 ⟨rfl, hb2⟩
    go_wp2
    go_ret
    exact ⟨by rw [show decide (sv ≠ 0) = true by simp [HS0.out], Bool.true_or]; rfl, HB.out.trans (hb2.mono HB.out.size)⟩
set_option maxRecDepth 100000 in
set_option maxHeartbeats 2000000 in
theorem isBend_end (A : Option Addr) (c n i : Nat) (l : List S) (w : World) (hn : l.length = n) (h1 : i = 0 ∨ i + 1 = n) (hn2 : n ≤ 1000) :
    Calls Tryz.prog 100 #[.slice A n c, .int .i64 (i : Int)] w fun e w' => e = .returned (.bool (isBendB l i)) ∧ Below w.heap.size w w' := by
  have HV := Lib.hid (show isBendB l i = false by unfold isBendB; rw [if_pos (by omega)])
  by_cases h0 : i = 0
  · subst h0
    go_enter Tryz.func100, Tryz.ntmps100
    go_wp2
    go_ret
    exact ⟨by rw [HV.out]; rfl, Below.refl _ _⟩
  · have t4 : ((i : Int) == 0) = false := by rw [beq_eq_false_iff_ne]; omega
    have t5 : ((i : Int) == (n : Int) - 1) = true := by rw [beq_iff_eq]; omega
    clear h0 h1
    go_enter Tryz.func100, Tryz.ntmps100
    go_wp2
    go_ret
    exact ⟨by rw [HV.out]; rfl, Below.refl _ _⟩
end Go.Proofs.YtekambdnmaompaaGreat.SW

namespace Go.Proofs.YtekambdnmaompaaGreat.SW
set_option linter.unusedVariables false
set_option linter.unusedSimpArgs false
open Go.RowKit

/-- a profile is as defined: its half and its swing -/
def prB (s : S) : Bool := !(decide (s.x < 1) || (decide (2000 < s.x) || (decide (s.y < 0) || decide (1500 < s.y))))
theorem all_take {α : Type} {f : α → Bool} {l : List α} {i : Nat} (hi : i < l.length) : (l.take (i + 1)).all f = ((l.take i).all f && f l[i]) := by
  rw [List.take_succ_eq_append_getElem hi, List.all_append]
  simp
set_option maxRecDepth 100000 in
set_option maxHeartbeats 4000000 in
theorem right_any (A : Option Addr) (c n : Nat) (l : List S) (w : World) (hn : l.length = n) (hn2 : n ≤ 1000000000) (hS : Sl w w.heap.size 2 CS A l) :
    Calls Tryz.prog 66 #[.slice A n c] w fun e w' => e = .returned (.bool (l.all prB)) ∧ Below w.heap.size w w' := by
  have HN := Lib.hid hn
  have HSL := Lib.hid (show ∀ wx, Below w.heap.size w wx → Sl wx wx.heap.size 2 CS A l from fun wx h => (hS.below h).more (fun _ _ h => h) h.size)
  clear hS hn
  go_enter Tryz.func66, Tryz.ntmps66
  go_wp2
  go_loopw [7] (fun s7 wr => ∃ i : Nat, i ≤ n ∧ s7 = .int .i64 (i : Int) ∧ (l.take i).all prB = true ∧ Below w.heap.size w wr) (fun s7 _ => n - (intOf s7).toNat)
  case atStart => exact ⟨0, Nat.zero_le _, rfl, by simp, Below.refl _ _⟩
  case round =>
    obtain ⟨i, hi, rfl, hno, hb⟩ := hrel
    have HNO := Lib.hid hno; have HB := Lib.hid hb
    clear hno
    by_cases hin : i < n
    · have hil : i < l.length := by rw [HN.out]; exact hin
      obtain ⟨b, o, eA, hbk, q0, q1⟩ := spot_at (HSL.out wr hb) hil
      obtain ⟨s, hs⟩ : ∃ z, l[i] = z := ⟨_, rfl⟩
      rw [hs] at q0 q1
      have hsm : s ∈ l := by rw [← hs]; exact List.getElem_mem hil
      have HTK := Lib.hid (show (l.take (i + 1)).all prB = prB s ∧ (prB s = false → l.all prB = false) from ⟨by rw [all_take hil, HNO.out, hs, Bool.true_and], fun h => by
        rw [List.all_eq_false]; exact ⟨s, hsm, by rw [h]; simp⟩⟩)
      have HPB := Lib.hid (show prB s = !(decide (s.x < 1) || (decide (2000 < s.x) || (decide (s.y < 0) || decide (1500 < s.y)))) from rfl)
      obtain ⟨p, hp⟩ : ∃ z, s.x = z := ⟨_, rfl⟩
      obtain ⟨q, hq⟩ : ∃ z, s.y = z := ⟨_, rfl⟩
      rw [hp, hq] at HPB
      rw [hp] at q0
      rw [hq] at q1
      have hbe := (Below.refl wr.heap.size wr).alloc (Nat.le_refl _) (.cells #[.int .i64 p, .int .i64 q] 46)
      have HB2 := Lib.hid (hb.trans (hbe.mono hb.size))
      have i0 : (0 : Int) ≤ (i : Int) := by omega
      have i1 : (i : Int) < (n : Int) := by omega
      subst eA
      clear hs hsm hp hq hbe hb
      cases k1 : decide (p < 1) with
      | true =>
        have HD := Lib.hid (HTK.out.2 (by rw [HPB.out, k1]; rfl))
        go_wp2
        go_ret
        exact ⟨by rw [HD.out]; rfl, HB2.out⟩
      | false =>
        cases k2 : decide (2000 < p) with
        | true =>
          have HD := Lib.hid (HTK.out.2 (by rw [HPB.out, k1, k2]; rfl))
          go_wp2
          go_ret
          exact ⟨by rw [HD.out]; rfl, HB2.out⟩
        | false =>
          cases k3 : decide (q < 0) with
          | true =>
            have HD := Lib.hid (HTK.out.2 (by rw [HPB.out, k1, k2, k3]; rfl))
            go_wp2
            go_ret
            exact ⟨by rw [HD.out]; rfl, HB2.out⟩
          | false =>
            cases k4 : decide (1500 < q) with
            | true =>
              have HD := Lib.hid (HTK.out.2 (by rw [HPB.out, k1, k2, k3, k4]; rfl))
              go_wp2
              go_ret
              exact ⟨by rw [HD.out]; rfl, HB2.out⟩
            | false =>
              have HD := Lib.hid (show (l.take (i + 1)).all prB = true by rw [HTK.out.1, HPB.out, k1, k2, k3, k4]; rfl)
              go_wp2
              go_roundw
              case rel => exact ⟨i + 1, by omega, by go_num, HD.out, HB2.out⟩
              case measure => simp [intOf]; omega
    · have hnl : n ≤ i := by omega
      have HD := Lib.hid (show l.all prB = true by
        have h5 := HNO.out
        rwa [List.take_of_length_le (by rw [HN.out]; exact hnl)] at h5)
      go_wp2
      go_ret
      exact ⟨by rw [HD.out]; rfl, hb⟩
set_option maxHeartbeats 1000000 in
theorem hasRail2_any (A A2 : Option Addr) (c c2 : Nat) (p : Pl) (r : Int) (w : World) (hP : PlAt w w.heap.size A c A2 c2 p) :
    Calls Tryz.prog 49 #[.agg #[.slice A p.nodes.length c, .slice A2 p.rails.length c2], .int .i64 r] w fun e w' => e = .returned (.bool (railIn p r)) ∧ Below w.heap.size w w' := by
  have HV := Lib.hid (show railIn p r = (decide (0 ≤ r) && decide (r < (p.rails.length : Int))) by unfold railIn; rw [Bool.decide_and])
  have c0 := cell_new1 w #[.slice A p.nodes.length c, .slice A2 p.rails.length c2] 25 0
  have c1 := cell_new1 w #[.slice A p.nodes.length c, .slice A2 p.rails.length c2] 25 1
  clear hP
  rw [HV.out]
  cases k1 : decide (0 ≤ r) with
  | true =>
    go_enter Tryz.func49, Tryz.ntmps49
    go_wp2
    go_ret
    exact ⟨by rw [Bool.true_and]; rfl, (Below.refl _ w).alloc (Nat.le_refl _) _⟩
  | false =>
    go_enter Tryz.func49, Tryz.ntmps49
    go_wp2
    go_ret
    exact ⟨rfl, (Below.refl _ w).alloc (Nat.le_refl _) _⟩
end Go.Proofs.YtekambdnmaompaaGreat.SW
