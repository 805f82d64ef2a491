/- Contracts: two trains coupled, by the program and by the reference. -/
import Derived.Test.YtfhkbbjddjddmaaGreatMd
import Derived.Test.YtfhkbbjddjddmaaGreatJB
namespace Go.Proofs.YtfhkbbjddjddmaaGreat
set_option linter.unusedVariables false
set_option linter.unusedSimpArgs false
open Go.RowKit

def gripAt (a : Tr) (i : Nat) : Int := (a.grip[i]?).getD 0
def coupTo (a b : Tr) (k : Nat) : List Int := (List.range k).map fun i => min (gripAt a i) (gripAt b i)
theorem coupTo_succ (a b : Tr) (k : Nat) : coupTo a b (k + 1) = coupTo a b k ++ [min (gripAt a k) (gripAt b k)] := by unfold coupTo; rw [List.range_succ, List.map_append]; rfl
theorem coupTo_len (a b : Tr) (k : Nat) : (coupTo a b k).length = k := by simp [coupTo]
/-- two trains coupled -/
def coupT (a b : Tr) : Tr := ⟨a.mass + b.mass, a.len + b.len, min a.speed b.speed, a.effort + b.effort, a.brake + b.brake, a.power + b.power, a.resist + b.resist, a.rise + b.rise, min a.back b.back, coupTo a b a.grip.length⟩
theorem cell_far (w : World) {k g i j : Nat} (v : Value) (h : g ≠ k) : (w.setCell ⟨k, i, none⟩ v).cell? ⟨g, j, none⟩ = w.cell? ⟨g, j, none⟩ := by
  unfold World.cell?
  rw [Below.heap_setCell _ _ _ g h]
theorem Own.far9 {α : Type} {f : α → List Value} {w : World} {base size : Nat} {e : TypeId} {v u : Value} {l : List α} {g i : Nat} (hg : g < base) (h : Own w base e size f v l) : Own (w.setCell ⟨g, i, none⟩ u) base e size f v l :=
  h.of_blocks fun k hk => Below.heap_setCell _ _ _ k (by show k ≠ g; have := (h.lt k hk).1; omega)
theorem Rw.set10 {w : World} {g : Nat} {t : TypeId} {c0 c1 c2 c3 c4 c5 c6 c7 c8 c9 : Value} (h : Rw w g t #[c0, c1, c2, c3, c4, c5, c6, c7, c8, c9]) (v0 v1 v2 v3 v4 v5 v6 v7 v8 v9 : Value) : Rw ((((((((((w.setCell ⟨g, 0, none⟩ v0).setCell ⟨g, 1, none⟩ v1).setCell ⟨g, 2, none⟩ v2).setCell ⟨g, 3, none⟩ v3).setCell ⟨g, 4, none⟩ v4).setCell ⟨g, 5, none⟩ v5).setCell ⟨g, 6, none⟩ v6).setCell ⟨g, 7, none⟩ v7).setCell ⟨g, 8, none⟩ v8).setCell ⟨g, 9, none⟩ v9) g t #[v0, v1, v2, v3, v4, v5, v6, v7, v8, v9] := by
  have h1 : Rw (w.setCell ⟨g, 0, none⟩ v0) g t #[v0, c1, c2, c3, c4, c5, c6, c7, c8, c9] := h.set 0 v0
  have h2 : Rw ((w.setCell ⟨g, 0, none⟩ v0).setCell ⟨g, 1, none⟩ v1) g t #[v0, v1, c2, c3, c4, c5, c6, c7, c8, c9] := h1.set 1 v1
  have h3 : Rw (((w.setCell ⟨g, 0, none⟩ v0).setCell ⟨g, 1, none⟩ v1).setCell ⟨g, 2, none⟩ v2) g t #[v0, v1, v2, c3, c4, c5, c6, c7, c8, c9] := h2.set 2 v2
  have h4 : Rw ((((w.setCell ⟨g, 0, none⟩ v0).setCell ⟨g, 1, none⟩ v1).setCell ⟨g, 2, none⟩ v2).setCell ⟨g, 3, none⟩ v3) g t #[v0, v1, v2, v3, c4, c5, c6, c7, c8, c9] := h3.set 3 v3
  have h5 : Rw (((((w.setCell ⟨g, 0, none⟩ v0).setCell ⟨g, 1, none⟩ v1).setCell ⟨g, 2, none⟩ v2).setCell ⟨g, 3, none⟩ v3).setCell ⟨g, 4, none⟩ v4) g t #[v0, v1, v2, v3, v4, c5, c6, c7, c8, c9] := h4.set 4 v4
  have h6 : Rw ((((((w.setCell ⟨g, 0, none⟩ v0).setCell ⟨g, 1, none⟩ v1).setCell ⟨g, 2, none⟩ v2).setCell ⟨g, 3, none⟩ v3).setCell ⟨g, 4, none⟩ v4).setCell ⟨g, 5, none⟩ v5) g t #[v0, v1, v2, v3, v4, v5, c6, c7, c8, c9] := h5.set 5 v5
  have h7 : Rw (((((((w.setCell ⟨g, 0, none⟩ v0).setCell ⟨g, 1, none⟩ v1).setCell ⟨g, 2, none⟩ v2).setCell ⟨g, 3, none⟩ v3).setCell ⟨g, 4, none⟩ v4).setCell ⟨g, 5, none⟩ v5).setCell ⟨g, 6, none⟩ v6) g t #[v0, v1, v2, v3, v4, v5, v6, c7, c8, c9] := h6.set 6 v6
  have h8 : Rw ((((((((w.setCell ⟨g, 0, none⟩ v0).setCell ⟨g, 1, none⟩ v1).setCell ⟨g, 2, none⟩ v2).setCell ⟨g, 3, none⟩ v3).setCell ⟨g, 4, none⟩ v4).setCell ⟨g, 5, none⟩ v5).setCell ⟨g, 6, none⟩ v6).setCell ⟨g, 7, none⟩ v7) g t #[v0, v1, v2, v3, v4, v5, v6, v7, c8, c9] := h7.set 7 v7
  have h9 : Rw (((((((((w.setCell ⟨g, 0, none⟩ v0).setCell ⟨g, 1, none⟩ v1).setCell ⟨g, 2, none⟩ v2).setCell ⟨g, 3, none⟩ v3).setCell ⟨g, 4, none⟩ v4).setCell ⟨g, 5, none⟩ v5).setCell ⟨g, 6, none⟩ v6).setCell ⟨g, 7, none⟩ v7).setCell ⟨g, 8, none⟩ v8) g t #[v0, v1, v2, v3, v4, v5, v6, v7, v8, c9] := h8.set 8 v8
  have h10 : Rw ((((((((((w.setCell ⟨g, 0, none⟩ v0).setCell ⟨g, 1, none⟩ v1).setCell ⟨g, 2, none⟩ v2).setCell ⟨g, 3, none⟩ v3).setCell ⟨g, 4, none⟩ v4).setCell ⟨g, 5, none⟩ v5).setCell ⟨g, 6, none⟩ v6).setCell ⟨g, 7, none⟩ v7).setCell ⟨g, 8, none⟩ v8).setCell ⟨g, 9, none⟩ v9) g t #[v0, v1, v2, v3, v4, v5, v6, v7, v8, v9] := h9.set 9 v9
  exact h10
theorem below_set10 {B : Nat} {a w : World} (h : Below B a w) {g : Nat} (hg : B ≤ g) {v0 v1 v2 v3 v4 v5 v6 v7 v8 v9 : Value} : Below B a ((((((((((w.setCell ⟨g, 0, none⟩ v0).setCell ⟨g, 1, none⟩ v1).setCell ⟨g, 2, none⟩ v2).setCell ⟨g, 3, none⟩ v3).setCell ⟨g, 4, none⟩ v4).setCell ⟨g, 5, none⟩ v5).setCell ⟨g, 6, none⟩ v6).setCell ⟨g, 7, none⟩ v7).setCell ⟨g, 8, none⟩ v8).setCell ⟨g, 9, none⟩ v9) :=
  ((((((((((h.setCell hg v0).setCell hg v1).setCell hg v2).setCell hg v3).setCell hg v4).setCell hg v5).setCell hg v6).setCell hg v7).setCell hg v8).setCell hg v9)
theorem Own.far10 {α : Type} {f : α → List Value} {w : World} {base size : Nat} {e : TypeId} {v : Value} {l : List α} {g : Nat} {v0 v1 v2 v3 v4 v5 v6 v7 v8 v9 : Value} (hg : g < base) (h : Own w base e size f v l) : Own ((((((((((w.setCell ⟨g, 0, none⟩ v0).setCell ⟨g, 1, none⟩ v1).setCell ⟨g, 2, none⟩ v2).setCell ⟨g, 3, none⟩ v3).setCell ⟨g, 4, none⟩ v4).setCell ⟨g, 5, none⟩ v5).setCell ⟨g, 6, none⟩ v6).setCell ⟨g, 7, none⟩ v7).setCell ⟨g, 8, none⟩ v8).setCell ⟨g, 9, none⟩ v9) base e size f v l :=
  Own.far9 hg (Own.far9 hg (Own.far9 hg (Own.far9 hg (Own.far9 hg (Own.far9 hg (Own.far9 hg (Own.far9 hg (Own.far9 hg (Own.far9 hg h)))))))))
set_option maxRecDepth 100000 in
set_option maxHeartbeats 4000000 in
theorem couple_any (A A2 : Option Addr) (c c2 n : Nat) (a b : Tr) (w : World) (ha : TrOk a) (hb : TrOk b) (hn : a.grip.length = n) (hn' : b.grip.length = n) (hS : Sl w w.heap.size 1 CI A a.grip) (hS2 : Sl w w.heap.size 1 CI A2 b.grip) :
    Calls Tryz.prog 40 #[.agg #[.int .i64 a.mass, .int .i64 a.len, .int .i64 a.speed, .int .i64 a.effort, .int .i64 a.brake, .int .i64 a.power, .int .i64 a.resist, .int .i64 a.rise, .int .i64 a.back, .slice A n c], .agg #[.int .i64 b.mass, .int .i64 b.len, .int .i64 b.speed, .int .i64 b.effort, .int .i64 b.brake, .int .i64 b.power, .int .i64 b.resist, .int .i64 b.rise, .int .i64 b.back, .slice A2 n c2]] w fun e w' => ∃ v, e = .returned (.agg #[.int .i64 (a.mass + b.mass), .int .i64 (a.len + b.len), .int .i64 (min a.speed b.speed), .int .i64 (a.effort + b.effort), .int .i64 (a.brake + b.brake), .int .i64 (a.power + b.power), .int .i64 (a.resist + b.resist), .int .i64 (a.rise + b.rise), .int .i64 (min a.back b.back), v]) ∧ Own w' w.heap.size 3 1 fI v (coupT a b).grip ∧ Below w.heap.size w w' := by
  obtain ⟨i3, hi3, hz3, hs3, hy3⟩ := info_parts info3
  have hb1 := (((Below.refl w.heap.size w).alloc (Nat.le_refl _) (.cells #[.int .i64 a.mass, .int .i64 a.len, .int .i64 a.speed, .int .i64 a.effort, .int .i64 a.brake, .int .i64 a.power, .int .i64 a.resist, .int .i64 a.rise, .int .i64 a.back, .slice A n c] 24)).alloc (by simp) (.cells #[.int .i64 b.mass, .int .i64 b.len, .int .i64 b.speed, .int .i64 b.effort, .int .i64 b.brake, .int .i64 b.power, .int .i64 b.resist, .int .i64 b.rise, .int .i64 b.back, .slice A2 n c2] 24)).alloc (by simp; omega) (.cells #[.int .i64 0, .int .i64 0, .int .i64 0, .int .i64 0, .int .i64 0, .int .i64 0, .int .i64 0, .int .i64 0, .int .i64 0, .slice none 0 0] 24)
  obtain ⟨q1, q2, q3⟩ := rows3 w #[.int .i64 a.mass, .int .i64 a.len, .int .i64 a.speed, .int .i64 a.effort, .int .i64 a.brake, .int .i64 a.power, .int .i64 a.resist, .int .i64 a.rise, .int .i64 a.back, .slice A n c] #[.int .i64 b.mass, .int .i64 b.len, .int .i64 b.speed, .int .i64 b.effort, .int .i64 b.brake, .int .i64 b.power, .int .i64 b.resist, .int .i64 b.rise, .int .i64 b.back, .slice A2 n c2] #[.int .i64 0, .int .i64 0, .int .i64 0, .int .i64 0, .int .i64 0, .int .i64 0, .int .i64 0, .int .i64 0, .int .i64 0, .slice none 0 0] 24 24 24
  obtain ⟨W1, hW1⟩ : ∃ z, (((w.alloc (.cells #[.int .i64 a.mass, .int .i64 a.len, .int .i64 a.speed, .int .i64 a.effort, .int .i64 a.brake, .int .i64 a.power, .int .i64 a.resist, .int .i64 a.rise, .int .i64 a.back, .slice A n c] 24)).alloc (.cells #[.int .i64 b.mass, .int .i64 b.len, .int .i64 b.speed, .int .i64 b.effort, .int .i64 b.brake, .int .i64 b.power, .int .i64 b.resist, .int .i64 b.rise, .int .i64 b.back, .slice A2 n c2] 24)).alloc (.cells #[.int .i64 0, .int .i64 0, .int .i64 0, .int .i64 0, .int .i64 0, .int .i64 0, .int .i64 0, .int .i64 0, .int .i64 0, .slice none 0 0] 24)) = z := ⟨_, rfl⟩
  rw [hW1] at hb1 q1 q2 q3
  obtain ⟨B, hB⟩ : ∃ B, w.heap.size = B := ⟨_, rfl⟩
  have hszW : W1.heap.size = B + 3 := by rw [← hW1, ← hB]; simp
  rw [hB] at q1 q2 q3
  have HSZ := Lib.hid hszW
  have HSA := Lib.hid (show ∀ wx, Below W1.heap.size W1 wx → Sl wx B 1 CI A a.grip ∧ Sl wx B 1 CI A2 b.grip from fun wx h => by rw [← hB]; exact ⟨hS.below (hb1.trans (h.mono hb1.size)), hS2.below (hb1.trans (h.mono hb1.size))⟩)
  have HQ := Lib.hid (And.intro q1 (And.intro q2 q3))
  have HB1 := Lib.hid hb1; have HBE := Lib.hid hB
  have HN := Lib.hid (And.intro hn hn')
  have HCG := Lib.hid (show (coupT a b).grip = coupTo a b n from by unfold coupT; rw [hn])
  have hn8 : 1 ≤ n ∧ n ≤ 8 := by have := ha.g1; have := ha.g2; omega
  have HN8 := Lib.hid hn8
  have e0 := q1.cell 0; have e1 := q1.cell 1; have e2 := q1.cell 2; have e3 := q1.cell 3; have e4 := q1.cell 4; have e5 := q1.cell 5; have e6 := q1.cell 6; have e7 := q1.cell 7; have e8 := q1.cell 8; have e9 := q1.cell 9; have f0 := q2.cell 0; have f1 := q2.cell 1; have f2 := q2.cell 2; have f3 := q2.cell 3; have f4 := q2.cell 4; have f5 := q2.cell 5; have f6 := q2.cell 6; have f7 := q2.cell 7; have f8 := q2.cell 8; have f9 := q2.cell 9
  have hw0 : IntKind.i64.wrap (a.mass + b.mass) = a.mass + b.mass := by have := ha.m1; have := ha.m2; have := hb.m1; have := hb.m2; rw [IntKind.wrap_i64]; omega
  have hw1 : IntKind.i64.wrap (a.len + b.len) = a.len + b.len := by have := ha.l1; have := ha.l2; have := hb.l1; have := hb.l2; rw [IntKind.wrap_i64]; omega
  have hw3 : IntKind.i64.wrap (a.effort + b.effort) = a.effort + b.effort := by have := ha.e1; have := ha.e2; have := hb.e1; have := hb.e2; rw [IntKind.wrap_i64]; omega
  have hw4 : IntKind.i64.wrap (a.brake + b.brake) = a.brake + b.brake := by have := ha.b1; have := ha.b2; have := hb.b1; have := hb.b2; rw [IntKind.wrap_i64]; omega
  have hw5 : IntKind.i64.wrap (a.power + b.power) = a.power + b.power := by have := ha.p1; have := ha.p2; have := hb.p1; have := hb.p2; rw [IntKind.wrap_i64]; omega
  have hw6 : IntKind.i64.wrap (a.resist + b.resist) = a.resist + b.resist := by have := ha.r1; have := ha.r2; have := hb.r1; have := hb.r2; rw [IntKind.wrap_i64]; omega
  have hw7 : IntKind.i64.wrap (a.rise + b.rise) = a.rise + b.rise := by have := ha.s1; have := ha.s2; have := hb.s1; have := hb.s2; rw [IntKind.wrap_i64]; omega
  have hb2 := (Below.refl W1.heap.size W1).alloc (Nat.le_refl _) (.cells #[.int .i64 (a.mass + b.mass), .int .i64 (a.len + b.len), .int .i64 (min a.speed b.speed), .int .i64 (a.effort + b.effort), .int .i64 (a.brake + b.brake), .int .i64 (a.power + b.power), .int .i64 (a.resist + b.resist), .int .i64 (a.rise + b.rise), .int .i64 (min a.back b.back), .slice none 0 0] 24)
  have qn := Rw.new W1 #[.int .i64 (a.mass + b.mass), .int .i64 (a.len + b.len), .int .i64 (min a.speed b.speed), .int .i64 (a.effort + b.effort), .int .i64 (a.brake + b.brake), .int .i64 (a.power + b.power), .int .i64 (a.resist + b.resist), .int .i64 (a.rise + b.rise), .int .i64 (min a.back b.back), .slice none 0 0] 24
  have hsz2 : (W1.alloc (.cells #[.int .i64 (a.mass + b.mass), .int .i64 (a.len + b.len), .int .i64 (min a.speed b.speed), .int .i64 (a.effort + b.effort), .int .i64 (a.brake + b.brake), .int .i64 (a.power + b.power), .int .i64 (a.resist + b.resist), .int .i64 (a.rise + b.rise), .int .i64 (min a.back b.back), .slice none 0 0] 24)).heap.size = B + 4 := by rw [World.size_alloc, hszW]
  obtain ⟨W2, hW2⟩ : ∃ z, W1.alloc (.cells #[.int .i64 (a.mass + b.mass), .int .i64 (a.len + b.len), .int .i64 (min a.speed b.speed), .int .i64 (a.effort + b.effort), .int .i64 (a.brake + b.brake), .int .i64 (a.power + b.power), .int .i64 (a.resist + b.resist), .int .i64 (a.rise + b.rise), .int .i64 (min a.back b.back), .slice none 0 0] 24) = z := ⟨_, rfl⟩
  rw [hW2] at hb2 qn hsz2
  rw [hszW] at qn
  have HB2 := Lib.hid hb2; have HQN := Lib.hid qn; have HSZ2 := Lib.hid hsz2; have HW2 := Lib.hid hW2
  clear hb1 q1 q2 q3 hS hS2 hn hn' ha hb hszW hn8 hb2 qn hsz2 hW2
  go_enter Tryz.func40, Tryz.ntmps40
  go_upto_region 2 with (fail)
  rw [minIf a.speed b.speed, minIf a.back b.back, HW2.out, HSZ.out]
  have d9 := (HQ.out.1.below HB2.out (by have := HSZ.out; omega)).cell 9
  clear e0 e1 e2 e3 e4 e5 e6 e7 e8 e9 f0 f1 f2 f3 f4 f5 f6 f7 f8 f9 hw0 hw1 hw3 hw4 hw5 hw6 hw7 hW1 hB
  go_wp2
  clear d9
  go_loopw [57] (fun sc wr => ∃ (k : Nat) (v : Value), k ≤ n ∧ sc = .int .i64 (k : Int) ∧ Rw wr (B + 3) 24 #[.int .i64 (a.mass + b.mass), .int .i64 (a.len + b.len), .int .i64 (min a.speed b.speed), .int .i64 (a.effort + b.effort), .int .i64 (a.brake + b.brake), .int .i64 (a.power + b.power), .int .i64 (a.resist + b.resist), .int .i64 (a.rise + b.rise), .int .i64 (min a.back b.back), v] ∧ Own wr W2.heap.size 3 1 fI v (coupTo a b k) ∧ Below W1.heap.size W1 wr ∧ W2.heap.size ≤ wr.heap.size) (fun sc _ => n - (intOf sc).toNat)
  case atStart => exact ⟨0, _, Nat.zero_le _, rfl, HQN.out, Own.nil _ _ _ _ _, HB2.out, Nat.le_refl _⟩
  case round =>
    obtain ⟨k, v, hk, rfl, hrw, hown, hbr, hzr⟩ := hrel
    have HRW := Lib.hid hrw; have HO := Lib.hid hown; have HBR := Lib.hid (And.intro hbr hzr)
    have qa := HQ.out.1.below hbr HQ.out.1.lt
    have qb := HQ.out.2.1.below hbr HQ.out.2.1.lt
    have a9 := qa.cell 9
    have HN8k := Lib.hid HN8.out
    by_cases hkn : k < n
    · have hki : (k : Int) < (n : Int) := by omega
      have hk0 : (0 : Int) ≤ (k : Int) := by omega
      obtain ⟨b1, o1, e1, gb1, c0⟩ := int_at (HSA.out _ hbr).1 (i := k) (by have := HN.out.1; omega)
      obtain ⟨b2, o2, e2, gb2, c1⟩ := int_at (HSA.out _ hbr).2 (i := k) (by have := HN.out.2; omega)
      subst e1; subst e2
      obtain ⟨g1, hg1⟩ : ∃ g, a.grip[k]'(by have := HN.out.1; omega) = g := ⟨_, rfl⟩
      obtain ⟨g2, hg2⟩ : ∃ g, b.grip[k]'(by have := HN.out.2; omega) = g := ⟨_, rfl⟩
      rw [hg1] at c0
      rw [hg2] at c1
      have HG1 := Lib.hid (show gripAt a k = g1 from by unfold gripAt; rw [List.getElem?_eq_getElem (by have := HN.out.1; omega), hg1]; rfl)
      have HG2 := Lib.hid (show gripAt b k = g2 from by unfold gripAt; rw [List.getElem?_eq_getElem (by have := HN.out.2; omega), hg2]; rfl)
      have HBB := Lib.hid (And.intro gb1 gb2)
      have HKN := Lib.hid hkn
      have hk8 : k ≤ 8 := by have := HN8.out; omega
      have HX := Lib.hid (show ∀ wx, Below W2.heap.size wr wx → Rw wx (B + 3) 24 #[.int .i64 (a.mass + b.mass), .int .i64 (a.len + b.len), .int .i64 (min a.speed b.speed), .int .i64 (a.effort + b.effort), .int .i64 (a.brake + b.brake), .int .i64 (a.power + b.power), .int .i64 (a.resist + b.resist), .int .i64 (a.rise + b.rise), .int .i64 (min a.back b.back), v] ∧ Rw wx B 24 #[.int .i64 a.mass, .int .i64 a.len, .int .i64 a.speed, .int .i64 a.effort, .int .i64 a.brake, .int .i64 a.power, .int .i64 a.resist, .int .i64 a.rise, .int .i64 a.back, .slice (some ⟨b1, o1, none⟩) n c] ∧ Rw wx (B + 1) 24 #[.int .i64 b.mass, .int .i64 b.len, .int .i64 b.speed, .int .i64 b.effort, .int .i64 b.brake, .int .i64 b.power, .int .i64 b.resist, .int .i64 b.rise, .int .i64 b.back, .slice (some ⟨b2, o2, none⟩) n c2] ∧ wx.cell? ⟨b1, o1 + k, none⟩ = some (.int .i64 g1) ∧ wx.cell? ⟨b2, o2 + k, none⟩ = some (.int .i64 g2) from fun wx h => by
        have hz := HSZ2.out
        have := HBB.out
        exact ⟨hrw.below h (by omega), qa.below h (by omega), qb.below h (by omega), (h.cell (p := ⟨b1, o1 + k, none⟩) (by show b1 < W2.heap.size; omega)).trans c0, (h.cell (p := ⟨b2, o2 + k, none⟩) (by show b2 < W2.heap.size; omega)).trans c1⟩)
      have HC := Lib.hid (show ∀ wx, Below wr.heap.size wr wx → Rw wx (B + 3) 24 #[.int .i64 (a.mass + b.mass), .int .i64 (a.len + b.len), .int .i64 (min a.speed b.speed), .int .i64 (a.effort + b.effort), .int .i64 (a.brake + b.brake), .int .i64 (a.power + b.power), .int .i64 (a.resist + b.resist), .int .i64 (a.rise + b.rise), .int .i64 (min a.back b.back), v] ∧ Rw wx B 24 #[.int .i64 a.mass, .int .i64 a.len, .int .i64 a.speed, .int .i64 a.effort, .int .i64 a.brake, .int .i64 a.power, .int .i64 a.resist, .int .i64 a.rise, .int .i64 a.back, .slice (some ⟨b1, o1, none⟩) n c] ∧ Rw wx (B + 1) 24 #[.int .i64 b.mass, .int .i64 b.len, .int .i64 b.speed, .int .i64 b.effort, .int .i64 b.brake, .int .i64 b.power, .int .i64 b.resist, .int .i64 b.rise, .int .i64 b.back, .slice (some ⟨b2, o2, none⟩) n c2] ∧ wx.cell? ⟨b1, o1 + k, none⟩ = some (.int .i64 g1) ∧ wx.cell? ⟨b2, o2 + k, none⟩ = some (.int .i64 g2) from fun wx h => HX.out wx (h.mono HBR.out.2))
      clear hg1 hg2 hown hbr hzr hrw qa qb gb1 gb2 hkn
      go_upto_region 5 with (fail)
      clear a9 c0 c1 hki
      have hbq : Below wr.heap.size wr wr.drew := (Below.refl _ _).drew
      obtain ⟨wd, hwd⟩ : ∃ z, wr.drew = z := ⟨_, rfl⟩
      have HS := Lib.hid (show (∃ u, Rw wr.drew (B + 3) 24 #[.int .i64 (a.mass + b.mass), .int .i64 (a.len + b.len), .int .i64 (min a.speed b.speed), .int .i64 (a.effort + b.effort), .int .i64 (a.brake + b.brake), .int .i64 (a.power + b.power), .int .i64 (a.resist + b.resist), .int .i64 (a.rise + b.rise), .int .i64 (min a.back b.back), u]) ∧ Rw wr.drew B 24 #[.int .i64 a.mass, .int .i64 a.len, .int .i64 a.speed, .int .i64 a.effort, .int .i64 a.brake, .int .i64 a.power, .int .i64 a.resist, .int .i64 a.rise, .int .i64 a.back, .slice (some ⟨b1, o1, none⟩) n c] ∧ Rw wr.drew (B + 1) 24 #[.int .i64 b.mass, .int .i64 b.len, .int .i64 b.speed, .int .i64 b.effort, .int .i64 b.brake, .int .i64 b.power, .int .i64 b.resist, .int .i64 b.rise, .int .i64 b.back, .slice (some ⟨b2, o2, none⟩) n c2] ∧ wr.drew.cell? ⟨b1, o1 + k, none⟩ = some (.int .i64 g1) ∧ wr.drew.cell? ⟨b2, o2 + k, none⟩ = some (.int .i64 g2) from ⟨⟨_, (HC.out _ hbq).1⟩, (HC.out _ hbq).2⟩)
      refine wp_region_held_drew (S := fun wx => (∃ u, Rw wx (B + 3) 24 #[.int .i64 (a.mass + b.mass), .int .i64 (a.len + b.len), .int .i64 (min a.speed b.speed), .int .i64 (a.effort + b.effort), .int .i64 (a.brake + b.brake), .int .i64 (a.power + b.power), .int .i64 (a.resist + b.resist), .int .i64 (a.rise + b.rise), .int .i64 (min a.back b.back), u]) ∧ Rw wx B 24 #[.int .i64 a.mass, .int .i64 a.len, .int .i64 a.speed, .int .i64 a.effort, .int .i64 a.brake, .int .i64 a.power, .int .i64 a.resist, .int .i64 a.rise, .int .i64 a.back, .slice (some ⟨b1, o1, none⟩) n c] ∧ Rw wx (B + 1) 24 #[.int .i64 b.mass, .int .i64 b.len, .int .i64 b.speed, .int .i64 b.effort, .int .i64 b.brake, .int .i64 b.power, .int .i64 b.resist, .int .i64 b.rise, .int .i64 b.back, .slice (some ⟨b2, o2, none⟩) n c2] ∧ wx.cell? ⟨b1, o1 + k, none⟩ = some (.int .i64 g1) ∧ wx.cell? ⟨b2, o2 + k, none⟩ = some (.int .i64 g2)) (by kernel_rfl) HS.out (fun _ => ?_)
      rw [hwd] at hbq HS ⊢
      clear hwd
      refine hTake (i := 0) (d := 62) (v := .pointer (some ⟨B + 3, 9, none⟩)) rfl rfl (by kernel_rfl) (by kernel_rfl) (by kernel_rfl) (fun _ _ _ h => h) (Or.inl ⟨rfl, ?gr⟩) HS.out ?_
      case gr =>
        rintro W' ⟨⟨u0, s0⟩, s1, s2, s3, s4⟩
        have y9 := s1.cell 9; have z9 := s2.cell 9; have hkn := HKN.out
        have hq0 : (0 : Int) ≤ (k : Int) := by omega
        go_simp
      simp only [Act.put, List.setIfInBounds_toArray, List.set_cons_zero, List.set_cons_succ]
      refine hTake (i := 2) (d := 64) (v := .int .i64 g1) rfl rfl (by kernel_rfl) (by kernel_rfl) (by kernel_rfl) (fun _ _ _ h => h) (Or.inl ⟨rfl, ?gr⟩) HS.out ?_
      case gr =>
        rintro W' ⟨⟨u0, s0⟩, s1, s2, s3, s4⟩
        have y9 := s1.cell 9; have z9 := s2.cell 9; have hkn := HKN.out
        have hq0 : (0 : Int) ≤ (k : Int) := by omega
        go_simp
      simp only [Act.put, List.setIfInBounds_toArray, List.set_cons_zero, List.set_cons_succ]
      refine hTake (i := 3) (d := 65) (v := .pointer (some ⟨B + 1, 9, none⟩)) rfl rfl (by kernel_rfl) (by kernel_rfl) (by kernel_rfl) (fun _ _ _ h => h) (Or.inl ⟨rfl, ?gr⟩) HS.out ?_
      case gr =>
        rintro W' ⟨⟨u0, s0⟩, s1, s2, s3, s4⟩
        have y9 := s1.cell 9; have z9 := s2.cell 9; have hkn := HKN.out
        have hq0 : (0 : Int) ≤ (k : Int) := by omega
        go_simp
      simp only [Act.put, List.setIfInBounds_toArray, List.set_cons_zero, List.set_cons_succ]
      refine hTake (i := 4) (d := 66) (v := .slice (some ⟨b2, o2, none⟩) n c2) rfl rfl (by kernel_rfl) (by kernel_rfl) (by kernel_rfl) (fun _ _ _ h => h) (Or.inl ⟨rfl, ?gr⟩) HS.out ?_
      case gr =>
        rintro W' ⟨⟨u0, s0⟩, s1, s2, s3, s4⟩
        have y9 := s1.cell 9; have z9 := s2.cell 9; have hkn := HKN.out
        have hq0 : (0 : Int) ≤ (k : Int) := by omega
        go_simp
      simp only [Act.put, List.setIfInBounds_toArray, List.set_cons_zero, List.set_cons_succ]
      refine hTake (i := 5) (d := 67) (v := .int .i64 (k : Int)) rfl rfl (by kernel_rfl) (by kernel_rfl) (by kernel_rfl) (fun _ _ _ h => h) (Or.inl ⟨rfl, ?gr⟩) HS.out ?_
      case gr =>
        rintro W' ⟨⟨u0, s0⟩, s1, s2, s3, s4⟩
        have y9 := s1.cell 9; have z9 := s2.cell 9; have hkn := HKN.out
        have hq0 : (0 : Int) ≤ (k : Int) := by omega
        go_simp
      simp only [Act.put, List.setIfInBounds_toArray, List.set_cons_zero, List.set_cons_succ]
      refine hTake (i := 6) (d := 68) (v := .pointer (some ⟨b2, o2 + k, none⟩)) rfl rfl (by kernel_rfl) (by kernel_rfl) (by kernel_rfl) (fun _ _ _ h => h) (Or.inl ⟨rfl, ?gr⟩) HS.out ?_
      case gr =>
        rintro W' ⟨⟨u0, s0⟩, s1, s2, s3, s4⟩
        have y9 := s1.cell 9; have z9 := s2.cell 9; have hkn := HKN.out
        have hq0 : (0 : Int) ≤ (k : Int) := by omega
        go_simp
      simp only [Act.put, List.setIfInBounds_toArray, List.set_cons_zero, List.set_cons_succ]
      refine hTake (i := 7) (d := 69) (v := .int .i64 g2) rfl rfl (by kernel_rfl) (by kernel_rfl) (by kernel_rfl) (fun _ _ _ h => h) (Or.inl ⟨rfl, ?gr⟩) HS.out ?_
      case gr =>
        rintro W' ⟨⟨u0, s0⟩, s1, s2, s3, s4⟩
        have y9 := s1.cell 9; have z9 := s2.cell 9; have hkn := HKN.out
        have hq0 : (0 : Int) ≤ (k : Int) := by omega
        go_simp
      simp only [Act.put, List.setIfInBounds_toArray, List.set_cons_zero, List.set_cons_succ]
      refine hTake (i := 8) (d := 70) (v := .int .i64 (if g2 < g1 then g2 else g1)) rfl rfl (by kernel_rfl) (by kernel_rfl) (by kernel_rfl) (fun _ _ _ h => h) (Or.inl ⟨rfl, ?gr⟩) HS.out ?_
      case gr =>
        rintro W' ⟨⟨u0, s0⟩, s1, s2, s3, s4⟩
        have y9 := s1.cell 9; have z9 := s2.cell 9; have hkn := HKN.out
        have hq0 : (0 : Int) ≤ (k : Int) := by omega
        go_simp
      simp only [Act.put, List.setIfInBounds_toArray, List.set_cons_zero, List.set_cons_succ]
      refine wpAnyH_ready (rs := [1, 9]) (by kernel_rfl) (by simp) ?_
      refine AllReadyH.cons rfl (fun K hK => ?_) (AllReadyH.cons rfl (fun K hK => ?_) AllReadyH.nil)
      · rw [if_pos (by rfl)]
        have hx := (HC.out _ hbq).1.cell 9
        go_simp
        clear hx
        have HS := Lib.hid (show (∃ u, Rw wd (B + 3) 24 #[.int .i64 (a.mass + b.mass), .int .i64 (a.len + b.len), .int .i64 (min a.speed b.speed), .int .i64 (a.effort + b.effort), .int .i64 (a.brake + b.brake), .int .i64 (a.power + b.power), .int .i64 (a.resist + b.resist), .int .i64 (a.rise + b.rise), .int .i64 (min a.back b.back), u]) ∧ Rw wd B 24 #[.int .i64 a.mass, .int .i64 a.len, .int .i64 a.speed, .int .i64 a.effort, .int .i64 a.brake, .int .i64 a.power, .int .i64 a.resist, .int .i64 a.rise, .int .i64 a.back, .slice (some ⟨b1, o1, none⟩) n c] ∧ Rw wd (B + 1) 24 #[.int .i64 b.mass, .int .i64 b.len, .int .i64 b.speed, .int .i64 b.effort, .int .i64 b.brake, .int .i64 b.power, .int .i64 b.resist, .int .i64 b.rise, .int .i64 b.back, .slice (some ⟨b2, o2, none⟩) n c2] ∧ wd.cell? ⟨b1, o1 + k, none⟩ = some (.int .i64 g1) ∧ wd.cell? ⟨b2, o2 + k, none⟩ = some (.int .i64 g2) from ⟨⟨_, (HC.out _ hbq).1⟩, (HC.out _ hbq).2⟩)
        refine hK.out _ _ HS.out (fun _ => ?_)
        clear hK K
        try simp only [Act.put, List.setIfInBounds_toArray, List.set_cons_zero, List.set_cons_succ]
        refine wpAnyH_ready (rs := [9]) (by kernel_rfl) (by simp) ?_
        refine AllReadyH.cons rfl (fun K hK => ?_) AllReadyH.nil
        rw [if_pos (by rfl)]
        go_simp
        have hsn := Sl.new (f := fI) (size := 1) wd 3 ((if g2 < g1 then g2 else g1) : Int) #[.int .i64 (if g2 < g1 then g2 else g1)] rfl
        replace hbq := hbq.alloc hbq.size (.cells #[.int .i64 (if g2 < g1 then g2 else g1)] 3)
        obtain ⟨w13, hw13⟩ : ∃ z, wd.alloc (.cells #[.int .i64 (if g2 < g1 then g2 else g1)] 3) = z := ⟨_, rfl⟩
        have hwz : wd.heap.size = wd.heap.size := rfl
        rw [hw13] at hsn hbq ⊢
        clear hw13 hwz
        have HS := Lib.hid (show (∃ u, Rw w13 (B + 3) 24 #[.int .i64 (a.mass + b.mass), .int .i64 (a.len + b.len), .int .i64 (min a.speed b.speed), .int .i64 (a.effort + b.effort), .int .i64 (a.brake + b.brake), .int .i64 (a.power + b.power), .int .i64 (a.resist + b.resist), .int .i64 (a.rise + b.rise), .int .i64 (min a.back b.back), u]) ∧ Rw w13 B 24 #[.int .i64 a.mass, .int .i64 a.len, .int .i64 a.speed, .int .i64 a.effort, .int .i64 a.brake, .int .i64 a.power, .int .i64 a.resist, .int .i64 a.rise, .int .i64 a.back, .slice (some ⟨b1, o1, none⟩) n c] ∧ Rw w13 (B + 1) 24 #[.int .i64 b.mass, .int .i64 b.len, .int .i64 b.speed, .int .i64 b.effort, .int .i64 b.brake, .int .i64 b.power, .int .i64 b.resist, .int .i64 b.rise, .int .i64 b.back, .slice (some ⟨b2, o2, none⟩) n c2] ∧ w13.cell? ⟨b1, o1 + k, none⟩ = some (.int .i64 g1) ∧ w13.cell? ⟨b2, o2 + k, none⟩ = some (.int .i64 g2) from ⟨⟨_, (HC.out _ hbq).1⟩, (HC.out _ hbq).2⟩)
        refine hK.out _ _ HS.out (fun _ => ?_)
        clear hK K
        try simp only [Act.put, List.setIfInBounds_toArray, List.set_cons_zero, List.set_cons_succ]
        refine wpAnyH_ready (rs := [10]) (by kernel_rfl) (by simp) ?_
        refine AllReadyH.cons rfl (fun K hK => ?_) AllReadyH.nil
        rw [if_pos (by rfl)]
        refine wp_app _ (.tmp 63) (.tmp 71) _ rfl W2.heap.size 3 i3 _ 1 8 Tryz.underlying22 hi3 hz3 hs3 hy3 rfl (by omega) fI_len fI_one v (coupTo a b k) rfl (HO.out.below hbq (Nat.le_refl _)) _ _ [(if g2 < g1 then g2 else g1)] 1 rfl hsn (by unfold maxLen; rw [coupTo_len]; simp only [List.length_cons, List.length_nil]; omega) (by rw [coupTo_len]; simp only [List.length_cons, List.length_nil]; omega) (by have := HBR.out.2; have := hbq.size; omega) (fun _ => .inr ⟨_, rfl⟩) ?_
        intro v2 w14 o14 gr14 at14 ne14
        obtain ⟨Av, cv, hve, _, _, _⟩ := o14.form
        rw [show (coupTo a b k ++ [(if g2 < g1 then g2 else g1)]).length = k + 1 from by rw [List.length_append, coupTo_len]; rfl] at hve
        subst hve
        have hb14 := (hbq.mono HBR.out.2).grown gr14 (by have := HBR.out.2; have := hbq.size; omega) (fun b hb => (HO.out.lt b hb).1)
        have hx := HX.out w14 hb14
        have HS := Lib.hid (show (∃ u, Rw w14 (B + 3) 24 #[.int .i64 (a.mass + b.mass), .int .i64 (a.len + b.len), .int .i64 (min a.speed b.speed), .int .i64 (a.effort + b.effort), .int .i64 (a.brake + b.brake), .int .i64 (a.power + b.power), .int .i64 (a.resist + b.resist), .int .i64 (a.rise + b.rise), .int .i64 (min a.back b.back), u]) ∧ Rw w14 B 24 #[.int .i64 a.mass, .int .i64 a.len, .int .i64 a.speed, .int .i64 a.effort, .int .i64 a.brake, .int .i64 a.power, .int .i64 a.resist, .int .i64 a.rise, .int .i64 a.back, .slice (some ⟨b1, o1, none⟩) n c] ∧ Rw w14 (B + 1) 24 #[.int .i64 b.mass, .int .i64 b.len, .int .i64 b.speed, .int .i64 b.effort, .int .i64 b.brake, .int .i64 b.power, .int .i64 b.resist, .int .i64 b.rise, .int .i64 b.back, .slice (some ⟨b2, o2, none⟩) n c2] ∧ w14.cell? ⟨b1, o1 + k, none⟩ = some (.int .i64 g1) ∧ w14.cell? ⟨b2, o2 + k, none⟩ = some (.int .i64 g2) from ⟨⟨_, hx.1⟩, hx.2⟩)
        have HX14 := Lib.hid hx
        refine hK.out _ _ HS.out (fun _ => ?_)
        clear hK K
        try simp only [Act.put, List.setIfInBounds_toArray, List.set_cons_zero, List.set_cons_succ]
        refine hTake (i := 11) (d := 73) (v := .pointer (some ⟨B + 3, 9, none⟩)) rfl rfl (by kernel_rfl) (by kernel_rfl) (by kernel_rfl) (fun _ _ _ h => h) (Or.inl ⟨rfl, ?gr⟩) HS.out ?_
        case gr =>
          rintro W' ⟨⟨u0, s0⟩, s1, s2, s3, s4⟩
          have y9 := s1.cell 9; have z9 := s2.cell 9; have hkn := HKN.out
          have hq0 : (0 : Int) ≤ (k : Int) := by omega
          go_simp
        simp only [Act.put, List.setIfInBounds_toArray, List.set_cons_zero, List.set_cons_succ]
        refine wpAnyH_ready (rs := [12]) (by kernel_rfl) (by simp) ?_
        refine AllReadyH.cons rfl (fun K hK => ?_) AllReadyH.nil
        rw [if_pos (by rfl)]
        have hx9 := HX14.out.1.cell 9; have hf9 := HX14.out.1.frozen 9
        go_simp
        clear hx9 hf9
        have hz4 := HSZ2.out
        have r1 := HX14.out.1.set 9 (.slice Av (k + 1) cv)
        have r2 := HX14.out.2.1.far (k := B + 3) 9 (.slice Av (k + 1) cv) (by omega)
        have r3 := HX14.out.2.2.1.far (k := B + 3) 9 (.slice Av (k + 1) cv) (by omega)
        have r4 : (w14.setCell ⟨B + 3, 9, none⟩ (.slice Av (k + 1) cv)).cell? ⟨b1, o1 + k, none⟩ = some (.int .i64 g1) := (cell_far w14 (.slice Av (k + 1) cv) (by have := HBB.out.1; omega)).trans HX14.out.2.2.2.1
        have r5 : (w14.setCell ⟨B + 3, 9, none⟩ (.slice Av (k + 1) cv)).cell? ⟨b2, o2 + k, none⟩ = some (.int .i64 g2) := (cell_far w14 (.slice Av (k + 1) cv) (by have := HBB.out.2; omega)).trans HX14.out.2.2.2.2
        have HS := Lib.hid (show (∃ u, Rw (w14.setCell ⟨B + 3, 9, none⟩ (.slice Av (k + 1) cv)) (B + 3) 24 #[.int .i64 (a.mass + b.mass), .int .i64 (a.len + b.len), .int .i64 (min a.speed b.speed), .int .i64 (a.effort + b.effort), .int .i64 (a.brake + b.brake), .int .i64 (a.power + b.power), .int .i64 (a.resist + b.resist), .int .i64 (a.rise + b.rise), .int .i64 (min a.back b.back), u]) ∧ Rw (w14.setCell ⟨B + 3, 9, none⟩ (.slice Av (k + 1) cv)) B 24 #[.int .i64 a.mass, .int .i64 a.len, .int .i64 a.speed, .int .i64 a.effort, .int .i64 a.brake, .int .i64 a.power, .int .i64 a.resist, .int .i64 a.rise, .int .i64 a.back, .slice (some ⟨b1, o1, none⟩) n c] ∧ Rw (w14.setCell ⟨B + 3, 9, none⟩ (.slice Av (k + 1) cv)) (B + 1) 24 #[.int .i64 b.mass, .int .i64 b.len, .int .i64 b.speed, .int .i64 b.effort, .int .i64 b.brake, .int .i64 b.power, .int .i64 b.resist, .int .i64 b.rise, .int .i64 b.back, .slice (some ⟨b2, o2, none⟩) n c2] ∧ (w14.setCell ⟨B + 3, 9, none⟩ (.slice Av (k + 1) cv)).cell? ⟨b1, o1 + k, none⟩ = some (.int .i64 g1) ∧ (w14.setCell ⟨B + 3, 9, none⟩ (.slice Av (k + 1) cv)).cell? ⟨b2, o2 + k, none⟩ = some (.int .i64 g2) from ⟨⟨_, r1⟩, r2, r3, r4, r5⟩)
        have HR1 := Lib.hid r1
        clear r1 r2 r3 r4 r5
        refine hK.out _ _ HS.out (fun _ => ?_)
        clear hK K
        try simp only [Act.put, List.setIfInBounds_toArray, List.set_cons_zero, List.set_cons_succ]
        refine wpAnyH_done (by kernel_rfl) ?_ _
        have hz2 := HSZ2.out
        have ho15 : Own (w14.setCell ⟨B + 3, 9, none⟩ (.slice Av (k + 1) cv)) W2.heap.size 3 1 fI (.slice Av (k + 1) cv) (coupTo a b (k + 1)) := by
          rw [coupTo_succ, HG1.out, HG2.out, ← minIf]
          exact Own.far9 (by omega) o14
        have hb15 : Below W1.heap.size W1 (w14.setCell ⟨B + 3, 9, none⟩ (.slice Av (k + 1) cv)) := (HBR.out.1.trans (hb14.mono (by have := HSZ.out; omega))).setCell (by show W1.heap.size ≤ B + 3; have := HSZ.out; omega) _
        have hz15 : W2.heap.size ≤ (w14.setCell ⟨B + 3, 9, none⟩ (.slice Av (k + 1) cv)).heap.size := by rw [World.size_setCell]; exact Nat.le_trans HBR.out.2 (by have := hb14.size; omega)
        have HE := Lib.hid (And.intro HR1.out (And.intro ho15 (And.intro hb15 hz15)))
        clear ho15 hb15 hz15 hbq HS hx HX14 HR1 o14 gr14 at14 ne14 hb14 hz2 hz4
        obtain ⟨w15, hw15⟩ : ∃ z, w14.setCell ⟨B + 3, 9, none⟩ (.slice Av (k + 1) cv) = z := ⟨_, rfl⟩
        rw [hw15] at HE ⊢
        clear hw15
        go_wp2
        refine ⟨⟨k + 1, (.slice Av (k + 1) cv), by have := HKN.out; omega, by simp, HE.out.1, HE.out.2.1, HE.out.2.2.1, HE.out.2.2.2⟩, ?_⟩
        have := HKN.out
        simp [intOf] <;> omega

      · rw [if_pos (by rfl)]
        go_simp
        have hsn := Sl.new (f := fI) (size := 1) wd 3 ((if g2 < g1 then g2 else g1) : Int) #[.int .i64 (if g2 < g1 then g2 else g1)] rfl
        replace hbq := hbq.alloc hbq.size (.cells #[.int .i64 (if g2 < g1 then g2 else g1)] 3)
        obtain ⟨w13, hw13⟩ : ∃ z, wd.alloc (.cells #[.int .i64 (if g2 < g1 then g2 else g1)] 3) = z := ⟨_, rfl⟩
        have hwz : wd.heap.size = wd.heap.size := rfl
        rw [hw13] at hsn hbq ⊢
        clear hw13 hwz
        have HS := Lib.hid (show (∃ u, Rw w13 (B + 3) 24 #[.int .i64 (a.mass + b.mass), .int .i64 (a.len + b.len), .int .i64 (min a.speed b.speed), .int .i64 (a.effort + b.effort), .int .i64 (a.brake + b.brake), .int .i64 (a.power + b.power), .int .i64 (a.resist + b.resist), .int .i64 (a.rise + b.rise), .int .i64 (min a.back b.back), u]) ∧ Rw w13 B 24 #[.int .i64 a.mass, .int .i64 a.len, .int .i64 a.speed, .int .i64 a.effort, .int .i64 a.brake, .int .i64 a.power, .int .i64 a.resist, .int .i64 a.rise, .int .i64 a.back, .slice (some ⟨b1, o1, none⟩) n c] ∧ Rw w13 (B + 1) 24 #[.int .i64 b.mass, .int .i64 b.len, .int .i64 b.speed, .int .i64 b.effort, .int .i64 b.brake, .int .i64 b.power, .int .i64 b.resist, .int .i64 b.rise, .int .i64 b.back, .slice (some ⟨b2, o2, none⟩) n c2] ∧ w13.cell? ⟨b1, o1 + k, none⟩ = some (.int .i64 g1) ∧ w13.cell? ⟨b2, o2 + k, none⟩ = some (.int .i64 g2) from ⟨⟨_, (HC.out _ hbq).1⟩, (HC.out _ hbq).2⟩)
        refine hK.out _ _ HS.out (fun _ => ?_)
        clear hK K
        try simp only [Act.put, List.setIfInBounds_toArray, List.set_cons_zero, List.set_cons_succ]
        refine wpAnyH_ready (rs := [1]) (by kernel_rfl) (by simp) ?_
        refine AllReadyH.cons rfl (fun K hK => ?_) AllReadyH.nil
        rw [if_pos (by rfl)]
        have hx := (HC.out _ hbq).1.cell 9
        go_simp
        clear hx
        have HS := Lib.hid (show (∃ u, Rw w13 (B + 3) 24 #[.int .i64 (a.mass + b.mass), .int .i64 (a.len + b.len), .int .i64 (min a.speed b.speed), .int .i64 (a.effort + b.effort), .int .i64 (a.brake + b.brake), .int .i64 (a.power + b.power), .int .i64 (a.resist + b.resist), .int .i64 (a.rise + b.rise), .int .i64 (min a.back b.back), u]) ∧ Rw w13 B 24 #[.int .i64 a.mass, .int .i64 a.len, .int .i64 a.speed, .int .i64 a.effort, .int .i64 a.brake, .int .i64 a.power, .int .i64 a.resist, .int .i64 a.rise, .int .i64 a.back, .slice (some ⟨b1, o1, none⟩) n c] ∧ Rw w13 (B + 1) 24 #[.int .i64 b.mass, .int .i64 b.len, .int .i64 b.speed, .int .i64 b.effort, .int .i64 b.brake, .int .i64 b.power, .int .i64 b.resist, .int .i64 b.rise, .int .i64 b.back, .slice (some ⟨b2, o2, none⟩) n c2] ∧ w13.cell? ⟨b1, o1 + k, none⟩ = some (.int .i64 g1) ∧ w13.cell? ⟨b2, o2 + k, none⟩ = some (.int .i64 g2) from ⟨⟨_, (HC.out _ hbq).1⟩, (HC.out _ hbq).2⟩)
        refine hK.out _ _ HS.out (fun _ => ?_)
        clear hK K
        try simp only [Act.put, List.setIfInBounds_toArray, List.set_cons_zero, List.set_cons_succ]
        refine wpAnyH_ready (rs := [10]) (by kernel_rfl) (by simp) ?_
        refine AllReadyH.cons rfl (fun K hK => ?_) AllReadyH.nil
        rw [if_pos (by rfl)]
        refine wp_app _ (.tmp 63) (.tmp 71) _ rfl W2.heap.size 3 i3 _ 1 8 Tryz.underlying22 hi3 hz3 hs3 hy3 rfl (by omega) fI_len fI_one v (coupTo a b k) rfl (HO.out.below hbq (Nat.le_refl _)) _ _ [(if g2 < g1 then g2 else g1)] 1 rfl hsn (by unfold maxLen; rw [coupTo_len]; simp only [List.length_cons, List.length_nil]; omega) (by rw [coupTo_len]; simp only [List.length_cons, List.length_nil]; omega) (by have := HBR.out.2; have := hbq.size; omega) (fun _ => .inr ⟨_, rfl⟩) ?_
        intro v2 w14 o14 gr14 at14 ne14
        obtain ⟨Av, cv, hve, _, _, _⟩ := o14.form
        rw [show (coupTo a b k ++ [(if g2 < g1 then g2 else g1)]).length = k + 1 from by rw [List.length_append, coupTo_len]; rfl] at hve
        subst hve
        have hb14 := (hbq.mono HBR.out.2).grown gr14 (by have := HBR.out.2; have := hbq.size; omega) (fun b hb => (HO.out.lt b hb).1)
        have hx := HX.out w14 hb14
        have HS := Lib.hid (show (∃ u, Rw w14 (B + 3) 24 #[.int .i64 (a.mass + b.mass), .int .i64 (a.len + b.len), .int .i64 (min a.speed b.speed), .int .i64 (a.effort + b.effort), .int .i64 (a.brake + b.brake), .int .i64 (a.power + b.power), .int .i64 (a.resist + b.resist), .int .i64 (a.rise + b.rise), .int .i64 (min a.back b.back), u]) ∧ Rw w14 B 24 #[.int .i64 a.mass, .int .i64 a.len, .int .i64 a.speed, .int .i64 a.effort, .int .i64 a.brake, .int .i64 a.power, .int .i64 a.resist, .int .i64 a.rise, .int .i64 a.back, .slice (some ⟨b1, o1, none⟩) n c] ∧ Rw w14 (B + 1) 24 #[.int .i64 b.mass, .int .i64 b.len, .int .i64 b.speed, .int .i64 b.effort, .int .i64 b.brake, .int .i64 b.power, .int .i64 b.resist, .int .i64 b.rise, .int .i64 b.back, .slice (some ⟨b2, o2, none⟩) n c2] ∧ w14.cell? ⟨b1, o1 + k, none⟩ = some (.int .i64 g1) ∧ w14.cell? ⟨b2, o2 + k, none⟩ = some (.int .i64 g2) from ⟨⟨_, hx.1⟩, hx.2⟩)
        have HX14 := Lib.hid hx
        refine hK.out _ _ HS.out (fun _ => ?_)
        clear hK K
        try simp only [Act.put, List.setIfInBounds_toArray, List.set_cons_zero, List.set_cons_succ]
        refine hTake (i := 11) (d := 73) (v := .pointer (some ⟨B + 3, 9, none⟩)) rfl rfl (by kernel_rfl) (by kernel_rfl) (by kernel_rfl) (fun _ _ _ h => h) (Or.inl ⟨rfl, ?gr⟩) HS.out ?_
        case gr =>
          rintro W' ⟨⟨u0, s0⟩, s1, s2, s3, s4⟩
          have y9 := s1.cell 9; have z9 := s2.cell 9; have hkn := HKN.out
          have hq0 : (0 : Int) ≤ (k : Int) := by omega
          go_simp
        simp only [Act.put, List.setIfInBounds_toArray, List.set_cons_zero, List.set_cons_succ]
        refine wpAnyH_ready (rs := [12]) (by kernel_rfl) (by simp) ?_
        refine AllReadyH.cons rfl (fun K hK => ?_) AllReadyH.nil
        rw [if_pos (by rfl)]
        have hx9 := HX14.out.1.cell 9; have hf9 := HX14.out.1.frozen 9
        go_simp
        clear hx9 hf9
        have hz4 := HSZ2.out
        have r1 := HX14.out.1.set 9 (.slice Av (k + 1) cv)
        have r2 := HX14.out.2.1.far (k := B + 3) 9 (.slice Av (k + 1) cv) (by omega)
        have r3 := HX14.out.2.2.1.far (k := B + 3) 9 (.slice Av (k + 1) cv) (by omega)
        have r4 : (w14.setCell ⟨B + 3, 9, none⟩ (.slice Av (k + 1) cv)).cell? ⟨b1, o1 + k, none⟩ = some (.int .i64 g1) := (cell_far w14 (.slice Av (k + 1) cv) (by have := HBB.out.1; omega)).trans HX14.out.2.2.2.1
        have r5 : (w14.setCell ⟨B + 3, 9, none⟩ (.slice Av (k + 1) cv)).cell? ⟨b2, o2 + k, none⟩ = some (.int .i64 g2) := (cell_far w14 (.slice Av (k + 1) cv) (by have := HBB.out.2; omega)).trans HX14.out.2.2.2.2
        have HS := Lib.hid (show (∃ u, Rw (w14.setCell ⟨B + 3, 9, none⟩ (.slice Av (k + 1) cv)) (B + 3) 24 #[.int .i64 (a.mass + b.mass), .int .i64 (a.len + b.len), .int .i64 (min a.speed b.speed), .int .i64 (a.effort + b.effort), .int .i64 (a.brake + b.brake), .int .i64 (a.power + b.power), .int .i64 (a.resist + b.resist), .int .i64 (a.rise + b.rise), .int .i64 (min a.back b.back), u]) ∧ Rw (w14.setCell ⟨B + 3, 9, none⟩ (.slice Av (k + 1) cv)) B 24 #[.int .i64 a.mass, .int .i64 a.len, .int .i64 a.speed, .int .i64 a.effort, .int .i64 a.brake, .int .i64 a.power, .int .i64 a.resist, .int .i64 a.rise, .int .i64 a.back, .slice (some ⟨b1, o1, none⟩) n c] ∧ Rw (w14.setCell ⟨B + 3, 9, none⟩ (.slice Av (k + 1) cv)) (B + 1) 24 #[.int .i64 b.mass, .int .i64 b.len, .int .i64 b.speed, .int .i64 b.effort, .int .i64 b.brake, .int .i64 b.power, .int .i64 b.resist, .int .i64 b.rise, .int .i64 b.back, .slice (some ⟨b2, o2, none⟩) n c2] ∧ (w14.setCell ⟨B + 3, 9, none⟩ (.slice Av (k + 1) cv)).cell? ⟨b1, o1 + k, none⟩ = some (.int .i64 g1) ∧ (w14.setCell ⟨B + 3, 9, none⟩ (.slice Av (k + 1) cv)).cell? ⟨b2, o2 + k, none⟩ = some (.int .i64 g2) from ⟨⟨_, r1⟩, r2, r3, r4, r5⟩)
        have HR1 := Lib.hid r1
        clear r1 r2 r3 r4 r5
        refine hK.out _ _ HS.out (fun _ => ?_)
        clear hK K
        try simp only [Act.put, List.setIfInBounds_toArray, List.set_cons_zero, List.set_cons_succ]
        refine wpAnyH_done (by kernel_rfl) ?_ _
        have hz2 := HSZ2.out
        have ho15 : Own (w14.setCell ⟨B + 3, 9, none⟩ (.slice Av (k + 1) cv)) W2.heap.size 3 1 fI (.slice Av (k + 1) cv) (coupTo a b (k + 1)) := by
          rw [coupTo_succ, HG1.out, HG2.out, ← minIf]
          exact Own.far9 (by omega) o14
        have hb15 : Below W1.heap.size W1 (w14.setCell ⟨B + 3, 9, none⟩ (.slice Av (k + 1) cv)) := (HBR.out.1.trans (hb14.mono (by have := HSZ.out; omega))).setCell (by show W1.heap.size ≤ B + 3; have := HSZ.out; omega) _
        have hz15 : W2.heap.size ≤ (w14.setCell ⟨B + 3, 9, none⟩ (.slice Av (k + 1) cv)).heap.size := by rw [World.size_setCell]; exact Nat.le_trans HBR.out.2 (by have := hb14.size; omega)
        have HE := Lib.hid (And.intro HR1.out (And.intro ho15 (And.intro hb15 hz15)))
        clear ho15 hb15 hz15 hbq HS hx HX14 HR1 o14 gr14 at14 ne14 hb14 hz2 hz4
        obtain ⟨w15, hw15⟩ : ∃ z, w14.setCell ⟨B + 3, 9, none⟩ (.slice Av (k + 1) cv) = z := ⟨_, rfl⟩
        rw [hw15] at HE ⊢
        clear hw15
        go_wp2
        refine ⟨⟨k + 1, (.slice Av (k + 1) cv), by have := HKN.out; omega, by simp, HE.out.1, HE.out.2.1, HE.out.2.2.1, HE.out.2.2.2⟩, ?_⟩
        have := HKN.out
        simp [intOf] <;> omega

    · have hki : ¬ (k : Int) < (n : Int) := by omega
      have hkk : k = n := by omega
      obtain ⟨Av, cv, hve, _, _, _⟩ := hown.form
      rw [coupTo_len] at hve
      subst hve
      have HF := Lib.hid (show (coupT a b).grip = coupTo a b k from by rw [HCG.out, hkk])
      have r3 := HQ.out.2.2.below hbr HQ.out.2.2.lt
      have h0 := hrw.cell 0; have h1 := hrw.cell 1; have h2 := hrw.cell 2; have h3 := hrw.cell 3; have h4 := hrw.cell 4; have h5 := hrw.cell 5; have h6 := hrw.cell 6; have h7 := hrw.cell 7; have h8 := hrw.cell 8; have h9 := hrw.cell 9
      have g0 := r3.cell 0; have g1 := r3.cell 1; have g2 := r3.cell 2; have g3 := r3.cell 3; have g4 := r3.cell 4; have g5 := r3.cell 5; have g6 := r3.cell 6; have g7 := r3.cell 7; have g8 := r3.cell 8; have g9 := r3.cell 9
      have k0 := r3.frozen 0; have k1 := r3.frozen 1; have k2 := r3.frozen 2; have k3 := r3.frozen 3; have k4 := r3.frozen 4; have k5 := r3.frozen 5; have k6 := r3.frozen 6; have k7 := r3.frozen 7; have k8 := r3.frozen 8; have k9 := r3.frozen 9
      have HR3 := Lib.hid r3
      clear hown hbr hzr hrw qa qb hkn hkk r3
      go_wp2
      (try simp only [Exit.inBlock, Exit.then])
      have hr := Rw.set10 HR3.out (.int .i64 (a.mass + b.mass)) (.int .i64 (a.len + b.len)) (.int .i64 (min a.speed b.speed)) (.int .i64 (a.effort + b.effort)) (.int .i64 (a.brake + b.brake)) (.int .i64 (a.power + b.power)) (.int .i64 (a.resist + b.resist)) (.int .i64 (a.rise + b.rise)) (.int .i64 (min a.back b.back)) (.slice Av k cv)
      refine bodyPost_ret (res_c rfl _ _ _ _ _ _ rfl hr Tryz.underlying24 rfl (by kernel_rfl)) rfl ?_
      refine ⟨_, rfl, ?_, ?_⟩
      · rw [HF.out]
        refine ((Own.far10 (by have := HSZ2.out; omega) HO.out).lower ?_)
        have := HSZ2.out; have := HBE.out; omega
      · exact below_set10 (HB1.out.trans (HBR.out.1.mono HB1.out.size)) (by have := HBE.out; omega)
set_option maxRecDepth 100000 in
set_option maxHeartbeats 4000000 in
theorem rCouple_any (A A2 : Option Addr) (c c2 n : Nat) (a b : Tr) (w : World) (ha : TrOk a) (hb : TrOk b) (hn : a.grip.length = n) (hn' : b.grip.length = n) (hS : Sl w w.heap.size 1 CI A a.grip) (hS2 : Sl w w.heap.size 1 CI A2 b.grip) :
    Calls Tryz.prog 19 #[.agg #[.int .i64 a.mass, .int .i64 a.len, .int .i64 a.speed, .int .i64 a.effort, .int .i64 a.brake, .int .i64 a.power, .int .i64 a.resist, .int .i64 a.rise, .int .i64 a.back, .slice A n c], .agg #[.int .i64 b.mass, .int .i64 b.len, .int .i64 b.speed, .int .i64 b.effort, .int .i64 b.brake, .int .i64 b.power, .int .i64 b.resist, .int .i64 b.rise, .int .i64 b.back, .slice A2 n c2]] w fun e w' => ∃ v, e = .returned (.agg #[.int .i64 (a.mass + b.mass), .int .i64 (a.len + b.len), .int .i64 (min a.speed b.speed), .int .i64 (a.effort + b.effort), .int .i64 (a.brake + b.brake), .int .i64 (a.power + b.power), .int .i64 (a.resist + b.resist), .int .i64 (a.rise + b.rise), .int .i64 (min a.back b.back), v]) ∧ Own w' w.heap.size 3 1 fI v (coupT a b).grip ∧ Below w.heap.size w w' := by
  obtain ⟨i3, hi3, hz3, hs3, hy3⟩ := info_parts info3
  have hb1 := (((Below.refl w.heap.size w).alloc (Nat.le_refl _) (.cells #[.int .i64 a.mass, .int .i64 a.len, .int .i64 a.speed, .int .i64 a.effort, .int .i64 a.brake, .int .i64 a.power, .int .i64 a.resist, .int .i64 a.rise, .int .i64 a.back, .slice A n c] 24)).alloc (by simp) (.cells #[.int .i64 b.mass, .int .i64 b.len, .int .i64 b.speed, .int .i64 b.effort, .int .i64 b.brake, .int .i64 b.power, .int .i64 b.resist, .int .i64 b.rise, .int .i64 b.back, .slice A2 n c2] 24)).alloc (by simp; omega) (.cells #[.int .i64 0, .int .i64 0, .int .i64 0, .int .i64 0, .int .i64 0, .int .i64 0, .int .i64 0, .int .i64 0, .int .i64 0, .slice none 0 0] 24)
  obtain ⟨q1, q2, q3⟩ := rows3 w #[.int .i64 a.mass, .int .i64 a.len, .int .i64 a.speed, .int .i64 a.effort, .int .i64 a.brake, .int .i64 a.power, .int .i64 a.resist, .int .i64 a.rise, .int .i64 a.back, .slice A n c] #[.int .i64 b.mass, .int .i64 b.len, .int .i64 b.speed, .int .i64 b.effort, .int .i64 b.brake, .int .i64 b.power, .int .i64 b.resist, .int .i64 b.rise, .int .i64 b.back, .slice A2 n c2] #[.int .i64 0, .int .i64 0, .int .i64 0, .int .i64 0, .int .i64 0, .int .i64 0, .int .i64 0, .int .i64 0, .int .i64 0, .slice none 0 0] 24 24 24
  obtain ⟨W1, hW1⟩ : ∃ z, (((w.alloc (.cells #[.int .i64 a.mass, .int .i64 a.len, .int .i64 a.speed, .int .i64 a.effort, .int .i64 a.brake, .int .i64 a.power, .int .i64 a.resist, .int .i64 a.rise, .int .i64 a.back, .slice A n c] 24)).alloc (.cells #[.int .i64 b.mass, .int .i64 b.len, .int .i64 b.speed, .int .i64 b.effort, .int .i64 b.brake, .int .i64 b.power, .int .i64 b.resist, .int .i64 b.rise, .int .i64 b.back, .slice A2 n c2] 24)).alloc (.cells #[.int .i64 0, .int .i64 0, .int .i64 0, .int .i64 0, .int .i64 0, .int .i64 0, .int .i64 0, .int .i64 0, .int .i64 0, .slice none 0 0] 24)) = z := ⟨_, rfl⟩
  rw [hW1] at hb1 q1 q2 q3
  obtain ⟨B, hB⟩ : ∃ B, w.heap.size = B := ⟨_, rfl⟩
  have hszW : W1.heap.size = B + 3 := by rw [← hW1, ← hB]; simp
  rw [hB] at q1 q2 q3
  have HSZ := Lib.hid hszW
  have HSA := Lib.hid (show ∀ wx, Below W1.heap.size W1 wx → Sl wx B 1 CI A a.grip ∧ Sl wx B 1 CI A2 b.grip from fun wx h => by rw [← hB]; exact ⟨hS.below (hb1.trans (h.mono hb1.size)), hS2.below (hb1.trans (h.mono hb1.size))⟩)
  have HQ := Lib.hid (And.intro q1 (And.intro q2 q3))
  have HB1 := Lib.hid hb1; have HBE := Lib.hid hB
  have HN := Lib.hid (And.intro hn hn')
  have HCG := Lib.hid (show (coupT a b).grip = coupTo a b n from by unfold coupT; rw [hn])
  have hn8 : 1 ≤ n ∧ n ≤ 8 := by have := ha.g1; have := ha.g2; omega
  have HN8 := Lib.hid hn8
  have e0 := q1.cell 0; have e1 := q1.cell 1; have e2 := q1.cell 2; have e3 := q1.cell 3; have e4 := q1.cell 4; have e5 := q1.cell 5; have e6 := q1.cell 6; have e7 := q1.cell 7; have e8 := q1.cell 8; have e9 := q1.cell 9; have f0 := q2.cell 0; have f1 := q2.cell 1; have f2 := q2.cell 2; have f3 := q2.cell 3; have f4 := q2.cell 4; have f5 := q2.cell 5; have f6 := q2.cell 6; have f7 := q2.cell 7; have f8 := q2.cell 8; have f9 := q2.cell 9
  have hw0 : IntKind.i64.wrap (a.mass + b.mass) = a.mass + b.mass := by have := ha.m1; have := ha.m2; have := hb.m1; have := hb.m2; rw [IntKind.wrap_i64]; omega
  have hw1 : IntKind.i64.wrap (a.len + b.len) = a.len + b.len := by have := ha.l1; have := ha.l2; have := hb.l1; have := hb.l2; rw [IntKind.wrap_i64]; omega
  have hw3 : IntKind.i64.wrap (a.effort + b.effort) = a.effort + b.effort := by have := ha.e1; have := ha.e2; have := hb.e1; have := hb.e2; rw [IntKind.wrap_i64]; omega
  have hw4 : IntKind.i64.wrap (a.brake + b.brake) = a.brake + b.brake := by have := ha.b1; have := ha.b2; have := hb.b1; have := hb.b2; rw [IntKind.wrap_i64]; omega
  have hw5 : IntKind.i64.wrap (a.power + b.power) = a.power + b.power := by have := ha.p1; have := ha.p2; have := hb.p1; have := hb.p2; rw [IntKind.wrap_i64]; omega
  have hw6 : IntKind.i64.wrap (a.resist + b.resist) = a.resist + b.resist := by have := ha.r1; have := ha.r2; have := hb.r1; have := hb.r2; rw [IntKind.wrap_i64]; omega
  have hw7 : IntKind.i64.wrap (a.rise + b.rise) = a.rise + b.rise := by have := ha.s1; have := ha.s2; have := hb.s1; have := hb.s2; rw [IntKind.wrap_i64]; omega
  have hb2 := (Below.refl W1.heap.size W1).alloc (Nat.le_refl _) (.cells #[.int .i64 (a.mass + b.mass), .int .i64 (a.len + b.len), .int .i64 (min a.speed b.speed), .int .i64 (a.effort + b.effort), .int .i64 (a.brake + b.brake), .int .i64 (a.power + b.power), .int .i64 (a.resist + b.resist), .int .i64 (a.rise + b.rise), .int .i64 (min a.back b.back), .slice none 0 0] 24)
  have qn := Rw.new W1 #[.int .i64 (a.mass + b.mass), .int .i64 (a.len + b.len), .int .i64 (min a.speed b.speed), .int .i64 (a.effort + b.effort), .int .i64 (a.brake + b.brake), .int .i64 (a.power + b.power), .int .i64 (a.resist + b.resist), .int .i64 (a.rise + b.rise), .int .i64 (min a.back b.back), .slice none 0 0] 24
  have hsz2 : (W1.alloc (.cells #[.int .i64 (a.mass + b.mass), .int .i64 (a.len + b.len), .int .i64 (min a.speed b.speed), .int .i64 (a.effort + b.effort), .int .i64 (a.brake + b.brake), .int .i64 (a.power + b.power), .int .i64 (a.resist + b.resist), .int .i64 (a.rise + b.rise), .int .i64 (min a.back b.back), .slice none 0 0] 24)).heap.size = B + 4 := by rw [World.size_alloc, hszW]
  obtain ⟨W2, hW2⟩ : ∃ z, W1.alloc (.cells #[.int .i64 (a.mass + b.mass), .int .i64 (a.len + b.len), .int .i64 (min a.speed b.speed), .int .i64 (a.effort + b.effort), .int .i64 (a.brake + b.brake), .int .i64 (a.power + b.power), .int .i64 (a.resist + b.resist), .int .i64 (a.rise + b.rise), .int .i64 (min a.back b.back), .slice none 0 0] 24) = z := ⟨_, rfl⟩
  rw [hW2] at hb2 qn hsz2
  rw [hszW] at qn
  have HB2 := Lib.hid hb2; have HQN := Lib.hid qn; have HSZ2 := Lib.hid hsz2; have HW2 := Lib.hid hW2
  clear hb1 q1 q2 q3 hS hS2 hn hn' ha hb hszW hn8 hb2 qn hsz2 hW2
  go_enter Tryz.func19, Tryz.ntmps19
  go_upto_region 2 with (fail)
  rw [minIf a.speed b.speed, minIf a.back b.back, HW2.out, HSZ.out]
  have d9 := (HQ.out.1.below HB2.out (by have := HSZ.out; omega)).cell 9
  clear e0 e1 e2 e3 e4 e5 e6 e7 e8 e9 f0 f1 f2 f3 f4 f5 f6 f7 f8 f9 hw0 hw1 hw3 hw4 hw5 hw6 hw7 hW1 hB
  go_wp2
  clear d9
  go_loopw [6] (fun sc wr => ∃ (k : Nat) (v : Value), k ≤ n ∧ sc = .int .i64 (k : Int) ∧ Rw wr (B + 3) 24 #[.int .i64 (a.mass + b.mass), .int .i64 (a.len + b.len), .int .i64 (min a.speed b.speed), .int .i64 (a.effort + b.effort), .int .i64 (a.brake + b.brake), .int .i64 (a.power + b.power), .int .i64 (a.resist + b.resist), .int .i64 (a.rise + b.rise), .int .i64 (min a.back b.back), v] ∧ Own wr W2.heap.size 3 1 fI v (coupTo a b k) ∧ Below W1.heap.size W1 wr ∧ W2.heap.size ≤ wr.heap.size) (fun sc _ => n - (intOf sc).toNat)
  case atStart => exact ⟨0, _, Nat.zero_le _, rfl, HQN.out, Own.nil _ _ _ _ _, HB2.out, Nat.le_refl _⟩
  case round =>
    obtain ⟨k, v, hk, rfl, hrw, hown, hbr, hzr⟩ := hrel
    have HRW := Lib.hid hrw; have HO := Lib.hid hown; have HBR := Lib.hid (And.intro hbr hzr)
    have qa := HQ.out.1.below hbr HQ.out.1.lt
    have qb := HQ.out.2.1.below hbr HQ.out.2.1.lt
    have a9 := qa.cell 9
    have HN8k := Lib.hid HN8.out
    by_cases hkn : k < n
    · have hki : (k : Int) < (n : Int) := by omega
      have hk0 : (0 : Int) ≤ (k : Int) := by omega
      obtain ⟨b1, o1, e1, gb1, c0⟩ := int_at (HSA.out _ hbr).1 (i := k) (by have := HN.out.1; omega)
      obtain ⟨b2, o2, e2, gb2, c1⟩ := int_at (HSA.out _ hbr).2 (i := k) (by have := HN.out.2; omega)
      subst e1; subst e2
      obtain ⟨g1, hg1⟩ : ∃ g, a.grip[k]'(by have := HN.out.1; omega) = g := ⟨_, rfl⟩
      obtain ⟨g2, hg2⟩ : ∃ g, b.grip[k]'(by have := HN.out.2; omega) = g := ⟨_, rfl⟩
      rw [hg1] at c0
      rw [hg2] at c1
      have HG1 := Lib.hid (show gripAt a k = g1 from by unfold gripAt; rw [List.getElem?_eq_getElem (by have := HN.out.1; omega), hg1]; rfl)
      have HG2 := Lib.hid (show gripAt b k = g2 from by unfold gripAt; rw [List.getElem?_eq_getElem (by have := HN.out.2; omega), hg2]; rfl)
      have HBB := Lib.hid (And.intro gb1 gb2)
      have HKN := Lib.hid hkn
      have hk8 : k ≤ 8 := by have := HN8.out; omega
      have HX := Lib.hid (show ∀ wx, Below W2.heap.size wr wx → Rw wx (B + 3) 24 #[.int .i64 (a.mass + b.mass), .int .i64 (a.len + b.len), .int .i64 (min a.speed b.speed), .int .i64 (a.effort + b.effort), .int .i64 (a.brake + b.brake), .int .i64 (a.power + b.power), .int .i64 (a.resist + b.resist), .int .i64 (a.rise + b.rise), .int .i64 (min a.back b.back), v] ∧ Rw wx B 24 #[.int .i64 a.mass, .int .i64 a.len, .int .i64 a.speed, .int .i64 a.effort, .int .i64 a.brake, .int .i64 a.power, .int .i64 a.resist, .int .i64 a.rise, .int .i64 a.back, .slice (some ⟨b1, o1, none⟩) n c] ∧ Rw wx (B + 1) 24 #[.int .i64 b.mass, .int .i64 b.len, .int .i64 b.speed, .int .i64 b.effort, .int .i64 b.brake, .int .i64 b.power, .int .i64 b.resist, .int .i64 b.rise, .int .i64 b.back, .slice (some ⟨b2, o2, none⟩) n c2] ∧ wx.cell? ⟨b1, o1 + k, none⟩ = some (.int .i64 g1) ∧ wx.cell? ⟨b2, o2 + k, none⟩ = some (.int .i64 g2) from fun wx h => by
        have hz := HSZ2.out
        have := HBB.out
        exact ⟨hrw.below h (by omega), qa.below h (by omega), qb.below h (by omega), (h.cell (p := ⟨b1, o1 + k, none⟩) (by show b1 < W2.heap.size; omega)).trans c0, (h.cell (p := ⟨b2, o2 + k, none⟩) (by show b2 < W2.heap.size; omega)).trans c1⟩)
      have HC := Lib.hid (show ∀ wx, Below wr.heap.size wr wx → Rw wx (B + 3) 24 #[.int .i64 (a.mass + b.mass), .int .i64 (a.len + b.len), .int .i64 (min a.speed b.speed), .int .i64 (a.effort + b.effort), .int .i64 (a.brake + b.brake), .int .i64 (a.power + b.power), .int .i64 (a.resist + b.resist), .int .i64 (a.rise + b.rise), .int .i64 (min a.back b.back), v] ∧ Rw wx B 24 #[.int .i64 a.mass, .int .i64 a.len, .int .i64 a.speed, .int .i64 a.effort, .int .i64 a.brake, .int .i64 a.power, .int .i64 a.resist, .int .i64 a.rise, .int .i64 a.back, .slice (some ⟨b1, o1, none⟩) n c] ∧ Rw wx (B + 1) 24 #[.int .i64 b.mass, .int .i64 b.len, .int .i64 b.speed, .int .i64 b.effort, .int .i64 b.brake, .int .i64 b.power, .int .i64 b.resist, .int .i64 b.rise, .int .i64 b.back, .slice (some ⟨b2, o2, none⟩) n c2] ∧ wx.cell? ⟨b1, o1 + k, none⟩ = some (.int .i64 g1) ∧ wx.cell? ⟨b2, o2 + k, none⟩ = some (.int .i64 g2) from fun wx h => HX.out wx (h.mono HBR.out.2))
      clear hg1 hg2 hown hbr hzr hrw qa qb gb1 gb2 hkn
      go_upto_region 5 with (fail)
      clear a9 c0 c1 hki
      have hbq : Below wr.heap.size wr wr.drew := (Below.refl _ _).drew
      obtain ⟨wd, hwd⟩ : ∃ z, wr.drew = z := ⟨_, rfl⟩
      have HS := Lib.hid (show (∃ u, Rw wr.drew (B + 3) 24 #[.int .i64 (a.mass + b.mass), .int .i64 (a.len + b.len), .int .i64 (min a.speed b.speed), .int .i64 (a.effort + b.effort), .int .i64 (a.brake + b.brake), .int .i64 (a.power + b.power), .int .i64 (a.resist + b.resist), .int .i64 (a.rise + b.rise), .int .i64 (min a.back b.back), u]) ∧ Rw wr.drew B 24 #[.int .i64 a.mass, .int .i64 a.len, .int .i64 a.speed, .int .i64 a.effort, .int .i64 a.brake, .int .i64 a.power, .int .i64 a.resist, .int .i64 a.rise, .int .i64 a.back, .slice (some ⟨b1, o1, none⟩) n c] ∧ Rw wr.drew (B + 1) 24 #[.int .i64 b.mass, .int .i64 b.len, .int .i64 b.speed, .int .i64 b.effort, .int .i64 b.brake, .int .i64 b.power, .int .i64 b.resist, .int .i64 b.rise, .int .i64 b.back, .slice (some ⟨b2, o2, none⟩) n c2] ∧ wr.drew.cell? ⟨b1, o1 + k, none⟩ = some (.int .i64 g1) ∧ wr.drew.cell? ⟨b2, o2 + k, none⟩ = some (.int .i64 g2) from ⟨⟨_, (HC.out _ hbq).1⟩, (HC.out _ hbq).2⟩)
      refine wp_region_held_drew (S := fun wx => (∃ u, Rw wx (B + 3) 24 #[.int .i64 (a.mass + b.mass), .int .i64 (a.len + b.len), .int .i64 (min a.speed b.speed), .int .i64 (a.effort + b.effort), .int .i64 (a.brake + b.brake), .int .i64 (a.power + b.power), .int .i64 (a.resist + b.resist), .int .i64 (a.rise + b.rise), .int .i64 (min a.back b.back), u]) ∧ Rw wx B 24 #[.int .i64 a.mass, .int .i64 a.len, .int .i64 a.speed, .int .i64 a.effort, .int .i64 a.brake, .int .i64 a.power, .int .i64 a.resist, .int .i64 a.rise, .int .i64 a.back, .slice (some ⟨b1, o1, none⟩) n c] ∧ Rw wx (B + 1) 24 #[.int .i64 b.mass, .int .i64 b.len, .int .i64 b.speed, .int .i64 b.effort, .int .i64 b.brake, .int .i64 b.power, .int .i64 b.resist, .int .i64 b.rise, .int .i64 b.back, .slice (some ⟨b2, o2, none⟩) n c2] ∧ wx.cell? ⟨b1, o1 + k, none⟩ = some (.int .i64 g1) ∧ wx.cell? ⟨b2, o2 + k, none⟩ = some (.int .i64 g2)) (by kernel_rfl) HS.out (fun _ => ?_)
      rw [hwd] at hbq HS ⊢
      clear hwd
      refine hTake (i := 0) (d := 60) (v := .pointer (some ⟨B + 3, 9, none⟩)) rfl rfl (by kernel_rfl) (by kernel_rfl) (by kernel_rfl) (fun _ _ _ h => h) (Or.inl ⟨rfl, ?gr⟩) HS.out ?_
      case gr =>
        rintro W' ⟨⟨u0, s0⟩, s1, s2, s3, s4⟩
        have y9 := s1.cell 9; have z9 := s2.cell 9; have hkn := HKN.out
        have hq0 : (0 : Int) ≤ (k : Int) := by omega
        go_simp
      simp only [Act.put, List.setIfInBounds_toArray, List.set_cons_zero, List.set_cons_succ]
      refine hTake (i := 2) (d := 62) (v := .pointer (some ⟨B, 9, none⟩)) rfl rfl (by kernel_rfl) (by kernel_rfl) (by kernel_rfl) (fun _ _ _ h => h) (Or.inl ⟨rfl, ?gr⟩) HS.out ?_
      case gr =>
        rintro W' ⟨⟨u0, s0⟩, s1, s2, s3, s4⟩
        have y9 := s1.cell 9; have z9 := s2.cell 9; have hkn := HKN.out
        have hq0 : (0 : Int) ≤ (k : Int) := by omega
        go_simp
      simp only [Act.put, List.setIfInBounds_toArray, List.set_cons_zero, List.set_cons_succ]
      refine hTake (i := 3) (d := 63) (v := .slice (some ⟨b1, o1, none⟩) n c) rfl rfl (by kernel_rfl) (by kernel_rfl) (by kernel_rfl) (fun _ _ _ h => h) (Or.inl ⟨rfl, ?gr⟩) HS.out ?_
      case gr =>
        rintro W' ⟨⟨u0, s0⟩, s1, s2, s3, s4⟩
        have y9 := s1.cell 9; have z9 := s2.cell 9; have hkn := HKN.out
        have hq0 : (0 : Int) ≤ (k : Int) := by omega
        go_simp
      simp only [Act.put, List.setIfInBounds_toArray, List.set_cons_zero, List.set_cons_succ]
      refine hTake (i := 4) (d := 64) (v := .int .i64 (k : Int)) rfl rfl (by kernel_rfl) (by kernel_rfl) (by kernel_rfl) (fun _ _ _ h => h) (Or.inl ⟨rfl, ?gr⟩) HS.out ?_
      case gr =>
        rintro W' ⟨⟨u0, s0⟩, s1, s2, s3, s4⟩
        have y9 := s1.cell 9; have z9 := s2.cell 9; have hkn := HKN.out
        have hq0 : (0 : Int) ≤ (k : Int) := by omega
        go_simp
      simp only [Act.put, List.setIfInBounds_toArray, List.set_cons_zero, List.set_cons_succ]
      refine hTake (i := 5) (d := 65) (v := .pointer (some ⟨b1, o1 + k, none⟩)) rfl rfl (by kernel_rfl) (by kernel_rfl) (by kernel_rfl) (fun _ _ _ h => h) (Or.inl ⟨rfl, ?gr⟩) HS.out ?_
      case gr =>
        rintro W' ⟨⟨u0, s0⟩, s1, s2, s3, s4⟩
        have y9 := s1.cell 9; have z9 := s2.cell 9; have hkn := HKN.out
        have hq0 : (0 : Int) ≤ (k : Int) := by omega
        go_simp
      simp only [Act.put, List.setIfInBounds_toArray, List.set_cons_zero, List.set_cons_succ]
      refine hTake (i := 6) (d := 66) (v := .int .i64 g1) rfl rfl (by kernel_rfl) (by kernel_rfl) (by kernel_rfl) (fun _ _ _ h => h) (Or.inl ⟨rfl, ?gr⟩) HS.out ?_
      case gr =>
        rintro W' ⟨⟨u0, s0⟩, s1, s2, s3, s4⟩
        have y9 := s1.cell 9; have z9 := s2.cell 9; have hkn := HKN.out
        have hq0 : (0 : Int) ≤ (k : Int) := by omega
        go_simp
      simp only [Act.put, List.setIfInBounds_toArray, List.set_cons_zero, List.set_cons_succ]
      refine hTake (i := 7) (d := 67) (v := .pointer (some ⟨B + 1, 9, none⟩)) rfl rfl (by kernel_rfl) (by kernel_rfl) (by kernel_rfl) (fun _ _ _ h => h) (Or.inl ⟨rfl, ?gr⟩) HS.out ?_
      case gr =>
        rintro W' ⟨⟨u0, s0⟩, s1, s2, s3, s4⟩
        have y9 := s1.cell 9; have z9 := s2.cell 9; have hkn := HKN.out
        have hq0 : (0 : Int) ≤ (k : Int) := by omega
        go_simp
      simp only [Act.put, List.setIfInBounds_toArray, List.set_cons_zero, List.set_cons_succ]
      refine hTake (i := 8) (d := 68) (v := .slice (some ⟨b2, o2, none⟩) n c2) rfl rfl (by kernel_rfl) (by kernel_rfl) (by kernel_rfl) (fun _ _ _ h => h) (Or.inl ⟨rfl, ?gr⟩) HS.out ?_
      case gr =>
        rintro W' ⟨⟨u0, s0⟩, s1, s2, s3, s4⟩
        have y9 := s1.cell 9; have z9 := s2.cell 9; have hkn := HKN.out
        have hq0 : (0 : Int) ≤ (k : Int) := by omega
        go_simp
      simp only [Act.put, List.setIfInBounds_toArray, List.set_cons_zero, List.set_cons_succ]
      refine hTake (i := 9) (d := 69) (v := .int .i64 (k : Int)) rfl rfl (by kernel_rfl) (by kernel_rfl) (by kernel_rfl) (fun _ _ _ h => h) (Or.inl ⟨rfl, ?gr⟩) HS.out ?_
      case gr =>
        rintro W' ⟨⟨u0, s0⟩, s1, s2, s3, s4⟩
        have y9 := s1.cell 9; have z9 := s2.cell 9; have hkn := HKN.out
        have hq0 : (0 : Int) ≤ (k : Int) := by omega
        go_simp
      simp only [Act.put, List.setIfInBounds_toArray, List.set_cons_zero, List.set_cons_succ]
      refine hTake (i := 10) (d := 70) (v := .pointer (some ⟨b2, o2 + k, none⟩)) rfl rfl (by kernel_rfl) (by kernel_rfl) (by kernel_rfl) (fun _ _ _ h => h) (Or.inl ⟨rfl, ?gr⟩) HS.out ?_
      case gr =>
        rintro W' ⟨⟨u0, s0⟩, s1, s2, s3, s4⟩
        have y9 := s1.cell 9; have z9 := s2.cell 9; have hkn := HKN.out
        have hq0 : (0 : Int) ≤ (k : Int) := by omega
        go_simp
      simp only [Act.put, List.setIfInBounds_toArray, List.set_cons_zero, List.set_cons_succ]
      refine hTake (i := 11) (d := 71) (v := .int .i64 g2) rfl rfl (by kernel_rfl) (by kernel_rfl) (by kernel_rfl) (fun _ _ _ h => h) (Or.inl ⟨rfl, ?gr⟩) HS.out ?_
      case gr =>
        rintro W' ⟨⟨u0, s0⟩, s1, s2, s3, s4⟩
        have y9 := s1.cell 9; have z9 := s2.cell 9; have hkn := HKN.out
        have hq0 : (0 : Int) ≤ (k : Int) := by omega
        go_simp
      simp only [Act.put, List.setIfInBounds_toArray, List.set_cons_zero, List.set_cons_succ]
      refine hTake (i := 12) (d := 72) (v := .int .i64 (if g2 < g1 then g2 else g1)) rfl rfl (by kernel_rfl) (by kernel_rfl) (by kernel_rfl) (fun _ _ _ h => h) (Or.inl ⟨rfl, ?gr⟩) HS.out ?_
      case gr =>
        rintro W' ⟨⟨u0, s0⟩, s1, s2, s3, s4⟩
        have y9 := s1.cell 9; have z9 := s2.cell 9; have hkn := HKN.out
        have hq0 : (0 : Int) ≤ (k : Int) := by omega
        go_simp
      simp only [Act.put, List.setIfInBounds_toArray, List.set_cons_zero, List.set_cons_succ]
      refine wpAnyH_ready (rs := [1, 13]) (by kernel_rfl) (by simp) ?_
      refine AllReadyH.cons rfl (fun K hK => ?_) (AllReadyH.cons rfl (fun K hK => ?_) AllReadyH.nil)
      · rw [if_pos (by rfl)]
        have hx := (HC.out _ hbq).1.cell 9
        go_simp
        clear hx
        have HS := Lib.hid (show (∃ u, Rw wd (B + 3) 24 #[.int .i64 (a.mass + b.mass), .int .i64 (a.len + b.len), .int .i64 (min a.speed b.speed), .int .i64 (a.effort + b.effort), .int .i64 (a.brake + b.brake), .int .i64 (a.power + b.power), .int .i64 (a.resist + b.resist), .int .i64 (a.rise + b.rise), .int .i64 (min a.back b.back), u]) ∧ Rw wd B 24 #[.int .i64 a.mass, .int .i64 a.len, .int .i64 a.speed, .int .i64 a.effort, .int .i64 a.brake, .int .i64 a.power, .int .i64 a.resist, .int .i64 a.rise, .int .i64 a.back, .slice (some ⟨b1, o1, none⟩) n c] ∧ Rw wd (B + 1) 24 #[.int .i64 b.mass, .int .i64 b.len, .int .i64 b.speed, .int .i64 b.effort, .int .i64 b.brake, .int .i64 b.power, .int .i64 b.resist, .int .i64 b.rise, .int .i64 b.back, .slice (some ⟨b2, o2, none⟩) n c2] ∧ wd.cell? ⟨b1, o1 + k, none⟩ = some (.int .i64 g1) ∧ wd.cell? ⟨b2, o2 + k, none⟩ = some (.int .i64 g2) from ⟨⟨_, (HC.out _ hbq).1⟩, (HC.out _ hbq).2⟩)
        refine hK.out _ _ HS.out (fun _ => ?_)
        clear hK K
        try simp only [Act.put, List.setIfInBounds_toArray, List.set_cons_zero, List.set_cons_succ]
        refine wpAnyH_ready (rs := [13]) (by kernel_rfl) (by simp) ?_
        refine AllReadyH.cons rfl (fun K hK => ?_) AllReadyH.nil
        rw [if_pos (by rfl)]
        go_simp
        have hsn := Sl.new (f := fI) (size := 1) wd 3 ((if g2 < g1 then g2 else g1) : Int) #[.int .i64 (if g2 < g1 then g2 else g1)] rfl
        replace hbq := hbq.alloc hbq.size (.cells #[.int .i64 (if g2 < g1 then g2 else g1)] 3)
        obtain ⟨w13, hw13⟩ : ∃ z, wd.alloc (.cells #[.int .i64 (if g2 < g1 then g2 else g1)] 3) = z := ⟨_, rfl⟩
        have hwz : wd.heap.size = wd.heap.size := rfl
        rw [hw13] at hsn hbq ⊢
        clear hw13 hwz
        have HS := Lib.hid (show (∃ u, Rw w13 (B + 3) 24 #[.int .i64 (a.mass + b.mass), .int .i64 (a.len + b.len), .int .i64 (min a.speed b.speed), .int .i64 (a.effort + b.effort), .int .i64 (a.brake + b.brake), .int .i64 (a.power + b.power), .int .i64 (a.resist + b.resist), .int .i64 (a.rise + b.rise), .int .i64 (min a.back b.back), u]) ∧ Rw w13 B 24 #[.int .i64 a.mass, .int .i64 a.len, .int .i64 a.speed, .int .i64 a.effort, .int .i64 a.brake, .int .i64 a.power, .int .i64 a.resist, .int .i64 a.rise, .int .i64 a.back, .slice (some ⟨b1, o1, none⟩) n c] ∧ Rw w13 (B + 1) 24 #[.int .i64 b.mass, .int .i64 b.len, .int .i64 b.speed, .int .i64 b.effort, .int .i64 b.brake, .int .i64 b.power, .int .i64 b.resist, .int .i64 b.rise, .int .i64 b.back, .slice (some ⟨b2, o2, none⟩) n c2] ∧ w13.cell? ⟨b1, o1 + k, none⟩ = some (.int .i64 g1) ∧ w13.cell? ⟨b2, o2 + k, none⟩ = some (.int .i64 g2) from ⟨⟨_, (HC.out _ hbq).1⟩, (HC.out _ hbq).2⟩)
        refine hK.out _ _ HS.out (fun _ => ?_)
        clear hK K
        try simp only [Act.put, List.setIfInBounds_toArray, List.set_cons_zero, List.set_cons_succ]
        refine wpAnyH_ready (rs := [14]) (by kernel_rfl) (by simp) ?_
        refine AllReadyH.cons rfl (fun K hK => ?_) AllReadyH.nil
        rw [if_pos (by rfl)]
        refine wp_app _ (.tmp 61) (.tmp 73) _ rfl W2.heap.size 3 i3 _ 1 8 Tryz.underlying22 hi3 hz3 hs3 hy3 rfl (by omega) fI_len fI_one v (coupTo a b k) rfl (HO.out.below hbq (Nat.le_refl _)) _ _ [(if g2 < g1 then g2 else g1)] 1 rfl hsn (by unfold maxLen; rw [coupTo_len]; simp only [List.length_cons, List.length_nil]; omega) (by rw [coupTo_len]; simp only [List.length_cons, List.length_nil]; omega) (by have := HBR.out.2; have := hbq.size; omega) (fun _ => .inr ⟨_, rfl⟩) ?_
        intro v2 w14 o14 gr14 at14 ne14
        obtain ⟨Av, cv, hve, _, _, _⟩ := o14.form
        rw [show (coupTo a b k ++ [(if g2 < g1 then g2 else g1)]).length = k + 1 from by rw [List.length_append, coupTo_len]; rfl] at hve
        subst hve
        have hb14 := (hbq.mono HBR.out.2).grown gr14 (by have := HBR.out.2; have := hbq.size; omega) (fun b hb => (HO.out.lt b hb).1)
        have hx := HX.out w14 hb14
        have HS := Lib.hid (show (∃ u, Rw w14 (B + 3) 24 #[.int .i64 (a.mass + b.mass), .int .i64 (a.len + b.len), .int .i64 (min a.speed b.speed), .int .i64 (a.effort + b.effort), .int .i64 (a.brake + b.brake), .int .i64 (a.power + b.power), .int .i64 (a.resist + b.resist), .int .i64 (a.rise + b.rise), .int .i64 (min a.back b.back), u]) ∧ Rw w14 B 24 #[.int .i64 a.mass, .int .i64 a.len, .int .i64 a.speed, .int .i64 a.effort, .int .i64 a.brake, .int .i64 a.power, .int .i64 a.resist, .int .i64 a.rise, .int .i64 a.back, .slice (some ⟨b1, o1, none⟩) n c] ∧ Rw w14 (B + 1) 24 #[.int .i64 b.mass, .int .i64 b.len, .int .i64 b.speed, .int .i64 b.effort, .int .i64 b.brake, .int .i64 b.power, .int .i64 b.resist, .int .i64 b.rise, .int .i64 b.back, .slice (some ⟨b2, o2, none⟩) n c2] ∧ w14.cell? ⟨b1, o1 + k, none⟩ = some (.int .i64 g1) ∧ w14.cell? ⟨b2, o2 + k, none⟩ = some (.int .i64 g2) from ⟨⟨_, hx.1⟩, hx.2⟩)
        have HX14 := Lib.hid hx
        refine hK.out _ _ HS.out (fun _ => ?_)
        clear hK K
        try simp only [Act.put, List.setIfInBounds_toArray, List.set_cons_zero, List.set_cons_succ]
        refine hTake (i := 15) (d := 75) (v := .pointer (some ⟨B + 3, 9, none⟩)) rfl rfl (by kernel_rfl) (by kernel_rfl) (by kernel_rfl) (fun _ _ _ h => h) (Or.inl ⟨rfl, ?gr⟩) HS.out ?_
        case gr =>
          rintro W' ⟨⟨u0, s0⟩, s1, s2, s3, s4⟩
          have y9 := s1.cell 9; have z9 := s2.cell 9; have hkn := HKN.out
          have hq0 : (0 : Int) ≤ (k : Int) := by omega
          go_simp
        simp only [Act.put, List.setIfInBounds_toArray, List.set_cons_zero, List.set_cons_succ]
        refine wpAnyH_ready (rs := [16]) (by kernel_rfl) (by simp) ?_
        refine AllReadyH.cons rfl (fun K hK => ?_) AllReadyH.nil
        rw [if_pos (by rfl)]
        have hx9 := HX14.out.1.cell 9; have hf9 := HX14.out.1.frozen 9
        go_simp
        clear hx9 hf9
        have hz4 := HSZ2.out
        have r1 := HX14.out.1.set 9 (.slice Av (k + 1) cv)
        have r2 := HX14.out.2.1.far (k := B + 3) 9 (.slice Av (k + 1) cv) (by omega)
        have r3 := HX14.out.2.2.1.far (k := B + 3) 9 (.slice Av (k + 1) cv) (by omega)
        have r4 : (w14.setCell ⟨B + 3, 9, none⟩ (.slice Av (k + 1) cv)).cell? ⟨b1, o1 + k, none⟩ = some (.int .i64 g1) := (cell_far w14 (.slice Av (k + 1) cv) (by have := HBB.out.1; omega)).trans HX14.out.2.2.2.1
        have r5 : (w14.setCell ⟨B + 3, 9, none⟩ (.slice Av (k + 1) cv)).cell? ⟨b2, o2 + k, none⟩ = some (.int .i64 g2) := (cell_far w14 (.slice Av (k + 1) cv) (by have := HBB.out.2; omega)).trans HX14.out.2.2.2.2
        have HS := Lib.hid (show (∃ u, Rw (w14.setCell ⟨B + 3, 9, none⟩ (.slice Av (k + 1) cv)) (B + 3) 24 #[.int .i64 (a.mass + b.mass), .int .i64 (a.len + b.len), .int .i64 (min a.speed b.speed), .int .i64 (a.effort + b.effort), .int .i64 (a.brake + b.brake), .int .i64 (a.power + b.power), .int .i64 (a.resist + b.resist), .int .i64 (a.rise + b.rise), .int .i64 (min a.back b.back), u]) ∧ Rw (w14.setCell ⟨B + 3, 9, none⟩ (.slice Av (k + 1) cv)) B 24 #[.int .i64 a.mass, .int .i64 a.len, .int .i64 a.speed, .int .i64 a.effort, .int .i64 a.brake, .int .i64 a.power, .int .i64 a.resist, .int .i64 a.rise, .int .i64 a.back, .slice (some ⟨b1, o1, none⟩) n c] ∧ Rw (w14.setCell ⟨B + 3, 9, none⟩ (.slice Av (k + 1) cv)) (B + 1) 24 #[.int .i64 b.mass, .int .i64 b.len, .int .i64 b.speed, .int .i64 b.effort, .int .i64 b.brake, .int .i64 b.power, .int .i64 b.resist, .int .i64 b.rise, .int .i64 b.back, .slice (some ⟨b2, o2, none⟩) n c2] ∧ (w14.setCell ⟨B + 3, 9, none⟩ (.slice Av (k + 1) cv)).cell? ⟨b1, o1 + k, none⟩ = some (.int .i64 g1) ∧ (w14.setCell ⟨B + 3, 9, none⟩ (.slice Av (k + 1) cv)).cell? ⟨b2, o2 + k, none⟩ = some (.int .i64 g2) from ⟨⟨_, r1⟩, r2, r3, r4, r5⟩)
        have HR1 := Lib.hid r1
        clear r1 r2 r3 r4 r5
        refine hK.out _ _ HS.out (fun _ => ?_)
        clear hK K
        try simp only [Act.put, List.setIfInBounds_toArray, List.set_cons_zero, List.set_cons_succ]
        refine wpAnyH_done (by kernel_rfl) ?_ _
        have hz2 := HSZ2.out
        have ho15 : Own (w14.setCell ⟨B + 3, 9, none⟩ (.slice Av (k + 1) cv)) W2.heap.size 3 1 fI (.slice Av (k + 1) cv) (coupTo a b (k + 1)) := by
          rw [coupTo_succ, HG1.out, HG2.out, ← minIf]
          exact Own.far9 (by omega) o14
        have hb15 : Below W1.heap.size W1 (w14.setCell ⟨B + 3, 9, none⟩ (.slice Av (k + 1) cv)) := (HBR.out.1.trans (hb14.mono (by have := HSZ.out; omega))).setCell (by show W1.heap.size ≤ B + 3; have := HSZ.out; omega) _
        have hz15 : W2.heap.size ≤ (w14.setCell ⟨B + 3, 9, none⟩ (.slice Av (k + 1) cv)).heap.size := by rw [World.size_setCell]; exact Nat.le_trans HBR.out.2 (by have := hb14.size; omega)
        have HE := Lib.hid (And.intro HR1.out (And.intro ho15 (And.intro hb15 hz15)))
        clear ho15 hb15 hz15 hbq HS hx HX14 HR1 o14 gr14 at14 ne14 hb14 hz2 hz4
        obtain ⟨w15, hw15⟩ : ∃ z, w14.setCell ⟨B + 3, 9, none⟩ (.slice Av (k + 1) cv) = z := ⟨_, rfl⟩
        rw [hw15] at HE ⊢
        clear hw15
        go_wp2
        refine ⟨⟨k + 1, (.slice Av (k + 1) cv), by have := HKN.out; omega, by simp, HE.out.1, HE.out.2.1, HE.out.2.2.1, HE.out.2.2.2⟩, ?_⟩
        have := HKN.out
        simp [intOf] <;> omega

      · rw [if_pos (by rfl)]
        go_simp
        have hsn := Sl.new (f := fI) (size := 1) wd 3 ((if g2 < g1 then g2 else g1) : Int) #[.int .i64 (if g2 < g1 then g2 else g1)] rfl
        replace hbq := hbq.alloc hbq.size (.cells #[.int .i64 (if g2 < g1 then g2 else g1)] 3)
        obtain ⟨w13, hw13⟩ : ∃ z, wd.alloc (.cells #[.int .i64 (if g2 < g1 then g2 else g1)] 3) = z := ⟨_, rfl⟩
        have hwz : wd.heap.size = wd.heap.size := rfl
        rw [hw13] at hsn hbq ⊢
        clear hw13 hwz
        have HS := Lib.hid (show (∃ u, Rw w13 (B + 3) 24 #[.int .i64 (a.mass + b.mass), .int .i64 (a.len + b.len), .int .i64 (min a.speed b.speed), .int .i64 (a.effort + b.effort), .int .i64 (a.brake + b.brake), .int .i64 (a.power + b.power), .int .i64 (a.resist + b.resist), .int .i64 (a.rise + b.rise), .int .i64 (min a.back b.back), u]) ∧ Rw w13 B 24 #[.int .i64 a.mass, .int .i64 a.len, .int .i64 a.speed, .int .i64 a.effort, .int .i64 a.brake, .int .i64 a.power, .int .i64 a.resist, .int .i64 a.rise, .int .i64 a.back, .slice (some ⟨b1, o1, none⟩) n c] ∧ Rw w13 (B + 1) 24 #[.int .i64 b.mass, .int .i64 b.len, .int .i64 b.speed, .int .i64 b.effort, .int .i64 b.brake, .int .i64 b.power, .int .i64 b.resist, .int .i64 b.rise, .int .i64 b.back, .slice (some ⟨b2, o2, none⟩) n c2] ∧ w13.cell? ⟨b1, o1 + k, none⟩ = some (.int .i64 g1) ∧ w13.cell? ⟨b2, o2 + k, none⟩ = some (.int .i64 g2) from ⟨⟨_, (HC.out _ hbq).1⟩, (HC.out _ hbq).2⟩)
        refine hK.out _ _ HS.out (fun _ => ?_)
        clear hK K
        try simp only [Act.put, List.setIfInBounds_toArray, List.set_cons_zero, List.set_cons_succ]
        refine wpAnyH_ready (rs := [1]) (by kernel_rfl) (by simp) ?_
        refine AllReadyH.cons rfl (fun K hK => ?_) AllReadyH.nil
        rw [if_pos (by rfl)]
        have hx := (HC.out _ hbq).1.cell 9
        go_simp
        clear hx
        have HS := Lib.hid (show (∃ u, Rw w13 (B + 3) 24 #[.int .i64 (a.mass + b.mass), .int .i64 (a.len + b.len), .int .i64 (min a.speed b.speed), .int .i64 (a.effort + b.effort), .int .i64 (a.brake + b.brake), .int .i64 (a.power + b.power), .int .i64 (a.resist + b.resist), .int .i64 (a.rise + b.rise), .int .i64 (min a.back b.back), u]) ∧ Rw w13 B 24 #[.int .i64 a.mass, .int .i64 a.len, .int .i64 a.speed, .int .i64 a.effort, .int .i64 a.brake, .int .i64 a.power, .int .i64 a.resist, .int .i64 a.rise, .int .i64 a.back, .slice (some ⟨b1, o1, none⟩) n c] ∧ Rw w13 (B + 1) 24 #[.int .i64 b.mass, .int .i64 b.len, .int .i64 b.speed, .int .i64 b.effort, .int .i64 b.brake, .int .i64 b.power, .int .i64 b.resist, .int .i64 b.rise, .int .i64 b.back, .slice (some ⟨b2, o2, none⟩) n c2] ∧ w13.cell? ⟨b1, o1 + k, none⟩ = some (.int .i64 g1) ∧ w13.cell? ⟨b2, o2 + k, none⟩ = some (.int .i64 g2) from ⟨⟨_, (HC.out _ hbq).1⟩, (HC.out _ hbq).2⟩)
        refine hK.out _ _ HS.out (fun _ => ?_)
        clear hK K
        try simp only [Act.put, List.setIfInBounds_toArray, List.set_cons_zero, List.set_cons_succ]
        refine wpAnyH_ready (rs := [14]) (by kernel_rfl) (by simp) ?_
        refine AllReadyH.cons rfl (fun K hK => ?_) AllReadyH.nil
        rw [if_pos (by rfl)]
        refine wp_app _ (.tmp 61) (.tmp 73) _ rfl W2.heap.size 3 i3 _ 1 8 Tryz.underlying22 hi3 hz3 hs3 hy3 rfl (by omega) fI_len fI_one v (coupTo a b k) rfl (HO.out.below hbq (Nat.le_refl _)) _ _ [(if g2 < g1 then g2 else g1)] 1 rfl hsn (by unfold maxLen; rw [coupTo_len]; simp only [List.length_cons, List.length_nil]; omega) (by rw [coupTo_len]; simp only [List.length_cons, List.length_nil]; omega) (by have := HBR.out.2; have := hbq.size; omega) (fun _ => .inr ⟨_, rfl⟩) ?_
        intro v2 w14 o14 gr14 at14 ne14
        obtain ⟨Av, cv, hve, _, _, _⟩ := o14.form
        rw [show (coupTo a b k ++ [(if g2 < g1 then g2 else g1)]).length = k + 1 from by rw [List.length_append, coupTo_len]; rfl] at hve
        subst hve
        have hb14 := (hbq.mono HBR.out.2).grown gr14 (by have := HBR.out.2; have := hbq.size; omega) (fun b hb => (HO.out.lt b hb).1)
        have hx := HX.out w14 hb14
        have HS := Lib.hid (show (∃ u, Rw w14 (B + 3) 24 #[.int .i64 (a.mass + b.mass), .int .i64 (a.len + b.len), .int .i64 (min a.speed b.speed), .int .i64 (a.effort + b.effort), .int .i64 (a.brake + b.brake), .int .i64 (a.power + b.power), .int .i64 (a.resist + b.resist), .int .i64 (a.rise + b.rise), .int .i64 (min a.back b.back), u]) ∧ Rw w14 B 24 #[.int .i64 a.mass, .int .i64 a.len, .int .i64 a.speed, .int .i64 a.effort, .int .i64 a.brake, .int .i64 a.power, .int .i64 a.resist, .int .i64 a.rise, .int .i64 a.back, .slice (some ⟨b1, o1, none⟩) n c] ∧ Rw w14 (B + 1) 24 #[.int .i64 b.mass, .int .i64 b.len, .int .i64 b.speed, .int .i64 b.effort, .int .i64 b.brake, .int .i64 b.power, .int .i64 b.resist, .int .i64 b.rise, .int .i64 b.back, .slice (some ⟨b2, o2, none⟩) n c2] ∧ w14.cell? ⟨b1, o1 + k, none⟩ = some (.int .i64 g1) ∧ w14.cell? ⟨b2, o2 + k, none⟩ = some (.int .i64 g2) from ⟨⟨_, hx.1⟩, hx.2⟩)
        have HX14 := Lib.hid hx
        refine hK.out _ _ HS.out (fun _ => ?_)
        clear hK K
        try simp only [Act.put, List.setIfInBounds_toArray, List.set_cons_zero, List.set_cons_succ]
        refine hTake (i := 15) (d := 75) (v := .pointer (some ⟨B + 3, 9, none⟩)) rfl rfl (by kernel_rfl) (by kernel_rfl) (by kernel_rfl) (fun _ _ _ h => h) (Or.inl ⟨rfl, ?gr⟩) HS.out ?_
        case gr =>
          rintro W' ⟨⟨u0, s0⟩, s1, s2, s3, s4⟩
          have y9 := s1.cell 9; have z9 := s2.cell 9; have hkn := HKN.out
          have hq0 : (0 : Int) ≤ (k : Int) := by omega
          go_simp
        simp only [Act.put, List.setIfInBounds_toArray, List.set_cons_zero, List.set_cons_succ]
        refine wpAnyH_ready (rs := [16]) (by kernel_rfl) (by simp) ?_
        refine AllReadyH.cons rfl (fun K hK => ?_) AllReadyH.nil
        rw [if_pos (by rfl)]
        have hx9 := HX14.out.1.cell 9; have hf9 := HX14.out.1.frozen 9
        go_simp
        clear hx9 hf9
        have hz4 := HSZ2.out
        have r1 := HX14.out.1.set 9 (.slice Av (k + 1) cv)
        have r2 := HX14.out.2.1.far (k := B + 3) 9 (.slice Av (k + 1) cv) (by omega)
        have r3 := HX14.out.2.2.1.far (k := B + 3) 9 (.slice Av (k + 1) cv) (by omega)
        have r4 : (w14.setCell ⟨B + 3, 9, none⟩ (.slice Av (k + 1) cv)).cell? ⟨b1, o1 + k, none⟩ = some (.int .i64 g1) := (cell_far w14 (.slice Av (k + 1) cv) (by have := HBB.out.1; omega)).trans HX14.out.2.2.2.1
        have r5 : (w14.setCell ⟨B + 3, 9, none⟩ (.slice Av (k + 1) cv)).cell? ⟨b2, o2 + k, none⟩ = some (.int .i64 g2) := (cell_far w14 (.slice Av (k + 1) cv) (by have := HBB.out.2; omega)).trans HX14.out.2.2.2.2
        have HS := Lib.hid (show (∃ u, Rw (w14.setCell ⟨B + 3, 9, none⟩ (.slice Av (k + 1) cv)) (B + 3) 24 #[.int .i64 (a.mass + b.mass), .int .i64 (a.len + b.len), .int .i64 (min a.speed b.speed), .int .i64 (a.effort + b.effort), .int .i64 (a.brake + b.brake), .int .i64 (a.power + b.power), .int .i64 (a.resist + b.resist), .int .i64 (a.rise + b.rise), .int .i64 (min a.back b.back), u]) ∧ Rw (w14.setCell ⟨B + 3, 9, none⟩ (.slice Av (k + 1) cv)) B 24 #[.int .i64 a.mass, .int .i64 a.len, .int .i64 a.speed, .int .i64 a.effort, .int .i64 a.brake, .int .i64 a.power, .int .i64 a.resist, .int .i64 a.rise, .int .i64 a.back, .slice (some ⟨b1, o1, none⟩) n c] ∧ Rw (w14.setCell ⟨B + 3, 9, none⟩ (.slice Av (k + 1) cv)) (B + 1) 24 #[.int .i64 b.mass, .int .i64 b.len, .int .i64 b.speed, .int .i64 b.effort, .int .i64 b.brake, .int .i64 b.power, .int .i64 b.resist, .int .i64 b.rise, .int .i64 b.back, .slice (some ⟨b2, o2, none⟩) n c2] ∧ (w14.setCell ⟨B + 3, 9, none⟩ (.slice Av (k + 1) cv)).cell? ⟨b1, o1 + k, none⟩ = some (.int .i64 g1) ∧ (w14.setCell ⟨B + 3, 9, none⟩ (.slice Av (k + 1) cv)).cell? ⟨b2, o2 + k, none⟩ = some (.int .i64 g2) from ⟨⟨_, r1⟩, r2, r3, r4, r5⟩)
        have HR1 := Lib.hid r1
        clear r1 r2 r3 r4 r5
        refine hK.out _ _ HS.out (fun _ => ?_)
        clear hK K
        try simp only [Act.put, List.setIfInBounds_toArray, List.set_cons_zero, List.set_cons_succ]
        refine wpAnyH_done (by kernel_rfl) ?_ _
        have hz2 := HSZ2.out
        have ho15 : Own (w14.setCell ⟨B + 3, 9, none⟩ (.slice Av (k + 1) cv)) W2.heap.size 3 1 fI (.slice Av (k + 1) cv) (coupTo a b (k + 1)) := by
          rw [coupTo_succ, HG1.out, HG2.out, ← minIf]
          exact Own.far9 (by omega) o14
        have hb15 : Below W1.heap.size W1 (w14.setCell ⟨B + 3, 9, none⟩ (.slice Av (k + 1) cv)) := (HBR.out.1.trans (hb14.mono (by have := HSZ.out; omega))).setCell (by show W1.heap.size ≤ B + 3; have := HSZ.out; omega) _
        have hz15 : W2.heap.size ≤ (w14.setCell ⟨B + 3, 9, none⟩ (.slice Av (k + 1) cv)).heap.size := by rw [World.size_setCell]; exact Nat.le_trans HBR.out.2 (by have := hb14.size; omega)
        have HE := Lib.hid (And.intro HR1.out (And.intro ho15 (And.intro hb15 hz15)))
        clear ho15 hb15 hz15 hbq HS hx HX14 HR1 o14 gr14 at14 ne14 hb14 hz2 hz4
        obtain ⟨w15, hw15⟩ : ∃ z, w14.setCell ⟨B + 3, 9, none⟩ (.slice Av (k + 1) cv) = z := ⟨_, rfl⟩
        rw [hw15] at HE ⊢
        clear hw15
        go_wp2
        refine ⟨⟨k + 1, (.slice Av (k + 1) cv), by have := HKN.out; omega, by simp, HE.out.1, HE.out.2.1, HE.out.2.2.1, HE.out.2.2.2⟩, ?_⟩
        have := HKN.out
        simp [intOf] <;> omega

    · have hki : ¬ (k : Int) < (n : Int) := by omega
      have hkk : k = n := by omega
      obtain ⟨Av, cv, hve, _, _, _⟩ := hown.form
      rw [coupTo_len] at hve
      subst hve
      have HF := Lib.hid (show (coupT a b).grip = coupTo a b k from by rw [HCG.out, hkk])
      have r3 := HQ.out.2.2.below hbr HQ.out.2.2.lt
      have h0 := hrw.cell 0; have h1 := hrw.cell 1; have h2 := hrw.cell 2; have h3 := hrw.cell 3; have h4 := hrw.cell 4; have h5 := hrw.cell 5; have h6 := hrw.cell 6; have h7 := hrw.cell 7; have h8 := hrw.cell 8; have h9 := hrw.cell 9
      have g0 := r3.cell 0; have g1 := r3.cell 1; have g2 := r3.cell 2; have g3 := r3.cell 3; have g4 := r3.cell 4; have g5 := r3.cell 5; have g6 := r3.cell 6; have g7 := r3.cell 7; have g8 := r3.cell 8; have g9 := r3.cell 9
      have k0 := r3.frozen 0; have k1 := r3.frozen 1; have k2 := r3.frozen 2; have k3 := r3.frozen 3; have k4 := r3.frozen 4; have k5 := r3.frozen 5; have k6 := r3.frozen 6; have k7 := r3.frozen 7; have k8 := r3.frozen 8; have k9 := r3.frozen 9
      have HR3 := Lib.hid r3
      clear hown hbr hzr hrw qa qb hkn hkk r3
      go_wp2
      (try simp only [Exit.inBlock, Exit.then])
      have hr := Rw.set10 HR3.out (.int .i64 (a.mass + b.mass)) (.int .i64 (a.len + b.len)) (.int .i64 (min a.speed b.speed)) (.int .i64 (a.effort + b.effort)) (.int .i64 (a.brake + b.brake)) (.int .i64 (a.power + b.power)) (.int .i64 (a.resist + b.resist)) (.int .i64 (a.rise + b.rise)) (.int .i64 (min a.back b.back)) (.slice Av k cv)
      refine bodyPost_ret (res_c rfl _ _ _ _ _ _ rfl hr Tryz.underlying24 rfl (by kernel_rfl)) rfl ?_
      refine ⟨_, rfl, ?_, ?_⟩
      · rw [HF.out]
        refine ((Own.far10 (by have := HSZ2.out; omega) HO.out).lower ?_)
        have := HSZ2.out; have := HBE.out; omega
      · exact below_set10 (HB1.out.trans (HBR.out.1.mono HB1.out.size)) (by have := HBE.out; omega)
end Go.Proofs.YtfhkbbjddjddmaaGreat
