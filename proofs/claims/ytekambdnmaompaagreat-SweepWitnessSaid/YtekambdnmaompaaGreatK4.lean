/- Contract of the specification: Witness. -/
import Derived.Test.YtekambdnmaompaaGreatJ5
import Derived.Test.YtekambdnmaompaaGreatJ7
namespace Go.Proofs.YtekambdnmaompaaGreat.SW
set_option linter.unusedVariables false
set_option linter.unusedSimpArgs false
open Go.RowKit

/-- two strips' numbers and their gap -/
structure W3 where
  i : Nat
  k : Nat
  g : Nat
def pstep (a x : W3) : W3 := if x.g < a.g then x else a
def ostep (o : Option W3) (x : W3) : Option W3 := match o with
  | none => some x
  | some a => some (pstep a x)
def rowP (G : Nat → Nat → Nat) (i m : Nat) : List W3 := (List.range m).map fun k => ⟨i, k, G i k⟩
def pairsL (G : Nat → Nat → Nat) (m m2 : Nat) : List W3 := (List.range m).flatMap fun i => rowP G i m2
/-- the first of the least -/
def bestP : List W3 → W3
  | [] => ⟨0, 0, 0⟩
  | x :: xs => xs.foldl pstep x
theorem ostep_some : ∀ (l : List W3) (a : W3), l.foldl ostep (some a) = some (l.foldl pstep a)
  | [], a => rfl
  | x :: l, a => by rw [List.foldl_cons, List.foldl_cons]; exact ostep_some l (pstep a x)
theorem ostep_best {l : List W3} (h : l ≠ []) : l.foldl ostep none = some (bestP l) := by
  cases l with
  | nil => exact absurd rfl h
  | cons x l => exact ostep_some l x
theorem rowP_succ (G : Nat → Nat → Nat) (i k : Nat) : rowP G i (k + 1) = rowP G i k ++ [⟨i, k, G i k⟩] := by
  unfold rowP
  rw [List.range_succ, List.map_append]
  rfl
theorem pairsL_succ (G : Nat → Nat → Nat) (i m2 : Nat) : pairsL G (i + 1) m2 = pairsL G i m2 ++ rowP G i m2 := by
  unfold pairsL
  rw [List.range_succ, List.flatMap_append]
  simp
theorem rowP_len (G : Nat → Nat → Nat) (i m : Nat) : (rowP G i m).length = m := by simp [rowP]
theorem pairsL_len (G : Nat → Nat → Nat) (m2 : Nat) : ∀ m, (pairsL G m m2).length = m * m2
  | 0 => by simp [pairsL]
  | m + 1 => by rw [pairsL_succ, List.length_append, pairsL_len G m2 m, rowP_len, Nat.succ_mul]
def oS (r : Nat) : Option W3 → Array Value
  | none => #[.int .i64 0, .int .i64 0]
  | some a => #[.int .i64 (r : Int), .int .i64 (a.i : Int)]
def oT (r : Nat) : Option W3 → Array Value
  | none => #[.int .i64 0, .int .i64 0]
  | some a => #[.int .i64 (r : Int), .int .i64 (a.k : Int)]
def oG : Option W3 → Int
  | none => 5001
  | some a => (a.g : Int)
theorem ostep_lt {o : Option W3} {x : W3} (h : x.g ≤ 5000) : ((x.g : Int) < oG o → ostep o x = some x) ∧ (¬ (x.g : Int) < oG o → ostep o x = o) := by
  cases o with
  | none => exact ⟨fun _ => rfl, fun h2 => absurd (show (x.g : Int) < 5001 by omega) h2⟩
  | some a =>
    constructor
    · intro h2
      have h3 : (x.g : Int) < (a.g : Int) := h2
      show some (pstep a x) = some x
      unfold pstep
      rw [if_pos (by omega)]
    · intro h2
      have h3 : ¬ (x.g : Int) < (a.g : Int) := h2
      show some (pstep a x) = some a
      unfold pstep
      rw [if_neg (by omega)]
theorem oG_bd {l : List W3} (h : ∀ x ∈ l, x.g ≤ 5000) : 0 ≤ oG (l.foldl ostep none) ∧ oG (l.foldl ostep none) ≤ 5001 := by
  have key : ∀ (l : List W3) (o : Option W3), (∀ x ∈ l, x.g ≤ 5000) → (0 ≤ oG o ∧ oG o ≤ 5001) → 0 ≤ oG (l.foldl ostep o) ∧ oG (l.foldl ostep o) ≤ 5001 := fun l => by
    induction l with
    | nil => intro o _ h; exact h
    | cons x l ih =>
      intro o hl ho
      rw [List.foldl_cons]
      refine ih _ (fun y hy => hl y (by simp [hy])) ?_
      have hx := hl x (by simp)
      by_cases hlt : (x.g : Int) < oG o
      · rw [(ostep_lt hx).1 hlt]; show 0 ≤ (x.g : Int) ∧ (x.g : Int) ≤ 5001; omega
      · rw [(ostep_lt hx).2 hlt]; exact ho
  exact key l none h (by show (0 : Int) ≤ 5001 ∧ (5001 : Int) ≤ 5001; omega)
theorem oS_size (r : Nat) (o : Option W3) : (oS r o).size = 2 := by cases o <;> rfl
theorem oT_size (r : Nat) (o : Option W3) : (oT r o).size = 2 := by cases o <;> rfl
/-- what the loops of Witness hold: five boxes -/
structure WS (k0 : Nat) (cs a b s t : Array Value) (w : World) : Prop where
  r0 : Rw w k0 25 cs
  r1 : Rw w (k0 + 1) 34 a
  r2 : Rw w (k0 + 1 + 1) 34 b
  r3 : Rw w (k0 + 1 + 1 + 1) 34 s
  r4 : Rw w (k0 + 1 + 1 + 1 + 1) 34 t
theorem WS.below {k0 : Nat} {cs a b s t : Array Value} {w w' : World} (h : WS k0 cs a b s t w) (hb : Below w.heap.size w w') : WS k0 cs a b s t w' :=
  ⟨h.r0.below hb h.r0.lt, h.r1.below hb h.r1.lt, h.r2.below hb h.r2.lt, h.r3.below hb h.r3.lt, h.r4.below hb h.r4.lt⟩
theorem WS.set3 {k0 : Nat} {cs a b s t : Array Value} {w : World} (h : WS k0 cs a b s t w) (s' : Array Value) : WS k0 cs a b s' t (w.setRow (k0 + 1 + 1 + 1) s') :=
  ⟨h.r0.setRow_far _ (by omega), h.r1.setRow_far _ (by omega), h.r2.setRow_far _ (by omega), h.r3.setRow _, h.r4.setRow_far _ (by omega)⟩
theorem WS.set4 {k0 : Nat} {cs a b s t : Array Value} {w : World} (h : WS k0 cs a b s t w) (t' : Array Value) : WS k0 cs a b s t' (w.setRow (k0 + 1 + 1 + 1 + 1) t') :=
  ⟨h.r0.setRow_far _ (by omega), h.r1.setRow_far _ (by omega), h.r2.setRow_far _ (by omega), h.r3.setRow_far _ (by omega), h.r4.setRow _⟩
theorem WS.set1 {k0 : Nat} {cs a b s t : Array Value} {w : World} (h : WS k0 cs a b s t w) (s' : Array Value) : WS k0 cs s' b s t (w.setRow (k0 + 1) s') :=
  ⟨h.r0.setRow_far _ (by omega), h.r1.setRow _, h.r2.setRow_far _ (by omega), h.r3.setRow_far _ (by omega), h.r4.setRow_far _ (by omega)⟩
theorem WS.set2 {k0 : Nat} {cs a b s t : Array Value} {w : World} (h : WS k0 cs a b s t w) (s' : Array Value) : WS k0 cs a s' s t (w.setRow (k0 + 1 + 1) s') :=
  ⟨h.r0.setRow_far _ (by omega), h.r1.setRow_far _ (by omega), h.r2.setRow _, h.r3.setRow_far _ (by omega), h.r4.setRow_far _ (by omega)⟩
set_option maxRecDepth 100000 in
set_option maxHeartbeats 8000000 in
theorem rWitness_any (A A2 : Option Addr) (c c2 : Nat) (p : Pl) (r r2 m m2 : Nat) (L L2 : List S) (w : World) (hP : PlAt w w.heap.size A c A2 c2 p) (h : RlOk p r L) (h2 : RlOk p r2 L2) (hm : L.length = m + 1) (hm2 : L2.length = m2 + 1) (b : W3)
    (hb : bestP (pairsL (fun i k => gapW (stripAt r L i) (stripAt r2 L2 k)) m m2) = b) :
    Calls Tryz.prog 37 #[.agg #[.slice A p.nodes.length c, .slice A2 p.rails.length c2], .int .i64 (r : Int), .int .i64 (r2 : Int)] w fun e w' => e = .returned (.tuple #[.agg #[.int .i64 (r : Int), .int .i64 (b.i : Int)], .agg #[.int .i64 (r2 : Int), .int .i64 (b.k : Int)], .int .i64 (b.g : Int)]) ∧ Below w.heap.size w w' := by
  have hle := h.le; have hle2 := h2.le
  have HM := Lib.hid (show 1 ≤ m ∧ m ≤ 41 ∧ 1 ≤ m2 ∧ m2 ≤ 41 from by omega)
  obtain ⟨F, hF⟩ : ∃ F : Nat → Nat → Nat, F = (fun i k => gapW (stripAt r L i) (stripAt r2 L2 k)) := ⟨_, rfl⟩
  have HFL := Lib.hid (show ∀ i k, i < m → k < m2 → F i k ≤ 5000 from fun i k hi hk => by
    rw [hF]; exact gap_le (stripAt_ok h.hR h.hok (by omega)) (stripAt_ok h2.hR h2.hok (by omega)))
  have HBS := Lib.hid (show (pairsL F m m2).foldl ostep none = some b from by
    rw [← hb, ← hF]
    refine ostep_best (fun e => ?_)
    have h1 := pairsL_len F m2 m
    rw [e] at h1
    have h3 := Nat.mul_pos HM.out.1 HM.out.2.2.1
    simp at h1
    omega)
  have hb1 := (((((Below.refl _ w).alloc (Nat.le_refl _) (.cells #[.slice A p.nodes.length c, .slice A2 p.rails.length c2] 25)).alloc (by simp) (.cells #[.int .i64 0, .int .i64 0] 34)).alloc (by simp; omega) (.cells #[.int .i64 0, .int .i64 0] 34)).alloc (by simp; omega) (.cells #[.int .i64 0, .int .i64 0] 34)).alloc (by simp; omega) (.cells #[.int .i64 0, .int .i64 0] 34)
  obtain ⟨q1, q2, q3, q4, q5⟩ := rows5 w #[.slice A p.nodes.length c, .slice A2 p.rails.length c2] #[.int .i64 0, .int .i64 0] #[.int .i64 0, .int .i64 0] #[.int .i64 0, .int .i64 0] #[.int .i64 0, .int .i64 0] 25 34 34 34 34
  have hz1 : (((((w.alloc (.cells #[.slice A p.nodes.length c, .slice A2 p.rails.length c2] 25)).alloc (.cells #[.int .i64 0, .int .i64 0] 34)).alloc (.cells #[.int .i64 0, .int .i64 0] 34)).alloc (.cells #[.int .i64 0, .int .i64 0] 34)).alloc (.cells #[.int .i64 0, .int .i64 0] 34)).heap.size = w.heap.size + 5 := by simp
  obtain ⟨W1, hW1⟩ : ∃ z, (((((w.alloc (.cells #[.slice A p.nodes.length c, .slice A2 p.rails.length c2] 25)).alloc (.cells #[.int .i64 0, .int .i64 0] 34)).alloc (.cells #[.int .i64 0, .int .i64 0] 34)).alloc (.cells #[.int .i64 0, .int .i64 0] 34)).alloc (.cells #[.int .i64 0, .int .i64 0] 34)) = z := ⟨_, rfl⟩
  rw [hW1] at hb1 q1 q2 q3 q4 q5 hz1
  have HB1 := Lib.hid hb1
  have HWS := Lib.hid (show WS w.heap.size #[.slice A p.nodes.length c, .slice A2 p.rails.length c2] #[.int .i64 0, .int .i64 0] #[.int .i64 0, .int .i64 0] (oS r none) (oT r2 none) W1 from ⟨q1, q2, q3, q4, q5⟩)
  have HPB := Lib.hid (show ∀ wx, Below w.heap.size w wx → PlAt wx wx.heap.size A c A2 c2 p from fun wx h => (hP.below h).more h.size)
  have HS1 := Lib.hid (show ∀ wx, Below w.heap.size w wx → Calls Tryz.prog 20 #[.agg #[.slice A p.nodes.length c, .slice A2 p.rails.length c2], .int .i64 (r : Int)] wx fun e w' => e = .returned (.int .i64 (m : Int)) ∧ Below wx.heap.size wx w' from fun wx hx => rStrips_any A A2 c c2 p r m wx (HPB.out wx hx) h.hr (by have := h.len; omega) (by omega))
  have HS2 := Lib.hid (show ∀ wx, Below w.heap.size w wx → Calls Tryz.prog 20 #[.agg #[.slice A p.nodes.length c, .slice A2 p.rails.length c2], .int .i64 (r2 : Int)] wx fun e w' => e = .returned (.int .i64 (m2 : Int)) ∧ Below wx.heap.size wx w' from fun wx hx => rStrips_any A A2 c c2 p r2 m2 wx (HPB.out wx hx) h2.hr (by have := h2.len; omega) (by omega))
  have HGP := Lib.hid (show ∀ i k, i < m → k < m2 → ∀ wx, Below w.heap.size w wx → Calls Tryz.prog 26 #[.agg #[.slice A p.nodes.length c, .slice A2 p.rails.length c2], .agg #[.int .i64 (r : Int), .int .i64 (i : Int)], .agg #[.int .i64 (r2 : Int), .int .i64 (k : Int)]] wx fun e w' => e = .returned (.int .i64 (F i k : Int)) ∧ Below wx.heap.size wx w' from fun i k hi hk wx hx => by
    have o1 := stripAt_ok (r := r) h.hR h.hok (k := i) (by omega)
    have o2 := stripAt_ok (r := r2) h2.hR h2.hok (k := k) (by omega)
    refine (rGap_any A A2 c c2 p r i r2 k L L2 wx (HPB.out wx hx) h (by omega) h2 (by omega)).mono ?_
    rintro e w' ⟨⟨n, rfl, hi⟩, hb⟩
    refine ⟨?_, hb⟩
    rw [hF]
    show _ = Ending.returned (.int .i64 ((gapW (stripAt r L i) (stripAt r2 L2 k) : Nat) : Int))
    rw [← near_gap o1 o2 hi])
  obtain ⟨k0, hk0⟩ : ∃ z, w.heap.size = z := ⟨_, rfl⟩
  have hz1' : W1.heap.size = w.heap.size + 5 := hz1
  have e0 := q1.cell 0; have e1 := q1.cell 1
  clear hb1 q2 q3 q4 q5 hz1 hP h h2 hm hm2 hb hF hle hle2 hk0 k0
  have HZ1 := Lib.hid hz1'
  clear hz1'
  go_enter Tryz.func37, Tryz.ntmps37
  go_wp2
  go_loopw [11, 12] (fun s11 s12 wr => ∃ i : Nat, i ≤ m ∧ s12 = .int .i64 (i : Int) ∧ s11 = .int .i64 (oG ((pairsL F i m2).foldl ostep none)) ∧ WS w.heap.size #[.slice A p.nodes.length c, .slice A2 p.rails.length c2] #[.int .i64 0, .int .i64 0] #[.int .i64 0, .int .i64 0] (oS r ((pairsL F i m2).foldl ostep none)) (oT r2 ((pairsL F i m2).foldl ostep none)) wr ∧ Below w.heap.size w wr) (fun _ s12 _ => m - (intOf s12).toNat)
  case atStart => exact ⟨0, Nat.zero_le _, rfl, rfl, HWS.out, HB1.out⟩
  case round =>
    obtain ⟨i, hi, rfl, rfl, hws, hb⟩ := hrel
    obtain ⟨o, ho⟩ : ∃ z, (pairsL F i m2).foldl ostep none = z := ⟨_, rfl⟩
    rw [ho] at hws ⊢
    have HO := Lib.hid ho; have HW := Lib.hid hws; have HB := Lib.hid hb
    have e0 := hws.r0.cell 0; have e1 := hws.r0.cell 1
    have hi41 : i ≤ 41 := by have := HM.out; omega
    clear ho hws hb
    by_cases hin : i < m
    · have hii : (i : Int) < (m : Int) := by omega
      have HIN := Lib.hid hin
      go_wp2_with fail
      refine (HS1.out _ HB.out).mono ?_
      rintro e w2 ⟨rfl, hb2⟩
      have HW2 := Lib.hid (HW.out.below hb2); have HB2 := Lib.hid (HB.out.trans (hb2.mono HB.out.size))
      clear hb2 e0 e1
      go_wp2
      go_loopw [11, 13] (fun s11 s13 wr => ∃ k : Nat, k ≤ m2 ∧ s13 = .int .i64 (k : Int) ∧ s11 = .int .i64 (oG ((rowP F i k).foldl ostep o)) ∧ WS w.heap.size #[.slice A p.nodes.length c, .slice A2 p.rails.length c2] #[.int .i64 0, .int .i64 0] #[.int .i64 0, .int .i64 0] (oS r ((rowP F i k).foldl ostep o)) (oT r2 ((rowP F i k).foldl ostep o)) wr ∧ Below w.heap.size w wr) (fun _ s13 _ => m2 - (intOf s13).toNat)
      case atStart => exact ⟨0, Nat.zero_le _, rfl, rfl, HW2.out, HB2.out⟩
      case round =>
        obtain ⟨k, hk, rfl, rfl, hws, hb⟩ := hrel
        obtain ⟨o2, ho2⟩ : ∃ z, (rowP F i k).foldl ostep o = z := ⟨_, rfl⟩
        rw [ho2] at hws ⊢
        have HO2 := Lib.hid ho2; have HW3 := Lib.hid hws; have HB3 := Lib.hid hb
        have e0 := hws.r0.cell 0; have e1 := hws.r0.cell 1
        have hk41 : k ≤ 41 := by have := HM.out; omega
        clear ho2 hws hb
        by_cases hkm : k < m2
        · have hkk : (k : Int) < (m2 : Int) := by omega
          have HKM := Lib.hid hkm
          have HNX := Lib.hid (show (rowP F i (k + 1)).foldl ostep o = ostep o2 ⟨i, k, F i k⟩ from by rw [rowP_succ, List.foldl_append, HO2.out]; rfl)
          obtain ⟨g, hg⟩ : ∃ z, F i k = z := ⟨_, rfl⟩
          have HGK := Lib.hid (show ∀ wx, Below w.heap.size w wx → Calls Tryz.prog 26 #[.agg #[.slice A p.nodes.length c, .slice A2 p.rails.length c2], .agg #[.int .i64 (r : Int), .int .i64 (i : Int)], .agg #[.int .i64 (r2 : Int), .int .i64 (k : Int)]] wx fun e w' => e = .returned (.int .i64 (g : Int)) ∧ Below wx.heap.size wx w' from fun wx hx => by
            have := HGP.out i k HIN.out HKM.out wx hx; rwa [hg] at this)
          have hgl := HFL.out i k HIN.out HKM.out
          rw [hg] at HNX hgl
          have HGL := Lib.hid hgl
          clear hg hgl
          go_wp2_with fail
          refine (HS2.out _ HB3.out).mono ?_
          rintro e w3 ⟨rfl, hb2⟩
          have HW4 := Lib.hid (HW3.out.below hb2); have HB4 := Lib.hid (HB3.out.trans (hb2.mono HB3.out.size))
          have hb5 := (((Below.refl _ w3).alloc (Nat.le_refl _) (.cells #[.int .i64 (r : Int), .int .i64 (i : Int)] 34)).alloc (by simp) (.cells #[.int .i64 (r2 : Int), .int .i64 (k : Int)] 34))
          obtain ⟨q1, q2⟩ := rows2 w3 #[.int .i64 (r : Int), .int .i64 (i : Int)] #[.int .i64 (r2 : Int), .int .i64 (k : Int)] 34 34
          have hw5 := HW4.out.below hb5
          have hz5 : ((w3.alloc (.cells #[.int .i64 (r : Int), .int .i64 (i : Int)] 34)).alloc (.cells #[.int .i64 (r2 : Int), .int .i64 (k : Int)] 34)).heap.size = w3.heap.size + 2 := by simp
          obtain ⟨W5, hW5⟩ : ∃ z, (w3.alloc (.cells #[.int .i64 (r : Int), .int .i64 (i : Int)] 34)).alloc (.cells #[.int .i64 (r2 : Int), .int .i64 (k : Int)] 34) = z := ⟨_, rfl⟩
          rw [hW5] at hb5 q1 q2 hw5 hz5
          have HB5 := Lib.hid (HB4.out.trans (hb5.mono HB4.out.size))
          have HW5 := Lib.hid hw5
          have HQ5 := Lib.hid (show ∀ wx, Below W5.heap.size W5 wx → Rw wx w3.heap.size 34 #[.int .i64 (r : Int), .int .i64 (i : Int)] ∧ Rw wx (w3.heap.size + 1) 34 #[.int .i64 (r2 : Int), .int .i64 (k : Int)] from fun wx h => ⟨q1.below h (by omega), q2.below h (by omega)⟩)
          have HNE := Lib.hid (show w.heap.size + 5 ≤ w3.heap.size from by have h1 := HW4.out.r4.lt; omega)
          have e0 := hw5.r0.cell 0; have e1 := hw5.r0.cell 1; have e2 := q1.cell 0; have e3 := q1.cell 1; have e4 := q2.cell 0; have e5 := q2.cell 1
          clear hb2 hb5 q1 q2 hw5 hz5
          go_wp2_with fail
          refine (HGK.out _ HB5.out).mono ?_
          rintro e w6 ⟨rfl, hb6⟩
          have HW6 := Lib.hid (HW5.out.below hb6); have HB6 := Lib.hid (HB5.out.trans (hb6.mono HB5.out.size))
          have HQ6 := Lib.hid (HQ5.out _ hb6)
          clear hb6 e0 e1 e2 e3 e4 e5 hW5
          by_cases hlt : (g : Int) < oG o2
          · have HST := Lib.hid (show (rowP F i (k + 1)).foldl ostep o = some ⟨i, k, g⟩ from by rw [HNX.out]; exact (ostep_lt HGL.out).1 hlt)
            go_upto_region 12 with (fail)
            have HT := Lib.hid (show WS w.heap.size #[.slice A p.nodes.length c, .slice A2 p.rails.length c2] #[.int .i64 0, .int .i64 0] #[.int .i64 0, .int .i64 0] (oS r o2) (oT r2 o2) w6.drew from HW6.out.below (Below.refl _ _).drew)
            have HS := Lib.hid (show Rw w6.drew w3.heap.size 34 #[.int .i64 (r : Int), .int .i64 (i : Int)] ∧ Rw w6.drew (w3.heap.size + 1) 34 #[.int .i64 (r2 : Int), .int .i64 (k : Int)] from HQ6.out)
            have HN3 := Lib.hid (show w3.heap.size ≠ w.heap.size + 1 + 1 + 1 ∧ w3.heap.size + 1 ≠ w.heap.size + 1 + 1 + 1 from by have := HNE.out; omega)
            have HN4 := Lib.hid (show w3.heap.size ≠ w.heap.size + 1 + 1 + 1 + 1 ∧ w3.heap.size + 1 ≠ w.heap.size + 1 + 1 + 1 + 1 from by have := HNE.out; omega)
            have hbq := HB6.out.drew
            refine wp_region_held_drew (S := fun wx => Rw wx w3.heap.size 34 #[.int .i64 (r : Int), .int .i64 (i : Int)] ∧ Rw wx (w3.heap.size + 1) 34 #[.int .i64 (r2 : Int), .int .i64 (k : Int)]) (by kernel_rfl) HS.out (fun _ => ?_)
            refine hTake (i := 0) (d := 44) (v := .agg #[.int .i64 (r : Int), .int .i64 (i : Int)]) rfl rfl (by kernel_rfl) (by kernel_rfl) (by kernel_rfl) (fun _ _ _ h => h) (Or.inl ⟨rfl, ?gr⟩) HS.out ?_
            case gr =>
              rintro W' ⟨s0, s1⟩
              have d0 := s0.cell 0; have d1 := s0.cell 1; have f0 := s1.cell 0; have f1 := s1.cell 1
              go_simp
            simp only [Act.put, List.setIfInBounds_toArray, List.set_cons_zero, List.set_cons_succ]
            refine hTake (i := 1) (d := 45) (v := .agg #[.int .i64 (r2 : Int), .int .i64 (k : Int)]) rfl rfl (by kernel_rfl) (by kernel_rfl) (by kernel_rfl) (fun _ _ _ h => h) (Or.inl ⟨rfl, ?gr⟩) HS.out ?_
            case gr =>
              rintro W' ⟨s0, s1⟩
              have d0 := s0.cell 0; have d1 := s0.cell 1; have f0 := s1.cell 0; have f1 := s1.cell 1
              go_simp
            simp only [Act.put, List.setIfInBounds_toArray, List.set_cons_zero, List.set_cons_succ]
            refine hTake (i := 2) (d := 46) (v := .int .i64 (g : Int)) rfl rfl (by kernel_rfl) (by kernel_rfl) (by kernel_rfl) (fun _ _ _ h => h) (Or.inl ⟨rfl, ?gr⟩) HS.out ?_
            case gr =>
              rintro W' ⟨s0, s1⟩
              have d0 := s0.cell 0; have d1 := s0.cell 1; have f0 := s1.cell 0; have f1 := s1.cell 1
              go_simp
            simp only [Act.put, List.setIfInBounds_toArray, List.set_cons_zero, List.set_cons_succ]
            refine wpAnyH_ready (rs := [3]) (by kernel_rfl) (by simp) ?_
            refine AllReadyH.cons rfl (fun K hK => ?_) AllReadyH.nil
            rw [if_pos (by rfl)]
            refine wp_store_row 34 _ _ rfl (w.heap.size + 1 + 1 + 1) rfl #[.int .i64 (r : Int), .int .i64 (i : Int)] rfl 34 _ HT.out.r3 (by kernel_rfl) (by simp [oS_size, oT_size]) (by simp [Value.oneCell']) ?_
            have HT := Lib.hid (HT.out.set3 #[.int .i64 (r : Int), .int .i64 (i : Int)])
            have HS := Lib.hid (And.intro (HS.out.1.setRow_far #[.int .i64 (r : Int), .int .i64 (i : Int)] HN3.out.1) (HS.out.2.setRow_far #[.int .i64 (r : Int), .int .i64 (i : Int)] HN3.out.2))
            replace hbq := below_setRow hbq (show w.heap.size ≤ w.heap.size + 1 + 1 + 1 by omega) #[.int .i64 (r : Int), .int .i64 (i : Int)]
            refine hK.out _ _ HS.out (fun _ => ?_)
            clear hK K
            try simp only [Act.put, List.setIfInBounds_toArray, List.set_cons_zero, List.set_cons_succ]
            refine wpAnyH_ready (rs := [4]) (by kernel_rfl) (by simp) ?_
            refine AllReadyH.cons rfl (fun K hK => ?_) AllReadyH.nil
            rw [if_pos (by rfl)]
            refine wp_store_row 34 _ _ rfl (w.heap.size + 1 + 1 + 1 + 1) rfl #[.int .i64 (r2 : Int), .int .i64 (k : Int)] rfl 34 _ HT.out.r4 (by kernel_rfl) (by simp [oS_size, oT_size]) (by simp [Value.oneCell']) ?_
            have HT := Lib.hid (HT.out.set4 #[.int .i64 (r2 : Int), .int .i64 (k : Int)])
            have HS := Lib.hid (And.intro (HS.out.1.setRow_far #[.int .i64 (r2 : Int), .int .i64 (k : Int)] HN4.out.1) (HS.out.2.setRow_far #[.int .i64 (r2 : Int), .int .i64 (k : Int)] HN4.out.2))
            replace hbq := below_setRow hbq (show w.heap.size ≤ w.heap.size + 1 + 1 + 1 + 1 by omega) #[.int .i64 (r2 : Int), .int .i64 (k : Int)]
            refine hK.out _ _ HS.out (fun _ => ?_)
            clear hK K
            try simp only [Act.put, List.setIfInBounds_toArray, List.set_cons_zero, List.set_cons_succ]
            refine hTake (i := 5) (d := 11) (v := .int .i64 (g : Int)) rfl rfl (by kernel_rfl) (by kernel_rfl) (by kernel_rfl) (fun _ _ _ h => h) (Or.inl ⟨rfl, ?gr⟩) HS.out ?_
            case gr =>
              rintro W' ⟨s0, s1⟩
              have d0 := s0.cell 0; have d1 := s0.cell 1; have f0 := s1.cell 0; have f1 := s1.cell 1
              go_simp
            simp only [Act.put, List.setIfInBounds_toArray, List.set_cons_zero, List.set_cons_succ]
            refine wpAnyH_done (by kernel_rfl) ?_ _

            go_wp2
            go_roundw
            case rel => exact ⟨k + 1, by omega, vi (by omega), by rw [HST.out]; rfl, by rw [HST.out]; exact HT.out, hbq⟩
            case measure => simp [intOf] <;> omega
          · have HST := Lib.hid (show (rowP F i (k + 1)).foldl ostep o = o2 from by rw [HNX.out]; exact (ostep_lt HGL.out).2 hlt)
            go_wp2
            go_roundw
            case rel => exact ⟨k + 1, by omega, vi (by omega), by rw [HST.out], by rw [HST.out]; exact HW6.out, HB6.out⟩
            case measure => simp [intOf] <;> omega
        · obtain rfl : k = m2 := by omega
          have hkk : ¬ (k : Int) < (k : Int) := by omega
          have HFI := Lib.hid (show (pairsL F (i + 1) k).foldl ostep none = o2 from by rw [pairsL_succ, List.foldl_append, HO.out, HO2.out])
          go_wp2_with fail
          refine (HS2.out _ HB3.out).mono ?_
          rintro e w3 ⟨rfl, hb2⟩
          have HW4 := Lib.hid (HW3.out.below hb2); have HB4 := Lib.hid (HB3.out.trans (hb2.mono HB3.out.size))
          clear hb2 e0 e1
          go_wp2
          go_roundw
          case rel => exact ⟨i + 1, by have := HIN.out; omega, vi (by omega), by rw [HFI.out], by rw [HFI.out]; exact HW4.out, HB4.out⟩
          case measure => have := HIN.out; simp [intOf] <;> omega
    · obtain rfl : i = m := by omega
      have hii : ¬ (i : Int) < (i : Int) := by omega
      have HOB := Lib.hid (show o = some b from by rw [← HO.out]; exact HBS.out)
      go_wp2_with fail
      refine (HS1.out _ HB.out).mono ?_
      rintro e w2 ⟨rfl, hb2⟩
      have HW2 := Lib.hid (show WS w.heap.size #[.slice A p.nodes.length c, .slice A2 p.rails.length c2] #[.int .i64 0, .int .i64 0] #[.int .i64 0, .int .i64 0] #[.int .i64 (r : Int), .int .i64 (b.i : Int)] #[.int .i64 (r2 : Int), .int .i64 (b.k : Int)] w2 from by
        have := HW.out.below hb2
        rw [HOB.out] at this
        exact this)
      have HB2 := Lib.hid (HB.out.trans (hb2.mono HB.out.size))
      have hog : oG o = (b.g : Int) := by rw [HOB.out]; rfl
      rw [hog]
      clear hb2 e0 e1 hog
      go_upto_region 13 with (fail)
      have HT := Lib.hid (show WS w.heap.size #[.slice A p.nodes.length c, .slice A2 p.rails.length c2] #[.int .i64 0, .int .i64 0] #[.int .i64 0, .int .i64 0] #[.int .i64 (r : Int), .int .i64 (b.i : Int)] #[.int .i64 (r2 : Int), .int .i64 (b.k : Int)] w2.drew from HW2.out.below (Below.refl _ _).drew)
      have HS := Lib.hid (show Rw w2.drew (w.heap.size + 1 + 1 + 1) 34 #[.int .i64 (r : Int), .int .i64 (b.i : Int)] ∧ Rw w2.drew (w.heap.size + 1 + 1 + 1 + 1) 34 #[.int .i64 (r2 : Int), .int .i64 (b.k : Int)] from ⟨HT.out.r3, HT.out.r4⟩)
      have HN5 := Lib.hid (show w.heap.size + 1 + 1 + 1 ≠ w.heap.size + 1 ∧ w.heap.size + 1 + 1 + 1 + 1 ≠ w.heap.size + 1 from by omega)
      have HN6 := Lib.hid (show w.heap.size + 1 + 1 + 1 ≠ w.heap.size + 1 + 1 ∧ w.heap.size + 1 + 1 + 1 + 1 ≠ w.heap.size + 1 + 1 from by omega)
      have hbq := HB2.out.drew
      refine wp_region_held_drew (S := fun wx => Rw wx (w.heap.size + 1 + 1 + 1) 34 #[.int .i64 (r : Int), .int .i64 (b.i : Int)] ∧ Rw wx (w.heap.size + 1 + 1 + 1 + 1) 34 #[.int .i64 (r2 : Int), .int .i64 (b.k : Int)]) (by kernel_rfl) HS.out (fun _ => ?_)
      refine hTake (i := 0) (d := 47) (v := .agg #[.int .i64 (r : Int), .int .i64 (b.i : Int)]) rfl rfl (by kernel_rfl) (by kernel_rfl) (by kernel_rfl) (fun _ _ _ h => h) (Or.inl ⟨rfl, ?gr⟩) HS.out ?_
      case gr =>
        rintro W' ⟨s0, s1⟩
        have d0 := s0.cell 0; have d1 := s0.cell 1; have f0 := s1.cell 0; have f1 := s1.cell 1
        go_simp
      simp only [Act.put, List.setIfInBounds_toArray, List.set_cons_zero, List.set_cons_succ]
      refine hTake (i := 1) (d := 48) (v := .agg #[.int .i64 (r2 : Int), .int .i64 (b.k : Int)]) rfl rfl (by kernel_rfl) (by kernel_rfl) (by kernel_rfl) (fun _ _ _ h => h) (Or.inl ⟨rfl, ?gr⟩) HS.out ?_
      case gr =>
        rintro W' ⟨s0, s1⟩
        have d0 := s0.cell 0; have d1 := s0.cell 1; have f0 := s1.cell 0; have f1 := s1.cell 1
        go_simp
      simp only [Act.put, List.setIfInBounds_toArray, List.set_cons_zero, List.set_cons_succ]
      refine hTake (i := 2) (d := 49) (v := .int .i64 (b.g : Int)) rfl rfl (by kernel_rfl) (by kernel_rfl) (by kernel_rfl) (fun _ _ _ h => h) (Or.inl ⟨rfl, ?gr⟩) HS.out ?_
      case gr =>
        rintro W' ⟨s0, s1⟩
        have d0 := s0.cell 0; have d1 := s0.cell 1; have f0 := s1.cell 0; have f1 := s1.cell 1
        go_simp
      simp only [Act.put, List.setIfInBounds_toArray, List.set_cons_zero, List.set_cons_succ]
      refine wpAnyH_ready (rs := [3]) (by kernel_rfl) (by simp) ?_
      refine AllReadyH.cons rfl (fun K hK => ?_) AllReadyH.nil
      rw [if_pos (by rfl)]
      refine wp_store_row 34 _ _ rfl (w.heap.size + 1) rfl #[.int .i64 (r : Int), .int .i64 (b.i : Int)] rfl 34 _ HT.out.r1 (by kernel_rfl) (by simp [oS_size, oT_size]) (by simp [Value.oneCell']) ?_
      have HT := Lib.hid (HT.out.set1 #[.int .i64 (r : Int), .int .i64 (b.i : Int)])
      have HS := Lib.hid (And.intro (HS.out.1.setRow_far #[.int .i64 (r : Int), .int .i64 (b.i : Int)] HN5.out.1) (HS.out.2.setRow_far #[.int .i64 (r : Int), .int .i64 (b.i : Int)] HN5.out.2))
      replace hbq := below_setRow hbq (show w.heap.size ≤ w.heap.size + 1 by omega) #[.int .i64 (r : Int), .int .i64 (b.i : Int)]
      refine hK.out _ _ HS.out (fun _ => ?_)
      clear hK K
      try simp only [Act.put, List.setIfInBounds_toArray, List.set_cons_zero, List.set_cons_succ]
      refine wpAnyH_ready (rs := [4]) (by kernel_rfl) (by simp) ?_
      refine AllReadyH.cons rfl (fun K hK => ?_) AllReadyH.nil
      rw [if_pos (by rfl)]
      refine wp_store_row 34 _ _ rfl (w.heap.size + 1 + 1) rfl #[.int .i64 (r2 : Int), .int .i64 (b.k : Int)] rfl 34 _ HT.out.r2 (by kernel_rfl) (by simp [oS_size, oT_size]) (by simp [Value.oneCell']) ?_
      have HT := Lib.hid (HT.out.set2 #[.int .i64 (r2 : Int), .int .i64 (b.k : Int)])
      have HS := Lib.hid (And.intro (HS.out.1.setRow_far #[.int .i64 (r2 : Int), .int .i64 (b.k : Int)] HN6.out.1) (HS.out.2.setRow_far #[.int .i64 (r2 : Int), .int .i64 (b.k : Int)] HN6.out.2))
      replace hbq := below_setRow hbq (show w.heap.size ≤ w.heap.size + 1 + 1 by omega) #[.int .i64 (r2 : Int), .int .i64 (b.k : Int)]
      refine hK.out _ _ HS.out (fun _ => ?_)
      clear hK K
      try simp only [Act.put, List.setIfInBounds_toArray, List.set_cons_zero, List.set_cons_succ]
      refine hTake (i := 5) (d := 8) (v := .int .i64 (b.g : Int)) rfl rfl (by kernel_rfl) (by kernel_rfl) (by kernel_rfl) (fun _ _ _ h => h) (Or.inl ⟨rfl, ?gr⟩) HS.out ?_
      case gr =>
        rintro W' ⟨s0, s1⟩
        have d0 := s0.cell 0; have d1 := s0.cell 1; have f0 := s1.cell 0; have f1 := s1.cell 1
        go_simp
      simp only [Act.put, List.setIfInBounds_toArray, List.set_cons_zero, List.set_cons_succ]
      refine wpAnyH_done (by kernel_rfl) ?_ _

      go_wp2
      (try simp only [Exit.inBlock, Exit.then])
      exact bodyPost_ret (res_cct rfl _ _ _ _ _ _ _ _ _ _ _ rfl rfl rfl HT.out.r1 HT.out.r2 Tryz.underlying34 rfl (by kernel_rfl) Tryz.underlying34 rfl (by kernel_rfl)) rfl ⟨rfl, hbq⟩
end Go.Proofs.YtekambdnmaompaaGreat.SW
