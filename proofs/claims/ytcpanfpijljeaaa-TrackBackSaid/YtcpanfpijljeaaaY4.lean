/- TrackBack, given what fine and known answer. -/
import Derived.Test.YtcpanfpijljeaaaY3
import Derived.Deep.RegionHeld3
import Derived.Deep.Cut
import Derived.Deep.CutRange
import Derived.Deep.DeepCutAuto
namespace Go.Proofs.Ytcpanfpijljeaaa
set_option linter.unusedVariables false
set_option linter.unusedSimpArgs false
open Go.RowKit

theorem set2 {w : World} {K : Nat} {a b x y : Value} (e0 : w.cell? ⟨K, 0, none⟩ = some a) (e1 : w.cell? ⟨K, 1, none⟩ = some b) :
    ((w.setCell ⟨K, 0, none⟩ x).setCell ⟨K, 1, none⟩ y).cell? ⟨K, 0, none⟩ = some x ∧ ((w.setCell ⟨K, 0, none⟩ x).setCell ⟨K, 1, none⟩ y).cell? ⟨K, 1, none⟩ = some y :=
  ⟨by simp [go_sem, e0], by simp [go_sem, e1]⟩

set_option maxRecDepth 100000 in
set_option maxHeartbeats 1000000 in
theorem TrackBack_not (A A2 : Option Addr) (c c2 : Nat) (p : Pl) (m n : E) (w : World) (hP : PlAt w w.heap.size A c A2 c2 p)
    (hF : ∀ w, PlAt w w.heap.size A c A2 c2 p → Calls Try.prog 18 #[.agg #[.slice A p.nodes.length c, .slice A2 p.rails.length c2], .agg #[.int .i64 m.rail, .bool m.last], .agg #[.int .i64 n.rail, .bool n.last]] w fun e w' => e = .returned (.bool false) ∧ Below w.heap.size w w')
    (hK : ∀ w, Calls Try.prog 10 #[] w fun e w' => e = .returned (.bool true) ∧ Below w.heap.size w w') :
    Calls Try.prog 5 #[.agg #[.slice A p.nodes.length c, .slice A2 p.rails.length c2], .agg #[.int .i64 m.rail, .bool m.last], .agg #[.int .i64 n.rail, .bool n.last]] w fun e w' => e = .returned (.bool true) ∧ Below w.heap.size w w' := by
  have H1 := Lib.hid (G3st.start m n hP)
  have HF := Lib.hid hF; have HK := Lib.hid hK
  clear hP hF hK
  go_enter Try.func5, Try.ntmps5
  go_wp2_with fail
  refine (HF.out _ H1.out.pl).mono ?_
  rintro e w2 ⟨rfl, hb2⟩
  have H2 := Lib.hid (H1.out.next hb2)
  clear hb2 H1
  go_wp2_with fail
  refine (HK.out _).mono ?_
  rintro e w3 ⟨rfl, hb3⟩
  have H3 := Lib.hid (H2.out.next hb3)
  clear hb3 H2
  go_wp2
  go_ret
  exact ⟨rfl, H3.out.be⟩

set_option maxRecDepth 100000 in
set_option maxHeartbeats 4000000 in
theorem TrackBack_in (A A2 : Option Addr) (c c2 : Nat) (p : Pl) (k : Nat) (lb : Bool) (n : E) (w : World) (hP : PlAt w w.heap.size A c A2 c2 p) (hv : Vld p) (hk : k < p.rails.length) (hn : railIn p n.rail = true)
    (hF : ∀ w, PlAt w w.heap.size A c A2 c2 p → Calls Try.prog 18 #[.agg #[.slice A p.nodes.length c, .slice A2 p.rails.length c2], .agg #[.int .i64 (k : Int), .bool lb], .agg #[.int .i64 n.rail, .bool n.last]] w fun e w' => e = .returned (.bool true) ∧ Below w.heap.size w w')
    (hK : ∀ w, Calls Try.prog 10 #[] w fun e w' => e = .returned (.bool true) ∧ Below w.heap.size w w') :
    Calls Try.prog 5 #[.agg #[.slice A p.nodes.length c, .slice A2 p.rails.length c2], .agg #[.int .i64 (k : Int), .bool lb], .agg #[.int .i64 n.rail, .bool n.last]] w fun e w' => e = .returned (.bool true) ∧ Below w.heap.size w w' := by
  have hm : railIn p (E.mk (k : Int) lb).rail = true := by simp [railIn]; omega
  obtain ⟨i, hi, hnode, hat⟩ := node_in hv hk lb
  obtain ⟨kd, hkd⟩ : ∃ x, p.nodes[i].kind = x := ⟨_, rfl⟩
  obtain ⟨L, hL⟩ : ∃ x, (nextL p (keyE ⟨(k : Int), lb⟩)).length = x := ⟨_, rfl⟩
  have hL2 : L ≤ 2 := by rw [← hL]; exact nextL_len _ _
  have hL3 : 1 < L → kd = 4 := fun h => by rw [← hL] at h; have := next_more h; rw [hat, hkd] at this; exact this
  obtain ⟨is, his⟩ : ∃ x, folB p (keyE ⟨(k : Int), lb⟩) (endNo n) = x := ⟨_, rfl⟩
  obtain ⟨bk, hbk⟩ : ∃ x, folB p (keyE (opE n)) (endNo (opE ⟨(k : Int), lb⟩)) = x := ⟨_, rfl⟩
  obtain ⟨X, Y, Er, hB⟩ := btwV_form p ⟨(k : Int), lb⟩ n
  have hop : is = true → kd ≠ 5 → bk = true ∧ btwV p (opE n) (opE ⟨(k : Int), lb⟩) = .tuple #[.agg #[.int .i64 X, .int .i64 Y], .int .i64 Er] := fun h1 h2 => by
    have := fol_op hv (m := ⟨(k : Int), lb⟩) hm hn (by rw [hat, hkd]; exact h2) (by rw [his]; exact h1)
    exact ⟨hbk ▸ this.1, by rw [this.2, hB]⟩
  have C19 := Lib.hid (show ∀ w, PlAt w w.heap.size A c A2 c2 p → Calls Try.prog 19 #[.agg #[.slice A p.nodes.length c, .slice A2 p.rails.length c2], .agg #[.int .i64 (k : Int), .bool lb]] w fun e w' => (∃ B d, e = .returned (.tuple #[.slice B L d, .int .i64 0]) ∧ L ≤ d) ∧ Below w.heap.size w w' from fun w hP =>
    (Next_in A A2 c c2 p ⟨(k : Int), lb⟩ w hP hv hm).mono fun e w' ⟨⟨B, d, h1, h2, _⟩, h3⟩ => ⟨⟨B, d, by rw [h1, hL], by rw [← hL]; exact h2⟩, h3⟩)
  have C20 := Lib.hid (show ∀ w, PlAt w w.heap.size A c A2 c2 p → Calls Try.prog 20 #[.agg #[.slice A p.nodes.length c, .slice A2 p.rails.length c2], .agg #[.int .i64 (k : Int), .bool lb], .agg #[.int .i64 n.rail, .bool n.last]] w fun e w' => e = .returned (.tuple #[.bool is, .int .i64 0]) ∧ Below w.heap.size w w' from fun w hP => by
    have := Follows_in A A2 c c2 p ⟨(k : Int), lb⟩ n w hP hv hm hn
    rw [his] at this; exact this)
  have C20b := Lib.hid (show ∀ w, PlAt w w.heap.size A c A2 c2 p → Calls Try.prog 20 #[.agg #[.slice A p.nodes.length c, .slice A2 p.rails.length c2], .agg #[.int .i64 n.rail, .bool !n.last], .agg #[.int .i64 (k : Int), .bool !lb]] w fun e w' => e = .returned (.tuple #[.bool bk, .int .i64 0]) ∧ Below w.heap.size w w' from fun w hP => by
    have := Follows_in A A2 c c2 p (opE n) (opE ⟨(k : Int), lb⟩) w hP hv hn hm
    rw [hbk] at this; exact this)
  have C21 := Lib.hid (show ∀ w, PlAt w w.heap.size A c A2 c2 p → Calls Try.prog 21 #[.agg #[.slice A p.nodes.length c, .slice A2 p.rails.length c2], .agg #[.int .i64 (k : Int), .bool lb], .agg #[.int .i64 n.rail, .bool n.last]] w fun e w' => e = .returned (.tuple #[.agg #[.int .i64 X, .int .i64 Y], .int .i64 Er]) ∧ Below w.heap.size w w' from fun w hP => by
    have := Between_in A A2 c c2 p ⟨(k : Int), lb⟩ n w hP hv hm hn
    rw [hB] at this; exact this)
  have C21b := Lib.hid (show is = true → kd ≠ 5 → ∀ w, PlAt w w.heap.size A c A2 c2 p → Calls Try.prog 21 #[.agg #[.slice A p.nodes.length c, .slice A2 p.rails.length c2], .agg #[.int .i64 n.rail, .bool !n.last], .agg #[.int .i64 (k : Int), .bool !lb]] w fun e w' => e = .returned (.tuple #[.agg #[.int .i64 X, .int .i64 Y], .int .i64 Er]) ∧ Below w.heap.size w w' from fun h1 h2 w hP => by
    have := Between_in A A2 c c2 p (opE n) (opE ⟨(k : Int), lb⟩) w hP hv hn hm
    rw [(hop h1 h2).2] at this; exact this)
  have HOP := Lib.hid (show is = true → kd ≠ 5 → bk = true from fun h1 h2 => (hop h1 h2).1)
  have HKD := Lib.hid hkd; have HND := Lib.hid hnode; have HL3 := Lib.hid hL3
  have HF := Lib.hid hF; have HK := Lib.hid hK
  have H1 := Lib.hid (G3st.start ⟨(k : Int), lb⟩ n hP)
  have HI := Lib.hid hi; have HKK := Lib.hid hk
  have l2 : decide (2 < (L : Int)) = false := by simp; omega
  have l3 : (L : Int) ≤ 2 := by omega
  clear hP hF hK hv hn hm hkd hnode hat hL hL3 his hbk hB hop hL2
  go_enter Try.func5, Try.ntmps5
  go_wp2_with fail
  refine (HF.out _ H1.out.pl).mono ?_
  rintro e w2 ⟨rfl, hb2⟩
  have H2 := Lib.hid (H1.out.next hb2)
  clear hb2 H1
  obtain ⟨k0, k1, m0, m1, n0, n1, _, _, _⟩ := H2.out
  go_wp2_with fail
  refine (C19.out _ H2.out.pl).mono ?_
  rintro e w3 ⟨⟨B, d, rfl, hd⟩, hb3⟩
  have H3 := Lib.hid (H2.out.next hb3)
  clear hb3 H2 k0 k1 m0 m1 n0 n1
  obtain ⟨k0, k1, m0, m1, n0, n1, _, _, _⟩ := H3.out
  go_wp2_with fail
  refine (C20.out _ H3.out.pl).mono ?_
  rintro e w4 ⟨rfl, hb4⟩
  have H4 := Lib.hid (H3.out.next hb4)
  clear hb4 H3 k0 k1 m0 m1 n0 n1
  obtain ⟨k0, k1, m0, m1, n0, n1, _, _, hz2⟩ := H4.out
  have hz1 : w.heap.size + 1 < w4.heap.size := by omega
  have hz0 : w.heap.size < w4.heap.size := by omega
  go_upto_region 5 with (fail)
  go_cut [11, 12] (fun s11 s12 wx => s11 = .bool bk ∧ s12 = .int .i64 0 ∧ G3st w wx w.heap.size A c A2 c2 p ⟨(k : Int), lb⟩ n)
  case first =>
    have hbq : Below w4.heap.size w4 w4.drew := (Below.refl _ _).drew
    first
      | (go_region_held3 (fun w' => w'.cell? ⟨w.heap.size, 0, none⟩ = some (.slice A p.nodes.length c) ∧ w'.cell? ⟨w.heap.size, 1, none⟩ = some (.slice A2 p.rails.length c2) ∧ w'.cell? ⟨w.heap.size + 1, 0, none⟩ = some (.int .i64 (k : Int)) ∧ w'.cell? ⟨w.heap.size + 1, 1, none⟩ = some (.bool lb) ∧ w'.cell? ⟨w.heap.size + 1 + 1, 0, none⟩ = some (.int .i64 n.rail) ∧ w'.cell? ⟨w.heap.size + 1 + 1, 1, none⟩ = some (.bool n.last))
          (exact ⟨(hbq.cell (p := ⟨w.heap.size, 0, none⟩) hz0).trans k0, (hbq.cell (p := ⟨w.heap.size, 1, none⟩) hz0).trans k1, (hbq.cell (p := ⟨w.heap.size + 1, 0, none⟩) hz1).trans m0, (hbq.cell (p := ⟨w.heap.size + 1, 1, none⟩) hz1).trans m1, (hbq.cell (p := ⟨w.heap.size + 1 + 1, 0, none⟩) hz2).trans n0, (hbq.cell (p := ⟨w.heap.size + 1 + 1, 1, none⟩) hz2).trans n1⟩)
          ((first
            | (go_at_call 26; refine (Opposite_any _ _ _).mono ?_; rintro e w5 ⟨rfl, hb5⟩; replace hbq := hbq.trans (hb5.mono hbq.size))
            | (go_at_call 20; refine (C20b.out _ ((H4.out.pl.below hbq).more hbq.size)).mono ?_; rintro e w6 ⟨rfl, hb6⟩; replace hbq := hbq.trans (hb6.mono hbq.size)))))
      | fail "held3"
    all_goals
      go_wp2_with fail
      go_meet
      exact ⟨rfl, rfl, H4.out.next hbq⟩
  case rest =>
  obtain ⟨rfl, rfl, h5⟩ := hcut
  have H5 := Lib.hid h5
  clear h5 H4 k0 k1 m0 m1 n0 n1 hz0 hz1 hz2
  obtain ⟨k0, k1, m0, m1, n0, n1, hpl, _, hz2⟩ := H5.out
  have hrl := HKK.out
  have hil := HI.out
  obtain ⟨bR, oR, AR, cR, rfl, hbR, _, _, _, q0, q1, _, _, _⟩ := hpl.rail hrl
  obtain ⟨bN, oN, AN, cN, rfl, hbN, _, _, _, _, _, z2, _, _⟩ := hpl.node hil
  rw [HKD.out] at z2
  have hrc := hpl.rc; have hrm := hpl.rm; have hnc := hpl.nc; have hnm := hpl.nm
  have j0 : (0 : Int) ≤ (k : Int) := by omega
  have j1 : (k : Int) < (p.rails.length : Int) := by omega
  have j2 : (0 : Int) ≤ (i : Int) := by omega
  have j3 : (i : Int) < (p.nodes.length : Int) := by omega
  clear hpl
  clear HF C19 C20 C20b
  simp only at m0 m1
  go_upto_if 70 with (fail)
  go_cut [13] (fun s13 wx => s13 = .int .i64 (i : Int) ∧ wx = wc)
  case first =>
    cases lb
    · have hx := HND.out
      simp only [Bool.false_eq_true, if_false] at hx
      rw [hx] at q1 ⊢
      go_wp2
      go_meet
      exact ⟨rfl, rfl⟩
    · have hx := HND.out
      simp only [if_true] at hx
      rw [hx] at q0
      go_wp2
      go_meet
      exact ⟨rfl, rfl⟩
  case rest =>
  obtain ⟨rfl, hw⟩ := hcut
  subst hw
  clear q0 q1
  go_upto_region 12 with (fail)
  go_cut [90] (fun s90 wx => s90 = .bool false ∧ wx = wc)
  case first =>
    by_cases h4 : 1 < L
    · have h5 := HL3.out h4
      have e1 : decide (1 < (L : Int)) = true := by simp; omega
      have e2 : (kd != 4) = false := by simp [h5]
      have e3 : (!(kd == 4)) = false := by simp [h5]
      clear h5
      go_wp2
      go_meet
      exact ⟨rfl, rfl⟩
    · have e1 : decide (1 < (L : Int)) = false := by simp; omega
      have e0 : (L : Int) ≤ 1 := by omega
      go_wp2
      go_meet
      exact ⟨rfl, rfl⟩
  case rest =>
  obtain ⟨rfl, hw⟩ := hcut
  subst hw
  cases is
  · go_wp2_with fail
    refine (HK.out _).mono ?_
    rintro e w6 ⟨rfl, hb6⟩
    have H6 := Lib.hid (H5.out.next hb6)
    clear hb6
    go_wp2
    go_ret
    exact ⟨rfl, H6.out.be⟩
  by_cases h5 : kd = 5
  · have e1 : (kd == 5) = true := by simp [h5]
    clear h5
    go_wp2_with fail
    refine (HK.out _).mono ?_
    rintro e w6 ⟨rfl, hb6⟩
    have H6 := Lib.hid (H5.out.next hb6)
    clear hb6
    go_wp2
    go_ret
    exact ⟨rfl, H6.out.be⟩
  have C21c := Lib.hid (C21b.out rfl h5)
  have HBK := Lib.hid (HOP.out rfl h5)
  have g1 : (kd == 5) = false := by simp [h5]
  clear h5 HOP
  go_wp2_with fail
  refine (C21.out _ H5.out.pl).mono ?_
  rintro e w6 ⟨rfl, hb6⟩
  have H6 := Lib.hid (H5.out.next hb6)
  clear hb6 H5 k0 k1 m0 m1 n0 n1 z2
  have H7 := Lib.hid (H6.out.next ((Below.refl _ w6).alloc (Nat.le_refl _) (.cells #[.int .i64 X, .int .i64 Y] 48)))
  obtain ⟨x0, x1, _, _⟩ := row2 (heap_alloc_new w6 (.cells #[.int .i64 X, .int .i64 Y] 48))
  obtain ⟨k0, k1, m0, m1, n0, n1, _, _, hz2⟩ := H7.out
  go_upto_region 17 with (fail)
  have hz15 : w6.heap.size < (w6.alloc (.cells #[.int .i64 X, .int .i64 Y] 48)).heap.size := by simp
  have hbk := HBK.out
  subst hbk
  clear g1 C21 C21b H6 hbR hbN
  generalize w6.alloc (.cells #[.int .i64 X, .int .i64 Y] 48) = w8 at *
  generalize w6.heap.size = K15 at *
  have hz1 : w.heap.size + 1 < w8.heap.size := by omega
  have hz0 : w.heap.size < w8.heap.size := by omega
  go_cut [17, 18] (fun s17 s18 wx => ∃ K, s17 = .pointer (some ⟨K, 0, none⟩) ∧ s18 = .int .i64 Er ∧ wx.cell? ⟨K, 0, none⟩ = some (.int .i64 X) ∧ wx.cell? ⟨K, 1, none⟩ = some (.int .i64 Y) ∧ wx.cell? ⟨K15, 0, none⟩ = some (.int .i64 X) ∧ wx.cell? ⟨K15, 1, none⟩ = some (.int .i64 Y) ∧ Below w.heap.size w wx)
  case first =>
    have hbw : Below w8.heap.size w8 w8.drew := (Below.refl _ _).drew
    first
      | (go_region_held3 (fun w' => w'.cell? ⟨w.heap.size, 0, none⟩ = some (.slice (some ⟨bN, oN, none⟩) p.nodes.length c) ∧ w'.cell? ⟨w.heap.size, 1, none⟩ = some (.slice (some ⟨bR, oR, none⟩) p.rails.length c2) ∧ w'.cell? ⟨w.heap.size + 1, 0, none⟩ = some (.int .i64 (k : Int)) ∧ w'.cell? ⟨w.heap.size + 1, 1, none⟩ = some (.bool lb) ∧ w'.cell? ⟨w.heap.size + 1 + 1, 0, none⟩ = some (.int .i64 n.rail) ∧ w'.cell? ⟨w.heap.size + 1 + 1, 1, none⟩ = some (.bool n.last))
          (first
            | exact ⟨(hbw.cell (p := ⟨w.heap.size, 0, none⟩) hz0).trans k0, (hbw.cell (p := ⟨w.heap.size, 1, none⟩) hz0).trans k1, (hbw.cell (p := ⟨w.heap.size + 1, 0, none⟩) hz1).trans m0, (hbw.cell (p := ⟨w.heap.size + 1, 1, none⟩) hz1).trans m1, (hbw.cell (p := ⟨w.heap.size + 1 + 1, 0, none⟩) hz2).trans n0, (hbw.cell (p := ⟨w.heap.size + 1 + 1, 1, none⟩) hz2).trans n1⟩
            | exact ⟨((hbw.alloc hbw.size _).cell (p := ⟨w.heap.size, 0, none⟩) hz0).trans k0, ((hbw.alloc hbw.size _).cell (p := ⟨w.heap.size, 1, none⟩) hz0).trans k1, ((hbw.alloc hbw.size _).cell (p := ⟨w.heap.size + 1, 0, none⟩) hz1).trans m0, ((hbw.alloc hbw.size _).cell (p := ⟨w.heap.size + 1, 1, none⟩) hz1).trans m1, ((hbw.alloc hbw.size _).cell (p := ⟨w.heap.size + 1 + 1, 0, none⟩) hz2).trans n0, ((hbw.alloc hbw.size _).cell (p := ⟨w.heap.size + 1 + 1, 1, none⟩) hz2).trans n1⟩
            | exact ⟨(((hbw.setCell (p := ⟨_, 0, none⟩) hzK _).setCell (p := ⟨_, 1, none⟩) hzK _).cell (p := ⟨w.heap.size, 0, none⟩) hz0).trans k0, (((hbw.setCell (p := ⟨_, 0, none⟩) hzK _).setCell (p := ⟨_, 1, none⟩) hzK _).cell (p := ⟨w.heap.size, 1, none⟩) hz0).trans k1, (((hbw.setCell (p := ⟨_, 0, none⟩) hzK _).setCell (p := ⟨_, 1, none⟩) hzK _).cell (p := ⟨w.heap.size + 1, 0, none⟩) hz1).trans m0, (((hbw.setCell (p := ⟨_, 0, none⟩) hzK _).setCell (p := ⟨_, 1, none⟩) hzK _).cell (p := ⟨w.heap.size + 1, 1, none⟩) hz1).trans m1, (((hbw.setCell (p := ⟨_, 0, none⟩) hzK _).setCell (p := ⟨_, 1, none⟩) hzK _).cell (p := ⟨w.heap.size + 1 + 1, 0, none⟩) hz2).trans n0, (((hbw.setCell (p := ⟨_, 0, none⟩) hzK _).setCell (p := ⟨_, 1, none⟩) hzK _).cell (p := ⟨w.heap.size + 1 + 1, 1, none⟩) hz2).trans n1⟩)
          ((first
            | (go_at_call 26; refine (Opposite_any _ _ _).mono ?_; rintro e w9 ⟨rfl, hb9⟩; (try (have hnk := (hb9.block _ (Array.getElem?_eq_some_iff.1 hnk).1).trans hnk; obtain ⟨e0, e1, e2, e3⟩ := row2 hnk)); replace hbw := hbw.trans (hb9.mono hbw.size); have hzb := hbw.size)
            | (go_at_call 26; refine (Opposite_any _ _ _).mono ?_; rintro e w9 ⟨rfl, hb9⟩; have hzK := hbw.size; have hnk := (hb9.block _ (by simp)).trans (heap_alloc_new _ _); obtain ⟨e0, e1, e2, e3⟩ := row2 hnk; replace hbw := (hbw.alloc hbw.size _).trans (hb9.mono (hbw.alloc hbw.size _).size); have hzb := hbw.size)
            | (go_at_call 21; have hpw := (H7.out.pl.below hbw).more hbw.size; (with_reducible refine (C21c.out _ hpw).mono ?_); rintro e w9 ⟨rfl, hb9⟩; (try (have hnk := (hb9.block _ (Array.getElem?_eq_some_iff.1 hnk).1).trans hnk; obtain ⟨e0, e1, e2, e3⟩ := row2 hnk)); replace hbw := hbw.trans (hb9.mono hbw.size); have hzb := hbw.size)
            | (go_at_call 21; have hpw := (H7.out.pl.below (hbw.alloc hbw.size (.cells #[.int .i64 0, .int .i64 0] 48))).more (hbw.alloc hbw.size (.cells #[.int .i64 0, .int .i64 0] 48)).size; (with_reducible refine (C21c.out _ hpw).mono ?_); rintro e w9 ⟨rfl, hb9⟩; have hzK := hbw.size; have hnk := (hb9.block _ (by simp)).trans (heap_alloc_new _ _); obtain ⟨e0, e1, e2, e3⟩ := row2 hnk; replace hbw := (hbw.alloc hbw.size _).trans (hb9.mono (hbw.alloc hbw.size _).size); have hzb := hbw.size))))
      | fail "held3"
    all_goals
      have v0 := (hbw.cell (p := ⟨K15, 0, none⟩) hz15).trans x0
      have v1 := (hbw.cell (p := ⟨K15, 1, none⟩) hz15).trans x1
      go_wp2_with fail
      go_meet
      first
        | exact ⟨_, rfl, rfl, cell_of_row _ _ 0 _ _ _ (heap_alloc_new w9 _), cell_of_row _ _ 1 _ _ _ (heap_alloc_new w9 _), cell_keep1 v0 (Nat.lt_of_lt_of_le hz15 hbw.size), cell_keep1 v1 (Nat.lt_of_lt_of_le hz15 hbw.size), H7.out.be.trans ((hbw.alloc hbw.size _).mono H7.out.be.size)⟩
        | exact ⟨_, rfl, rfl, (set2 e0 e1).1, (set2 e0 e1).2, (((hbw.setCell (p := ⟨_, 0, none⟩) hzK _).setCell (p := ⟨_, 1, none⟩) hzK _).cell (p := ⟨K15, 0, none⟩) hz15).trans x0, (((hbw.setCell (p := ⟨_, 0, none⟩) hzK _).setCell (p := ⟨_, 1, none⟩) hzK _).cell (p := ⟨K15, 1, none⟩) hz15).trans x1, H7.out.be.trans (((hbw.setCell (p := ⟨_, 0, none⟩) hzK _).setCell (p := ⟨_, 1, none⟩) hzK _).mono H7.out.be.size)⟩
  case rest =>
  obtain ⟨K, rfl, rfl, y0, y1, v0, v1, hbe⟩ := hcut
  clear k0 k1 m0 m1 n0 n1 x0 x1
  go_wp2_with fail
  refine (HK.out _).mono ?_
  rintro e w10 ⟨rfl, hb10⟩
  have HB10 := Lib.hid (hbe.trans (hb10.mono hbe.size))
  clear hb10 hbe
  go_wp2
  go_ret
  exact ⟨rfl, HB10.out⟩

theorem TrackBack_of (A A2 : Option Addr) (c c2 : Nat) (p : Pl) (m n : E) (w : World) (hP : PlAt w w.heap.size A c A2 c2 p)
    (hV : ∃ v : Bool, (v = true ↔ Vld p) ∧ ∀ w, PlAt w w.heap.size A c A2 c2 p → Calls Try.prog 11 #[.agg #[.slice A p.nodes.length c, .slice A2 p.rails.length c2]] w fun e w' => e = .returned (.bool v) ∧ Below w.heap.size w w')
    (hK : ∀ w, Calls Try.prog 10 #[] w fun e w' => e = .returned (.bool true) ∧ Below w.heap.size w w') :
    Calls Try.prog 5 #[.agg #[.slice A p.nodes.length c, .slice A2 p.rails.length c2], .agg #[.int .i64 m.rail, .bool m.last], .agg #[.int .i64 n.rail, .bool n.last]] w fun e w' => e = .returned (.bool true) ∧ Below w.heap.size w w' := by
  obtain ⟨v, hv, hV⟩ := hV
  have hF := fun w hP => fine_of A A2 c c2 p m n w hP v hV
  cases hf : fineB p v m n
  · rw [hf] at hF
    exact TrackBack_not A A2 c c2 p m n w hP hF hK
  · rw [hf] at hF
    simp only [fineB, Bool.and_eq_true] at hf
    obtain ⟨⟨⟨_, h1⟩, h2⟩, h3⟩ := hf
    obtain ⟨r, l⟩ := m
    have h4 := of_decide_eq_true h2
    obtain ⟨h5, h6⟩ : 0 ≤ r ∧ r < p.rails.length := h4
    obtain ⟨k, rfl⟩ := Int.eq_ofNat_of_zero_le h5
    exact TrackBack_in A A2 c c2 p k l n w hP (hv.1 h1) (by omega) h3 hF hK
end Go.Proofs.Ytcpanfpijljeaaa
