/- CurrentParts in general. -/
import Derived.Test.YtbnfnpakibkboaaGreatKT
import Derived.Test.YtbnfnpakibkboaaGreatKV
namespace Go.Proofs.YtbnfnpakibkboaaGreat
set_option linter.unusedVariables false
set_option linter.unusedSimpArgs false
open Go.RowKit

theorem RR.at_ {w : World} {base : Nat} {v : Value} {ll : List (List Int)} (h : RR w base v ll) : ∃ (A : Option Addr) (c : Nat), v = .slice A ll.length c ∧ ∀ i (hi : i < ll.length), ∃ (b o : Nat) (sc : Sc), A = some ⟨b, o, none⟩ ∧ b < w.heap.size ∧ w.cell? ⟨b, o + i, none⟩ = some (.slice sc.A sc.n sc.c) ∧ Own w base 3 1 fI sc.v ll[i] := by
  obtain ⟨ss, h1, h2, h3⟩ := h
  obtain ⟨A, c, hv, -⟩ := h1.form
  subst hv
  refine ⟨A, c, by rw [h2], fun i hi => ?_⟩
  have hi' : i < ss.length := by omega
  have hs := h1.sl fSc_len rfl
  obtain ⟨b, o, cs, e, hb, rfl, hc⟩ := hs.at_ hi'
  exact ⟨b, o, ss[i], e, hb, by have := hc 0 _ rfl; simp only [Nat.mul_one, Nat.add_zero] at this; exact this, h3 i ss[i] ll[i] (List.getElem?_eq_getElem hi') (List.getElem?_eq_getElem hi)⟩
set_option maxRecDepth 100000 in
set_option maxHeartbeats 4000000 in
theorem Parts_bad (Aw Af As At : Option Addr) (nw nf ns nt cw cf cs ct : Nat) (g : Gv) (s : Sv) (b0 : Bool) (w : World) (hg0 : gridB g = b0) (hbad : (b0 && stateB g s) = false)
    (hG : GAt w w.heap.size Aw nw Af nf g) (hS : SAt w w.heap.size As ns At nt s) :
    Calls Tryz.prog 16 #[.agg #[.int .i64 g.nodes, .slice Aw nw cw, .slice Af nf cf, .int .i64 g.least], .agg #[.slice As ns cs, .slice At nt ct]] w fun e w' => e = .returned (.tuple #[.slice none 0 0, .int .i64 2]) ∧ Below w.heap.size w w' := by
  have hb1 := ((Below.refl w.heap.size w).alloc (Nat.le_refl _) (.cells #[.int .i64 g.nodes, .slice Aw nw cw, .slice Af nf cf, .int .i64 g.least] 25)).alloc (by simp) (.cells #[.slice As ns cs, .slice At nt ct] 28)
  obtain ⟨q1, q2⟩ := rows2 w #[.int .i64 g.nodes, .slice Aw nw cw, .slice Af nf cf, .int .i64 g.least] #[.slice As ns cs, .slice At nt ct] 25 28
  have hszW : ((w.alloc (.cells #[.int .i64 g.nodes, .slice Aw nw cw, .slice Af nf cf, .int .i64 g.least] 25)).alloc (.cells #[.slice As ns cs, .slice At nt ct] 28)).heap.size = w.heap.size + 2 := by simp
  obtain ⟨W1, hW1⟩ : ∃ z, (w.alloc (.cells #[.int .i64 g.nodes, .slice Aw nw cw, .slice Af nf cf, .int .i64 g.least] 25)).alloc (.cells #[.slice As ns cs, .slice At nt ct] 28) = z := ⟨_, rfl⟩
  rw [hW1] at hb1 q1 q2 hszW
  have HB1 := Lib.hid hb1
  have HQ := Lib.hid (show ∀ wx, Below W1.heap.size W1 wx → Rw wx w.heap.size 25 #[.int .i64 g.nodes, .slice Aw nw cw, .slice Af nf cf, .int .i64 g.least] ∧ Rw wx (w.heap.size + 1) 28 #[.slice As ns cs, .slice At nt ct] from fun wx h => ⟨q1.below h (by omega), q2.below h (by omega)⟩)
  have e0 := q1.cell 0; have e1 := q1.cell 1; have e2 := q1.cell 2; have e3 := q1.cell 3; have f0 := q2.cell 0; have f1 := q2.cell 1
  have HX0 := Lib.hid (Below.refl W1.heap.size W1)
  have HC0 := Lib.hid (show ∀ wx, Below W1.heap.size W1 wx → Calls Tryz.prog 47 #[.agg #[.int .i64 g.nodes, .slice Aw nw cw, .slice Af nf cf, .int .i64 g.least]] wx fun e w' => e = .returned (.bool b0) ∧ Below wx.heap.size wx w' from fun wx h => by
    have := gridRight_any Aw Af nw nf cw cf g wx ((hG.below (HB1.out.trans (h.mono HB1.out.size))).more (by have := h.size; omega)); rwa [hg0] at this)
  have HC1 := Lib.hid (show ∀ wx, Below W1.heap.size W1 wx → Calls Tryz.prog 48 #[.agg #[.int .i64 g.nodes, .slice Aw nw cw, .slice Af nf cf, .int .i64 g.least], .agg #[.slice As ns cs, .slice At nt ct]] wx fun e w' => e = .returned (.bool (stateB g s)) ∧ Below wx.heap.size wx w' from fun wx h =>
    stateRight_any Aw Af As At nw nf ns nt cw cf cs ct g s wx ((hG.below (HB1.out.trans (h.mono HB1.out.size))).more (by have := h.size; omega)) ((hS.below (HB1.out.trans (h.mono HB1.out.size))).more (by have := h.size; omega)))
  have HBD := Lib.hid hbad
  clear hb1 q1 q2 hszW hG hS hbad hg0
  go_enter Tryz.func16, Tryz.ntmps16
  go_wp2_with fail
  (with_reducible refine (HC0.out _ HX0.out).mono ?_)
  rintro e wx1 ⟨rfl, hb⟩
  have HX1 := Lib.hid (HX0.out.trans (hb.mono HX0.out.size))
  clear hb e0 e1 e2 e3 f0 f1
  obtain ⟨q1, q2⟩ := HQ.out _ HX1.out
  have e0 := q1.cell 0; have e1 := q1.cell 1; have e2 := q1.cell 2; have e3 := q1.cell 3; have f0 := q2.cell 0; have f1 := q2.cell 1
  clear q1 q2
  cases b0 with
  | false =>
    go_wp2
    go_ret2
    exact ⟨by first | rfl | trivial, HB1.out.trans (HX1.out.mono HB1.out.size)⟩
  | true =>
    have hsb : stateB g s = false := by have := HBD.out; simpa using this
    rw [hsb] at HC1
    clear hsb
    go_wp2_with fail
    (with_reducible refine (HC1.out _ HX1.out).mono ?_)
    rintro e wx2 ⟨rfl, hb⟩
    have HX2 := Lib.hid (HX1.out.trans (hb.mono HX1.out.size))
    clear hb e0 e1 e2 e3 f0 f1
    obtain ⟨q1, q2⟩ := HQ.out _ HX2.out
    have e0 := q1.cell 0; have e1 := q1.cell 1; have e2 := q1.cell 2; have e3 := q1.cell 3; have f0 := q2.cell 0; have f1 := q2.cell 1
    clear q1 q2
    go_wp2
    go_ret2
    exact ⟨by first | rfl | trivial, HB1.out.trans (HX2.out.mono HB1.out.size)⟩
set_option maxRecDepth 100000 in
set_option maxHeartbeats 8000000 in
theorem CurrentParts_any (Aw Af As At : Option Addr) (nw nf ns nt cw cf cs ct : Nat) (g : Gv) (s : Sv) (w : World) (hwl : g.wires.length = nw) (hws : Sl w w.heap.size 4 CW Aw g.wires) (hfl : g.feeds.length = nf) (hfs : Sl w w.heap.size 4 CF Af g.feeds)
    (hsl : s.feeds.length = ns) (hss : Sl w w.heap.size 1 CB As s.feeds) (htl : s.wires.length = nt) (hts : Sl w w.heap.size 1 CB At s.wires) :
    Calls Tryz.prog 3 #[.agg #[.int .i64 g.nodes, .slice Aw nw cw, .slice Af nf cf, .int .i64 g.least], .agg #[.slice As ns cs, .slice At nt ct]] w fun e w' => e = .returned (.bool true) ∧ Below w.heap.size w w' := by
  have hb1 := ((Below.refl w.heap.size w).alloc (Nat.le_refl _) (.cells #[.int .i64 g.nodes, .slice Aw nw cw, .slice Af nf cf, .int .i64 g.least] 25)).alloc (by simp) (.cells #[.slice As ns cs, .slice At nt ct] 28)
  obtain ⟨q1, q2⟩ := rows2 w #[.int .i64 g.nodes, .slice Aw nw cw, .slice Af nf cf, .int .i64 g.least] #[.slice As ns cs, .slice At nt ct] 25 28
  have hszW : ((w.alloc (.cells #[.int .i64 g.nodes, .slice Aw nw cw, .slice Af nf cf, .int .i64 g.least] 25)).alloc (.cells #[.slice As ns cs, .slice At nt ct] 28)).heap.size = w.heap.size + 2 := by simp
  obtain ⟨W1, hW1⟩ : ∃ z, (w.alloc (.cells #[.int .i64 g.nodes, .slice Aw nw cw, .slice Af nf cf, .int .i64 g.least] 25)).alloc (.cells #[.slice As ns cs, .slice At nt ct] 28) = z := ⟨_, rfl⟩
  rw [hW1] at hb1 q1 q2 hszW
  have HB1 := Lib.hid hb1
  have HQ := Lib.hid (show ∀ wx, Below W1.heap.size W1 wx → Rw wx w.heap.size 25 #[.int .i64 g.nodes, .slice Aw nw cw, .slice Af nf cf, .int .i64 g.least] ∧ Rw wx (w.heap.size + 1) 28 #[.slice As ns cs, .slice At nt ct] from fun wx h => ⟨q1.below h (by omega), q2.below h (by omega)⟩)
  have e0 := q1.cell 0; have e1 := q1.cell 1; have e2 := q1.cell 2; have e3 := q1.cell 3; have f0 := q2.cell 0; have f1 := q2.cell 1
  have HX0 := Lib.hid (Below.refl W1.heap.size W1)
  have HFW := Lib.hid (show ∀ wx, Calls Tryz.prog 14 #[.agg #[.int .i64 g.nodes, .slice Aw nw cw, .slice Af nf cf, .int .i64 g.least], .agg #[.slice As ns cs, .slice At nt ct], .slice none 0 0] wx fun e w' => e = .returned (.bool (fewB nw nf ns nt 0 g.nodes)) ∧ Below wx.heap.size wx w' from fun wx => few_any Aw Af As At none nw nf ns nt 0 cw cf cs ct 0 g.nodes g.least wx)
  have HKN := Lib.hid (show ∀ wx, Calls Tryz.prog 15 #[] wx fun e w' => e = .returned (.bool true) ∧ Below wx.heap.size wx w' from known_any)
  cases hfew : fewB nw nf ns nt 0 g.nodes with
  | false =>
    rw [hfew] at HFW
    clear hb1 q1 q2 hszW hws hfs hss hts hwl hfl hsl htl hfew
    go_enter Tryz.func3, Tryz.ntmps3
    go_wp2_with fail
    (with_reducible refine (HFW.out _).mono ?_)
    rintro e wx1 ⟨rfl, hb⟩
    have HX1 := Lib.hid (HX0.out.trans (hb.mono HX0.out.size))
    clear hb e0 e1 e2 e3 f0 f1
    obtain ⟨q1, q2⟩ := HQ.out _ HX1.out
    have e0 := q1.cell 0; have e1 := q1.cell 1; have e2 := q1.cell 2; have e3 := q1.cell 3; have f0 := q2.cell 0; have f1 := q2.cell 1
    clear q1 q2
    go_wp2_with fail
    (with_reducible refine (HKN.out _).mono ?_)
    rintro e wx2 ⟨rfl, hb⟩
    have HX2 := Lib.hid (HX1.out.trans (hb.mono HX1.out.size))
    clear hb e0 e1 e2 e3 f0 f1
    obtain ⟨q1, q2⟩ := HQ.out _ HX2.out
    have e0 := q1.cell 0; have e1 := q1.cell 1; have e2 := q1.cell 2; have e3 := q1.cell 3; have f0 := q2.cell 0; have f1 := q2.cell 1
    clear q1 q2
    go_wp2
    go_ret
    exact ⟨by first | rfl | trivial, HB1.out.trans (HX2.out.mono HB1.out.size)⟩
  | true =>
    rw [hfew] at HFW
    have hfew' := hfew
    unfold fewB at hfew'
    simp only [Bool.and_eq_true, decide_eq_true_iff] at hfew'
    have hG : GAt w w.heap.size Aw nw Af nf g := ⟨hwl, hws, by omega, hfl, hfs, by omega⟩
    have hS : SAt w w.heap.size As ns At nt s := ⟨hsl, hss, by omega, htl, hts, by omega⟩
    have HGA := Lib.hid (show ∀ wx, Below W1.heap.size W1 wx → GAt wx wx.heap.size Aw nw Af nf g from fun wx h => (hG.below (HB1.out.trans (h.mono HB1.out.size))).more (by have := h.size; omega))
    have HSA := Lib.hid (show ∀ wx, Below W1.heap.size W1 wx → SAt wx wx.heap.size As ns At nt s from fun wx h => (hS.below (HB1.out.trans (h.mono HB1.out.size))).more (by have := h.size; omega))
    clear hb1 q1 q2 hszW hws hfs hss hts hwl hfl hsl htl hfew hfew' hG hS
    obtain ⟨gb, hgb⟩ : ∃ b, gridB g = b := ⟨_, rfl⟩
    obtain ⟨sb, hsb⟩ : ∃ b, stateB g s = b := ⟨_, rfl⟩
    have HGR := Lib.hid (show ∀ wx, Below W1.heap.size W1 wx → Calls Tryz.prog 17 #[.agg #[.int .i64 g.nodes, .slice Aw nw cw, .slice Af nf cf, .int .i64 g.least]] wx fun e w' => e = .returned (.bool gb) ∧ Below wx.heap.size wx w' from fun wx h => by have := rGrid_any Aw Af nw nf cw cf g wx (HGA.out wx h); rwa [hgb] at this)
    have HCK := Lib.hid (show ∀ wx, Below W1.heap.size W1 wx → Calls Tryz.prog 18 #[.agg #[.int .i64 g.nodes, .slice Aw nw cw, .slice Af nf cf, .int .i64 g.least]] wx fun e w' => e = .returned (.int .i64 (if gb then 0 else 2)) ∧ Below wx.heap.size wx w' from fun wx h => by have := check_any Aw Af nw nf cw cf g wx (HGA.out wx h); rwa [hgb] at this)
    have HST := Lib.hid (show ∀ wx, Below W1.heap.size W1 wx → Calls Tryz.prog 19 #[.agg #[.int .i64 g.nodes, .slice Aw nw cw, .slice Af nf cf, .int .i64 g.least], .agg #[.slice As ns cs, .slice At nt ct]] wx fun e w' => e = .returned (.bool sb) ∧ Below wx.heap.size wx w' from fun wx h => by have := rState_any Aw Af As At nw nf ns nt cw cf cs ct g s wx (HGA.out wx h) (HSA.out wx h); rwa [hsb] at this)
    have HPB := Lib.hid (show (gb && sb) = false → ∀ wx, Below W1.heap.size W1 wx → Calls Tryz.prog 16 #[.agg #[.int .i64 g.nodes, .slice Aw nw cw, .slice Af nf cf, .int .i64 g.least], .agg #[.slice As ns cs, .slice At nt ct]] wx fun e w' => e = .returned (.tuple #[.slice none 0 0, .int .i64 2]) ∧ Below wx.heap.size wx w' from fun hh wx h => Parts_bad Aw Af As At nw nf ns nt cw cf cs ct g s gb wx hgb (by rw [hsb]; exact hh) (HGA.out wx h) (HSA.out wx h))
    cases gb with
    | false =>
      replace HPB := Lib.hid (HPB.out rfl)
      rw [if_neg (by decide)] at HCK
      clear hgb hsb HST
      go_enter Tryz.func3, Tryz.ntmps3
      go_wp2_with fail
      (with_reducible refine (HFW.out _).mono ?_)
      rintro e wx1 ⟨rfl, hb⟩
      have HX1 := Lib.hid (HX0.out.trans (hb.mono HX0.out.size))
      clear hb e0 e1 e2 e3 f0 f1
      obtain ⟨q1, q2⟩ := HQ.out _ HX1.out
      have e0 := q1.cell 0; have e1 := q1.cell 1; have e2 := q1.cell 2; have e3 := q1.cell 3; have f0 := q2.cell 0; have f1 := q2.cell 1
      clear q1 q2
      go_wp2_with fail
      (with_reducible refine (HPB.out _ HX1.out).mono ?_)
      rintro e wx2 ⟨rfl, hb⟩
      have HX2 := Lib.hid (HX1.out.trans (hb.mono HX1.out.size))
      clear hb e0 e1 e2 e3 f0 f1
      obtain ⟨q1, q2⟩ := HQ.out _ HX2.out
      have e0 := q1.cell 0; have e1 := q1.cell 1; have e2 := q1.cell 2; have e3 := q1.cell 3; have f0 := q2.cell 0; have f1 := q2.cell 1
      clear q1 q2
      go_wp2_with fail
      (with_reducible refine (HGR.out _ HX2.out).mono ?_)
      rintro e wx3 ⟨rfl, hb⟩
      have HX3 := Lib.hid (HX2.out.trans (hb.mono HX2.out.size))
      clear hb e0 e1 e2 e3 f0 f1
      obtain ⟨q1, q2⟩ := HQ.out _ HX3.out
      have e0 := q1.cell 0; have e1 := q1.cell 1; have e2 := q1.cell 2; have e3 := q1.cell 3; have f0 := q2.cell 0; have f1 := q2.cell 1
      clear q1 q2
      go_wp2_with fail
      (with_reducible refine (HCK.out _ HX3.out).mono ?_)
      rintro e wx4 ⟨rfl, hb⟩
      have HX4 := Lib.hid (HX3.out.trans (hb.mono HX3.out.size))
      clear hb e0 e1 e2 e3 f0 f1
      obtain ⟨q1, q2⟩ := HQ.out _ HX4.out
      have e0 := q1.cell 0; have e1 := q1.cell 1; have e2 := q1.cell 2; have e3 := q1.cell 3; have f0 := q2.cell 0; have f1 := q2.cell 1
      clear q1 q2
      go_wp2_with fail
      (with_reducible refine (HKN.out _).mono ?_)
      rintro e wx5 ⟨rfl, hb⟩
      have HX5 := Lib.hid (HX4.out.trans (hb.mono HX4.out.size))
      clear hb e0 e1 e2 e3 f0 f1
      obtain ⟨q1, q2⟩ := HQ.out _ HX5.out
      have e0 := q1.cell 0; have e1 := q1.cell 1; have e2 := q1.cell 2; have e3 := q1.cell 3; have f0 := q2.cell 0; have f1 := q2.cell 1
      clear q1 q2
      go_wp2
      go_ret
      exact ⟨by first | rfl | trivial, HB1.out.trans (HX5.out.mono HB1.out.size)⟩
    | true =>
      rw [if_pos rfl] at HCK
      cases sb with
      | false =>
        replace HPB := Lib.hid (HPB.out rfl)
        clear hgb hsb
        go_enter Tryz.func3, Tryz.ntmps3
        go_wp2_with fail
        (with_reducible refine (HFW.out _).mono ?_)
        rintro e wx1 ⟨rfl, hb⟩
        have HX1 := Lib.hid (HX0.out.trans (hb.mono HX0.out.size))
        clear hb e0 e1 e2 e3 f0 f1
        obtain ⟨q1, q2⟩ := HQ.out _ HX1.out
        have e0 := q1.cell 0; have e1 := q1.cell 1; have e2 := q1.cell 2; have e3 := q1.cell 3; have f0 := q2.cell 0; have f1 := q2.cell 1
        clear q1 q2
        go_wp2_with fail
        (with_reducible refine (HPB.out _ HX1.out).mono ?_)
        rintro e wx2 ⟨rfl, hb⟩
        have HX2 := Lib.hid (HX1.out.trans (hb.mono HX1.out.size))
        clear hb e0 e1 e2 e3 f0 f1
        obtain ⟨q1, q2⟩ := HQ.out _ HX2.out
        have e0 := q1.cell 0; have e1 := q1.cell 1; have e2 := q1.cell 2; have e3 := q1.cell 3; have f0 := q2.cell 0; have f1 := q2.cell 1
        clear q1 q2
        go_wp2_with fail
        (with_reducible refine (HGR.out _ HX2.out).mono ?_)
        rintro e wx3 ⟨rfl, hb⟩
        have HX3 := Lib.hid (HX2.out.trans (hb.mono HX2.out.size))
        clear hb e0 e1 e2 e3 f0 f1
        obtain ⟨q1, q2⟩ := HQ.out _ HX3.out
        have e0 := q1.cell 0; have e1 := q1.cell 1; have e2 := q1.cell 2; have e3 := q1.cell 3; have f0 := q2.cell 0; have f1 := q2.cell 1
        clear q1 q2
        go_wp2_with fail
        (with_reducible refine (HCK.out _ HX3.out).mono ?_)
        rintro e wx4 ⟨rfl, hb⟩
        have HX4 := Lib.hid (HX3.out.trans (hb.mono HX3.out.size))
        clear hb e0 e1 e2 e3 f0 f1
        obtain ⟨q1, q2⟩ := HQ.out _ HX4.out
        have e0 := q1.cell 0; have e1 := q1.cell 1; have e2 := q1.cell 2; have e3 := q1.cell 3; have f0 := q2.cell 0; have f1 := q2.cell 1
        clear q1 q2
        go_wp2_with fail
        (with_reducible refine (HST.out _ HX4.out).mono ?_)
        rintro e wx5 ⟨rfl, hb⟩
        have HX5 := Lib.hid (HX4.out.trans (hb.mono HX4.out.size))
        clear hb e0 e1 e2 e3 f0 f1
        obtain ⟨q1, q2⟩ := HQ.out _ HX5.out
        have e0 := q1.cell 0; have e1 := q1.cell 1; have e2 := q1.cell 2; have e3 := q1.cell 3; have f0 := q2.cell 0; have f1 := q2.cell 1
        clear q1 q2
        go_wp2_with fail
        (with_reducible refine (HKN.out _).mono ?_)
        rintro e wx6 ⟨rfl, hb⟩
        have HX6 := Lib.hid (HX5.out.trans (hb.mono HX5.out.size))
        clear hb e0 e1 e2 e3 f0 f1
        obtain ⟨q1, q2⟩ := HQ.out _ HX6.out
        have e0 := q1.cell 0; have e1 := q1.cell 1; have e2 := q1.cell 2; have e3 := q1.cell 3; have f0 := q2.cell 0; have f1 := q2.cell 1
        clear q1 q2
        go_wp2
        go_ret
        exact ⟨by first | rfl | trivial, HB1.out.trans (HX6.out.mono HB1.out.size)⟩
      | true =>
        obtain ⟨N, hN⟩ : ∃ N : Nat, g.nodes = (N : Int) := ⟨g.nodes.toNat, by have h := hgb; unfold gridB at h; simp only [Bool.and_eq_true] at h; have := inB_iff.1 h.1; omega⟩
        have hg1 := hgb
        unfold gridB at hg1
        simp only [Bool.and_eq_true] at hg1
        have hn := inB_iff.1 hg1.1
        have hwb := hg1.2.2.1
        rw [hN, Int.toNat_natCast] at hwb
        have hs1 := hsb
        unfold stateB at hs1
        simp only [Bool.and_eq_true, decide_eq_true_iff] at hs1
        have hnt : nt = nw := by have := hs1.2.1; have := (HGA.out _ HX0.out).wl; have := (HSA.out _ HX0.out).wl; omega
        obtain ⟨PL, hPL⟩ : ∃ p, (partsL (onP g.wires s.wires) N).map nI = p := ⟨_, rfl⟩
        have HPL := Lib.hid (show PL.length ≤ 40 ∧ ∀ l ∈ PL, l.length ≤ 40 from by
          rw [← hPL]
          refine ⟨by rw [List.length_map]; have := partsTo_len (onP g.wires s.wires) N N; rw [partsTo_all] at this; omega, fun l hl => ?_⟩
          obtain ⟨x, hx, rfl⟩ := List.mem_map.1 hl
          unfold partsL at hx
          obtain ⟨i, hi, rfl⟩ := List.mem_map.1 hx
          unfold nI partL
          rw [List.length_map]
          have := List.length_filter_le (fun k => labs (onP g.wires s.wires) N k == i) (List.range N)
          rw [List.length_range] at this; omega)
        have HPG := Lib.hid (show ∀ wx, Below W1.heap.size W1 wx → Calls Tryz.prog 16 #[.agg #[.int .i64 g.nodes, .slice Aw nw cw, .slice Af nf cf, .int .i64 g.least], .agg #[.slice As ns cs, .slice At nt ct]] wx fun e w' => (∃ v, e = .returned (.tuple #[v, .int .i64 0]) ∧ RR w' wx.heap.size v PL) ∧ Below wx.heap.size wx w' from fun wx h => by
          refine (Parts_good Aw Af As At nw nf ns nt cw cf cs ct N g s wx hN hgb hsb (HGA.out wx h) (HSA.out wx h)).mono ?_
          rintro e w' ⟨v, h1, h2, h3⟩
          rw [hPL] at h2; exact ⟨⟨v, h1, h2⟩, h3⟩)
        have HRP := Lib.hid (show ∀ wx, Below W1.heap.size W1 wx → Calls Tryz.prog 20 #[.agg #[.int .i64 g.nodes, .slice Aw nw cw, .slice Af nf cf, .int .i64 g.least], .agg #[.slice As ns cs, .slice At nt ct]] wx fun e w' => (∃ v, e = .returned v ∧ RR w' wx.heap.size v PL) ∧ Below wx.heap.size wx w' from fun wx h => by
          refine (rParts_any Aw Af As At nw nf ns nt cw cf cs ct N g s wx hN (by omega) (by omega) hwb (HGA.out wx h) (HSA.out wx h) hnt).mono ?_
          rintro e w' ⟨v, h1, h2, h3⟩
          rw [hPL] at h2; exact ⟨⟨v, h1, h2⟩, h3⟩)
        clear hgb hsb HPB hN hg1 hn hwb hs1 hnt hPL
        go_enter Tryz.func3, Tryz.ntmps3
        go_wp2_with fail
        (with_reducible refine (HFW.out _).mono ?_)
        rintro e wx1 ⟨rfl, hb⟩
        have HX1 := Lib.hid (HX0.out.trans (hb.mono HX0.out.size))
        clear hb e0 e1 e2 e3 f0 f1
        obtain ⟨q1, q2⟩ := HQ.out _ HX1.out
        have e0 := q1.cell 0; have e1 := q1.cell 1; have e2 := q1.cell 2; have e3 := q1.cell 3; have f0 := q2.cell 0; have f1 := q2.cell 1
        clear q1 q2
        go_wp2_with fail
        (with_reducible refine (HPG.out _ HX1.out).mono ?_)
        rintro e wx2 ⟨⟨v, rfl, hrr⟩, hb⟩
        have HX2 := Lib.hid (HX1.out.trans (hb.mono HX1.out.size))
        clear hb e0 e1 e2 e3 f0 f1
        obtain ⟨A1, c1, rfl, ha⟩ := hrr.at_
        have HRA := Lib.hid hrr
        clear ha hrr
        obtain ⟨q1, q2⟩ := HQ.out _ HX2.out
        have e0 := q1.cell 0; have e1 := q1.cell 1; have e2 := q1.cell 2; have e3 := q1.cell 3; have f0 := q2.cell 0; have f1 := q2.cell 1
        clear q1 q2
        go_wp2_with fail
        (with_reducible refine (HGR.out _ HX2.out).mono ?_)
        rintro e wx3 ⟨rfl, hb⟩
        have HX3 := Lib.hid (HX2.out.trans (hb.mono HX2.out.size))
        have HRA := Lib.hid (HRA.out.below hb)
        clear hb e0 e1 e2 e3 f0 f1
        obtain ⟨q1, q2⟩ := HQ.out _ HX3.out
        have e0 := q1.cell 0; have e1 := q1.cell 1; have e2 := q1.cell 2; have e3 := q1.cell 3; have f0 := q2.cell 0; have f1 := q2.cell 1
        clear q1 q2
        go_wp2_with fail
        (with_reducible refine (HCK.out _ HX3.out).mono ?_)
        rintro e wx4 ⟨rfl, hb⟩
        have HX4 := Lib.hid (HX3.out.trans (hb.mono HX3.out.size))
        have HRA := Lib.hid (HRA.out.below hb)
        clear hb e0 e1 e2 e3 f0 f1
        obtain ⟨q1, q2⟩ := HQ.out _ HX4.out
        have e0 := q1.cell 0; have e1 := q1.cell 1; have e2 := q1.cell 2; have e3 := q1.cell 3; have f0 := q2.cell 0; have f1 := q2.cell 1
        clear q1 q2
        go_wp2_with fail
        (with_reducible refine (HST.out _ HX4.out).mono ?_)
        rintro e wx5 ⟨rfl, hb⟩
        have HX5 := Lib.hid (HX4.out.trans (hb.mono HX4.out.size))
        have HRA := Lib.hid (HRA.out.below hb)
        clear hb e0 e1 e2 e3 f0 f1
        obtain ⟨q1, q2⟩ := HQ.out _ HX5.out
        have e0 := q1.cell 0; have e1 := q1.cell 1; have e2 := q1.cell 2; have e3 := q1.cell 3; have f0 := q2.cell 0; have f1 := q2.cell 1
        clear q1 q2
        go_wp2_with fail
        (with_reducible refine (HRP.out _ HX5.out).mono ?_)
        rintro e wx6 ⟨⟨v, rfl, hrr⟩, hb⟩
        have HX6 := Lib.hid (HX5.out.trans (hb.mono HX5.out.size))
        have HRA := Lib.hid (HRA.out.below hb)
        clear hb e0 e1 e2 e3 f0 f1
        obtain ⟨A2, c2, rfl, ha⟩ := hrr.at_
        have HRB := Lib.hid hrr
        clear ha hrr
        obtain ⟨q1, q2⟩ := HQ.out _ HX6.out
        have e0 := q1.cell 0; have e1 := q1.cell 1; have e2 := q1.cell 2; have e3 := q1.cell 3; have f0 := q2.cell 0; have f1 := q2.cell 1
        clear q1 q2
        obtain ⟨n, hn⟩ : ∃ n, PL.length = n := ⟨_, rfl⟩
        rw [hn]
        have HNN := Lib.hid hn
        have hne : ¬ (n : Int) ≠ (n : Int) := by simp
        clear hn
        go_wp2
        clear e0 e1 e2 e3 f0 f1
        obtain ⟨Wl, hWl⟩ : ∃ y, y = wx6 := ⟨_, rfl⟩
        rw [← hWl] at HRA HRB HX6 ⊢
        clear hWl
        go_loopw [8] (fun sl wr => ∃ i : Nat, i ≤ n ∧ sl = .int .i64 (i : Int) ∧ Below Wl.heap.size Wl wr) (fun sl _ => n - (intOf sl).toNat)
        case atStart => exact ⟨0, Nat.zero_le _, rfl, Below.refl _ _⟩
        case round =>
          obtain ⟨i, hi, rfl, hbr⟩ := hrel
          have HBR := Lib.hid hbr
          by_cases hin : i < n
          · have hii : (i : Int) < (n : Int) := by omega
            have hi0 : (0 : Int) ≤ (i : Int) := by omega
            have hi3 : (i : Int) + 1 ≤ 1000 := by have := HPL.out.1; have := HNN.out; omega
            have hil : i < PL.length := by have := HNN.out; omega
            have hra := HRA.out.below hbr; have hrb := HRB.out.below hbr
            obtain ⟨A', c', hA, ha⟩ := hra.at_
            obtain ⟨B', d', hB, hb⟩ := hrb.at_
            injection hA with hA1 hA2 hA3; injection hB with hB1 hB2 hB3
            obtain ⟨b, o, p, e1, hlt1, k1, ow1⟩ := ha i hil
            obtain ⟨b2, o2, q, e2, hlt2, k2, ow2⟩ := hb i hil
            rw [e1] at hA1; rw [e2] at hB1
            subst hA1; subst hB1
            have s1 := own_sl (f := fI) (size := 1) fI_len (ow1.below (Below.refl wr.heap.size wr).drew (Nat.le_refl _))
            have s2 := own_sl (f := fI) (size := 1) fI_len (ow2.below (Below.refl wr.heap.size wr).drew (Nat.le_refl _))
            have HEQ := Lib.hid (show Calls Tryz.prog 21 #[.slice p.A p.n p.c, .slice q.A q.n q.c] wr.drew fun e w' => e = .returned (.bool true) ∧ Below wr.drew.heap.size wr.drew w' from by
              have hl := HPL.out.2 PL[i] (List.getElem_mem hil)
              have := requal_any p.A q.A p.n q.n p.c q.c PL[i] PL[i] wr.drew s1.2.symm s2.2.symm (by rw [s1.2]; omega) (by rw [s2.2]; omega) s1.1 s2.1
              rwa [decide_eq_true rfl] at this)
            have HLT := Lib.hid (And.intro hlt1 hlt2); have HS0 := Lib.hid (And.intro k1 k2); have HIN := Lib.hid hin
            clear hra hrb ha hb e1 e2 hlt1 hlt2 k1 k2 ow1 ow2 s1 s2 hil hin hbr hi hA2 hA3 hB2 hB3
            go_upto_region 16 with (fail)
            have HS := Lib.hid (show (fun wx => wx.cell? ⟨b, o + i, none⟩ = some (.slice p.A p.n p.c) ∧ wx.cell? ⟨b2, o2 + i, none⟩ = some (.slice q.A q.n q.c)) wr.drew from HS0.out)
            refine wp_region_noPanic ?_
            refine wp_region_held_drew (S := fun wx => wx.cell? ⟨b, o + i, none⟩ = some (.slice p.A p.n p.c) ∧ wx.cell? ⟨b2, o2 + i, none⟩ = some (.slice q.A q.n q.c)) (by kernel_rfl) HS.out (fun _ => ?_)
            refine hTk (i := 0) (d := 73) (v := .slice (some ⟨b, o, none⟩) n c1) rfl rfl (Or.inl ⟨rfl, by rintro W' ⟨r0, r1⟩; go_simp⟩) HS.out ?_
            simp only [Act.put, sB, sZ, sS]
            refine hTk (i := 1) (d := 74) (v := .int .i64 (i : Int)) rfl rfl (Or.inl ⟨rfl, by rintro W' ⟨r0, r1⟩; go_simp⟩) HS.out ?_
            simp only [Act.put, sB, sZ, sS]
            refine hTk (i := 2) (d := 75) (v := .pointer (some ⟨b, o + i, none⟩)) rfl rfl (Or.inl ⟨rfl, by rintro W' ⟨r0, r1⟩; go_simp⟩) HS.out ?_
            simp only [Act.put, sB, sZ, sS]
            refine hTk (i := 3) (d := 76) (v := .slice p.A p.n p.c) rfl rfl (Or.inl ⟨rfl, by rintro W' ⟨r0, r1⟩; go_simp⟩) HS.out ?_
            simp only [Act.put, sB, sZ, sS]
            refine hTk (i := 4) (d := 77) (v := .slice (some ⟨b2, o2, none⟩) n c2) rfl rfl (Or.inl ⟨rfl, by rintro W' ⟨r0, r1⟩; go_simp⟩) HS.out ?_
            simp only [Act.put, sB, sZ, sS]
            refine hTk (i := 5) (d := 78) (v := .int .i64 (i : Int)) rfl rfl (Or.inl ⟨rfl, by rintro W' ⟨r0, r1⟩; go_simp⟩) HS.out ?_
            simp only [Act.put, sB, sZ, sS]
            refine hTk (i := 6) (d := 79) (v := .pointer (some ⟨b2, o2 + i, none⟩)) rfl rfl (Or.inl ⟨rfl, by rintro W' ⟨r0, r1⟩; go_simp⟩) HS.out ?_
            simp only [Act.put, sB, sZ, sS]
            refine hTk (i := 7) (d := 80) (v := .slice q.A q.n q.c) rfl rfl (Or.inl ⟨rfl, by rintro W' ⟨r0, r1⟩; go_simp⟩) HS.out ?_
            simp only [Act.put, sB, sZ, sS]
            refine wpAnyH_ready (rs := [8]) (by kernel_rfl) (by simp) ?_
            refine AllReadyH.cons rfl (fun K hK => ?_) AllReadyH.nil
            rw [if_pos (by rfl)]
            go_simp
            go_at_call 21
            (with_reducible refine (HEQ.out).mono ?_)
            rintro e wc0 ⟨rfl, hb4⟩
            have hbq := (show Below wr.heap.size wr wr.drew from (Below.refl _ _).drew).trans hb4
            have HS := Lib.hid (show (fun wx => wx.cell? ⟨b, o + i, none⟩ = some (.slice p.A p.n p.c) ∧ wx.cell? ⟨b2, o2 + i, none⟩ = some (.slice q.A q.n q.c)) wc0 from ⟨far_cell (hbq.5 b HLT.out.1) HS0.out.1, far_cell (hbq.5 b2 HLT.out.2) HS0.out.2⟩)
            refine hK.out _ _ HS.out (fun _ => ?_)
            clear hK K
            try simp only [Act.put, sB, sZ, sS]
            refine hTk (i := 9) (d := 82) (v := .bool false) rfl rfl (Or.inl ⟨rfl, by rintro W' ⟨r0, r1⟩; go_simp⟩) HS.out ?_
            simp only [Act.put, sB, sZ, sS]
            refine wpAnyH_done (by kernel_rfl) ?_ _
            clear HS
            refine NoPanic.normal ?_
            (try simp only [Exit.inBlock, Exit.then])
            have HBD := Lib.hid (show Below Wl.heap.size Wl wc0 from HBR.out.trans (hbq.mono HBR.out.size))
            clear hbq hb4
            go_wp2
            go_roundw
            case rel => exact ⟨i + 1, by have := HIN.out; omega, by simp, HBD.out⟩
            case measure => exact round_less HIN.out
          · have hii : ¬ (i : Int) < (n : Int) := by omega
            have HXE := Lib.hid (HX6.out.trans (hbr.mono HX6.out.size))
            clear hin hi hbr
            go_wp2_with fail
            (with_reducible refine (HKN.out _).mono ?_)
            rintro e wy ⟨rfl, hb⟩
            have HXF := Lib.hid (HXE.out.trans (hb.mono HXE.out.size))
            clear hb
            go_wp2
            go_ret
            exact ⟨by first | rfl | trivial, HB1.out.trans (HXF.out.mono HB1.out.size)⟩
end Go.Proofs.YtbnfnpakibkboaaGreat
