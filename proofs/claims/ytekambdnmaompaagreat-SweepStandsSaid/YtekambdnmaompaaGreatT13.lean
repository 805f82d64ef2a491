/- The law SweepStands in general. -/
import Derived.Test.YtekambdnmaompaaGreatJN5
import Derived.Test.YtekambdnmaompaaGreatU5
import Derived.Test.YtekambdnmaompaaGreatJ8
import Derived.Test.YtekambdnmaompaaGreatV1
namespace Go.Proofs.YtekambdnmaompaaGreat.SW
set_option linter.unusedVariables false
set_option linter.unusedSimpArgs false
open Go.RowKit
def sameP (x y : C3) : Bool := (decide (x.rail = y.rail) && decide (x.frm < y.to)) && decide (y.frm < x.to)
def any2 (f : C3 → C3 → Bool) (c d : List C3) : Bool := c.any fun x => d.any (f x)
theorem stands_plain {p : Pl} (hV : Vld p) {c d : List C3} (hc : c.all (coverB p) = true) (hd : d.all (coverB p) = true) {hx sx hy sy : Int} (px : Pr hx sx) (py : Pr hy sy) :
    ∃ fb : Fo4 → Bool, (∀ f, fb f = true ↔ f ∈ foulsL p [⟨hx, sx⟩, ⟨hy, sy⟩]) ∧ (any2 sameP c d = true → metT p c d hx sx hy sy = true) ∧ (metT p c d hx sx hy sy = true → any2 (fun x y => fb (uOf x y)) c d = true) := by
  refine ⟨fun f => @decide (f ∈ foulsL p [⟨hx, sx⟩, ⟨hy, sy⟩]) (Classical.propDecidable _), fun f => by simp, fun h => ?_, fun h => ?_⟩
  · unfold any2 at h
    obtain ⟨x, hxc, h⟩ := List.any_eq_true.1 h
    obtain ⟨y, hyd, h⟩ := List.any_eq_true.1 h
    unfold sameP at h
    simp only [Bool.and_eq_true, decide_eq_true_eq] at h
    exact met_same hV hc hd px py hxc hyd h.1.1 h.1.2 h.2
  · obtain ⟨x, hxc, y, hyd, h⟩ := met_fouls hV hc hd px py h
    exact List.any_eq_true.2 ⟨x, hxc, List.any_eq_true.2 ⟨y, hyd, by simp [h]⟩⟩
theorem cov_cells {wx : World} {A : Option Addr} {l : List C3} (h : Sl wx wx.heap.size 3 CC A l) {i : Nat} {x : C3} (hi : l[i]? = some x) : ∃ b o, A = some ⟨b, o, none⟩ ∧ b < wx.heap.size ∧ wx.cell? ⟨b, o + i * 3, none⟩ = some (.int .i64 x.rail) ∧ wx.cell? ⟨b, o + i * 3 + 1, none⟩ = some (.int .i64 x.frm) ∧ wx.cell? ⟨b, o + i * 3 + 2, none⟩ = some (.int .i64 x.to) := by
  obtain ⟨hl, e⟩ := List.getElem?_eq_some_iff.1 hi
  obtain ⟨b, o, cs, eA, hb, hcc, hc⟩ := h.at_ hl
  unfold CC at hcc
  subst hcc
  rw [e] at hc
  exact ⟨b, o, eA, hb, hc 0 _ rfl, hc 1 _ rfl, hc 2 _ rfl⟩
set_option maxRecDepth 100000 in
set_option maxHeartbeats 8000000 in
theorem SweepStands_any (A A2 AP AQ : Option Addr) (c c2 ca cb : Nat) (p : Pl) (a b : List E) (hx sx hy sy front other long : Int) (w : World) (hP : PlAt w w.heap.size A c A2 c2 p)
    (hSa : Sl w w.heap.size 2 CE AP a) (hSb : Sl w w.heap.size 2 CE AQ b) (hla : a.length ≤ 140737488351232) (hlb : b.length ≤ 140737488351232) :
    Calls Tryz.prog 14 #[.agg #[.slice A p.nodes.length c, .slice A2 p.rails.length c2], .slice AP a.length ca, .slice AQ b.length cb, .agg #[.int .i64 hx, .int .i64 sx], .agg #[.int .i64 hy, .int .i64 sy], .int .i64 front, .int .i64 other, .int .i64 long] w fun e w' => e = .returned (.bool true) ∧ Below w.heap.size w w' := by
  have hrm := hP.rm; have hrc := hP.rc
  have hb3 := (((Below.refl _ w).alloc (Nat.le_refl _) (.cells #[.slice A p.nodes.length c, .slice A2 p.rails.length c2] 25)).alloc (by simp) (.cells #[.int .i64 hx, .int .i64 sx] 46)).alloc (by simp; omega) (.cells #[.int .i64 hy, .int .i64 sy] 46)
  obtain ⟨q1, q2, q3⟩ := rows3 w #[.slice A p.nodes.length c, .slice A2 p.rails.length c2] #[.int .i64 hx, .int .i64 sx] #[.int .i64 hy, .int .i64 sy] 25 46 46
  have hz1 : (((w.alloc (.cells #[.slice A p.nodes.length c, .slice A2 p.rails.length c2] 25)).alloc (.cells #[.int .i64 hx, .int .i64 sx] 46)).alloc (.cells #[.int .i64 hy, .int .i64 sy] 46)).heap.size = w.heap.size + 3 := by simp
  obtain ⟨W1, hW1⟩ : ∃ z, (((w.alloc (.cells #[.slice A p.nodes.length c, .slice A2 p.rails.length c2] 25)).alloc (.cells #[.int .i64 hx, .int .i64 sx] 46)).alloc (.cells #[.int .i64 hy, .int .i64 sy] 46)) = z := ⟨_, rfl⟩
  rw [hW1] at hb3 q1 q2 q3 hz1
  have HB1 := Lib.hid hb3
  have HB0 := Lib.hid (Below.refl W1.heap.size W1)
  have HR := Lib.hid (show ∀ wx, Below W1.heap.size W1 wx → Rw wx w.heap.size 25 #[.slice A p.nodes.length c, .slice A2 p.rails.length c2] ∧ Rw wx (w.heap.size + 1) 46 #[.int .i64 hx, .int .i64 sx] ∧ Rw wx (w.heap.size + 1 + 1) 46 #[.int .i64 hy, .int .i64 sy] from fun wx h => ⟨q1.below h (by omega), q2.below h (by omega), q3.below h (by omega)⟩)
  have HPB := Lib.hid (show ∀ wx, Below W1.heap.size W1 wx → PlAt wx wx.heap.size A c A2 c2 p from fun wx h => ((hP.below hb3).below (h.mono hb3.size)).more (Nat.le_trans hb3.size h.size))
  have HSA := Lib.hid (show ∀ wx, Below W1.heap.size W1 wx → Sl wx wx.heap.size 2 CE AP a from fun wx h => (hSa.below (hb3.trans (h.mono hb3.size))).more (fun _ _ h => h) (Nat.le_trans hb3.size h.size))
  have HSB := Lib.hid (show ∀ wx, Below W1.heap.size W1 wx → Sl wx wx.heap.size 2 CE AQ b from fun wx h => (hSb.below (hb3.trans (h.mono hb3.size))).more (fun _ _ h => h) (Nat.le_trans hb3.size h.size))
  have e0 := q1.cell 0; have e1 := q1.cell 1; have e2 := q2.cell 0; have e3 := q2.cell 1; have e4 := q3.cell 0; have e5 := q3.cell 1
  obtain ⟨fw, hfw⟩ : ∃ z, fewB p = z := ⟨_, rfl⟩
  obtain ⟨vb, hvb⟩ : ∃ vb : Bool, vb = true ↔ Vld p := by
    by_cases hv : Vld p
    · exact ⟨true, by simp [hv]⟩
    · exact ⟨false, by simp [hv]⟩
  obtain ⟨px, hpx⟩ : ∃ z, prB ⟨hx, sx⟩ = z := ⟨_, rfl⟩
  obtain ⟨pw, hpw⟩ : ∃ z, prB ⟨hy, sy⟩ = z := ⟨_, rfl⟩
  have HEF := Lib.hid hfw; have HEV := Lib.hid hvb; have HEX := Lib.hid hpx; have HEW := Lib.hid hpw
  have HKN0 := Lib.hid (show ∀ wx, Calls Tryz.prog 16 #[] wx fun e w' => e = .returned (.bool true) ∧ Below wx.heap.size wx w' from fun wx => known_any wx)
  have HFW := Lib.hid (show ∀ wx, Below W1.heap.size W1 wx → Calls Tryz.prog 15 #[.agg #[.slice A p.nodes.length c, .slice A2 p.rails.length c2]] wx fun e w' => e = .returned (.bool fw) ∧ Below wx.heap.size wx w' from fun wx h => by have := few_any A A2 c c2 p wx (HPB.out wx h); rwa [hfw] at this)
  have HVL := Lib.hid (show ∀ wx, Below W1.heap.size W1 wx → Calls Tryz.prog 19 #[.agg #[.slice A p.nodes.length c, .slice A2 p.rails.length c2]] wx fun e w' => e = .returned (.bool vb) ∧ Below wx.heap.size wx w' from fun wx h => (Valid_any A A2 c c2 p wx (HPB.out wx h)).mono (by
    rintro e w' ⟨⟨b, rfl, hb⟩, h2⟩
    refine ⟨?_, h2⟩
    have : b = vb := by rw [Bool.eq_iff_iff]; exact hb.trans hvb.symm
    rw [this]))
  have HPX0 := Lib.hid (show ∀ wx : World, Calls Tryz.prog 29 #[.agg #[.int .i64 hx, .int .i64 sx]] wx fun e w' => e = .returned (.bool px) ∧ Below wx.heap.size wx w' from fun wx => by have := rProfile_any ⟨hx, sx⟩ wx; rwa [hpx] at this)
  have HPW0 := Lib.hid (show ∀ wx : World, Calls Tryz.prog 29 #[.agg #[.int .i64 hy, .int .i64 sy]] wx fun e w' => e = .returned (.bool pw) ∧ Below wx.heap.size wx w' from fun wx => by have := rProfile_any ⟨hy, sy⟩ wx; rwa [hpw] at this)
  have HC1 := Lib.hid (show ∀ wx, Below W1.heap.size W1 wx → Calls Tryz.prog 46 #[.agg #[.slice A p.nodes.length c, .slice A2 p.rails.length c2], .slice AP a.length ca, .int .i64 front, .int .i64 long] wx _ from fun wx h => Covers_any A A2 AP c c2 ca p a front long wx (HPB.out wx h) (HSA.out wx h) hla)
  have HC2 := Lib.hid (show ∀ wx, Below W1.heap.size W1 wx → Calls Tryz.prog 46 #[.agg #[.slice A p.nodes.length c, .slice A2 p.rails.length c2], .slice AQ b.length cb, .int .i64 other, .int .i64 long] wx _ from fun wx h => Covers_any A A2 AQ c c2 cb p b other long wx (HPB.out wx h) (HSB.out wx h) hlb)
  obtain ⟨na, hna⟩ : ∃ z, a.length = z := ⟨_, rfl⟩
  obtain ⟨nb, hnb⟩ : ∃ z, b.length = z := ⟨_, rfl⟩
  rw [hna] at hla HC1
  rw [hnb] at hlb HC2
  rw [hna, hnb]
  have HNA := Lib.hid hna; have HNB := Lib.hid hnb
  have HLT := Lib.hid (show w.heap.size < W1.heap.size ∧ w.heap.size + 1 < W1.heap.size ∧ w.heap.size + 1 + 1 < W1.heap.size from by omega)
  clear hb3 q1 q2 q3 hP hSa hSb hz1 hfw hvb hpx hpw hna hnb
  obtain ⟨cv, hcv⟩ : ∃ z, (!(fw && (vb && (px && (pw && (decide (na ≤ 12) && decide (nb ≤ 12))))))) = z := ⟨_, rfl⟩
  have HCV := Lib.hid hcv
  clear hcv
  go_enter Tryz.func14, Tryz.ntmps14
  go_upto_region 1 with (fail)
  go_cut [57] from 30 to 57 (fun s57 wx => s57 = .bool cv ∧ Below W1.heap.size W1 wx)
  case first =>
    go_wp2_with fail
    (with_reducible refine (HFW.out _ HB0.out).mono ?_)
    rintro e w3 ⟨rfl, hb3⟩
    have HB3 := Lib.hid hb3
    clear hb3 hW1
    obtain ⟨r1, r2, r3⟩ := HR.out _ HB3.out
    have e0 := r1.cell 0; have e1 := r1.cell 1; have e2 := r2.cell 0; have e3 := r2.cell 1; have e4 := r3.cell 0; have e5 := r3.cell 1
    clear r1 r2 r3
    cases fw with
    | false =>
      go_wp2
      go_meet
      exact ⟨by rw [← HCV.out]; rfl, HB3.out⟩
    | true =>
      go_wp2_with fail
      (with_reducible refine (HVL.out _ HB3.out).mono ?_)
      rintro e w4 ⟨rfl, hb4⟩
      have HB4 := Lib.hid (HB3.out.trans (hb4.mono HB3.out.size))
      clear hb4
      obtain ⟨r1, r2, r3⟩ := HR.out _ HB4.out
      have e0 := r1.cell 0; have e1 := r1.cell 1; have e2 := r2.cell 0; have e3 := r2.cell 1; have e4 := r3.cell 0; have e5 := r3.cell 1
      clear r1 r2 r3
      cases vb with
      | false =>
        go_wp2
        go_meet
        exact ⟨by rw [← HCV.out]; rfl, HB4.out⟩
      | true =>
        go_wp2_with fail
        (with_reducible refine (HPX0.out _).mono ?_)
        rintro e w5 ⟨rfl, hb5⟩
        have HB5 := Lib.hid (HB4.out.trans (hb5.mono HB4.out.size))
        clear hb5
        obtain ⟨r1, r2, r3⟩ := HR.out _ HB5.out
        have e0 := r1.cell 0; have e1 := r1.cell 1; have e2 := r2.cell 0; have e3 := r2.cell 1; have e4 := r3.cell 0; have e5 := r3.cell 1
        clear r1 r2 r3
        cases px with
        | false =>
          go_wp2
          go_meet
          exact ⟨by rw [← HCV.out]; rfl, HB5.out⟩
        | true =>
          go_wp2_with fail
          (with_reducible refine (HPW0.out _).mono ?_)
          rintro e w6 ⟨rfl, hb6⟩
          have HB6 := Lib.hid (HB5.out.trans (hb6.mono HB5.out.size))
          clear hb6 e0 e1 e2 e3 e4 e5
          cases pw with
          | false =>
            go_wp2
            go_meet
            exact ⟨by rw [← HCV.out]; rfl, HB6.out⟩
          | true =>
            by_cases a1 : na ≤ 12
            · have a1i : ¬ (12 : Int) < (na : Int) := by omega
              by_cases b1 : nb ≤ 12
              · have b1i : ¬ (12 : Int) < (nb : Int) := by omega
                have HC := Lib.hid (show cv = false from by rw [← HCV.out]; simp [a1, b1])
                clear a1 b1
                go_wp2
                go_meet
                exact ⟨by rw [HC.out]; first | done | rfl | (simp; omega) | simp, HB6.out⟩
              · have b1i : (12 : Int) < (nb : Int) := by omega
                have HC := Lib.hid (show cv = true from by rw [← HCV.out]; simp [a1, b1]; first | done | omega)
                clear a1 b1
                go_wp2
                go_meet
                exact ⟨by rw [HC.out]; first | done | rfl | (simp; omega) | simp, HB6.out⟩
            · have a1i : (12 : Int) < (na : Int) := by omega
              have HC := Lib.hid (show cv = true from by rw [← HCV.out]; simp [a1]; first | done | omega)
              clear a1
              go_wp2
              go_meet
              exact ⟨by rw [HC.out]; first | done | rfl | (simp; omega) | simp, HB6.out⟩
  case rest =>
  obtain ⟨rfl, hb3⟩ := hcut
  obtain ⟨W3, rfl⟩ : ∃ z, z = wc := ⟨_, rfl⟩
  have HB3 := Lib.hid hb3
  clear hb3 hW1
  obtain ⟨r1, r2, r3⟩ := HR.out _ HB3.out
  have e0 := r1.cell 0; have e1 := r1.cell 1; have e2 := r2.cell 0; have e3 := r2.cell 1; have e4 := r3.cell 0; have e5 := r3.cell 1
  clear r1 r2 r3
  cases cv with
  | true =>
    go_wp2_with fail
    (with_reducible refine (HKN0.out _).mono ?_)
    rintro e w4 ⟨rfl, hb4⟩
    have HB4 := Lib.hid (HB3.out.trans (hb4.mono HB3.out.size))
    clear hb4
    go_wp2
    go_ret
    exact ⟨rfl, HB1.out.trans (HB4.out.mono HB1.out.size)⟩
  | false =>
    have hcv := HCV.out
    simp only [Bool.not_eq_false', Bool.and_eq_true, decide_eq_true_eq] at hcv
    obtain ⟨rfl, rfl, rfl, rfl, ha12, hb12⟩ := hcv
    have HV := Lib.hid (HEV.out.1 rfl)
    have HN12 := Lib.hid (few_le HEF.out)
    have HPP := Lib.hid (And.intro (prB_pr HEX.out) (prB_pr HEW.out))
    have HA12 := Lib.hid (And.intro ha12 hb12)
    clear ha12 hb12
    go_wp2_with fail
    (with_reducible refine (HC1.out _ HB3.out).mono ?_)
    rintro e w4 ⟨h1, hb4⟩
    have HB4 := Lib.hid (HB3.out.trans (hb4.mono HB3.out.size))
    clear hb4
    obtain ⟨r1, r2, r3⟩ := HR.out _ HB4.out
    have e0 := r1.cell 0; have e1 := r1.cell 1; have e2 := r2.cell 0; have e3 := r2.cell 1; have e4 := r3.cell 0; have e5 := r3.cell 1
    clear r1 r2 r3
    rcases h1 with ⟨hi1, v1, rfl, ho1⟩ | ⟨hi1, rfl⟩
    case inr =>
      clear hi1
      go_wp2_with fail
      (with_reducible refine (HC2.out _ HB4.out).mono ?_)
      rintro e w5 ⟨h2, hb5⟩
      have HB5 := Lib.hid (HB4.out.trans (hb5.mono HB4.out.size))
      clear hb5 e0 e1 e2 e3 e4 e5
      rcases h2 with ⟨hi2, v2, rfl, ho2⟩ | ⟨hi2, rfl⟩
      all_goals
        clear hi2
        go_wp2_with fail
        (with_reducible refine (HKN0.out _).mono ?_)
        rintro e w6 ⟨rfl, hb6⟩
        have HB6 := Lib.hid (HB5.out.trans (hb6.mono HB5.out.size))
        clear hb6
        go_wp2
        go_ret
        exact ⟨rfl, HB1.out.trans (HB6.out.mono HB1.out.size)⟩
    have HI1 := Lib.hid hi1; have HO1 := Lib.hid ho1
    obtain ⟨A9, c9, rfl, -, -, -⟩ := ho1.form
    clear hi1 ho1
    go_wp2_with fail
    (with_reducible refine (HC2.out _ HB4.out).mono ?_)
    rintro e w5 ⟨h2, hb5⟩
    have HB5 := Lib.hid (HB4.out.trans (hb5.mono HB4.out.size))
    have HO15 := Lib.hid (HO1.out.below hb5 (Nat.le_refl _))
    clear hb5
    obtain ⟨r1, r2, r3⟩ := HR.out _ HB5.out
    have e0 := r1.cell 0; have e1 := r1.cell 1; have e2 := r2.cell 0; have e3 := r2.cell 1; have e4 := r3.cell 0; have e5 := r3.cell 1
    clear r1 r2 r3
    rcases h2 with ⟨hi2, v2, rfl, ho2⟩ | ⟨hi2, rfl⟩
    case inr =>
      clear hi2
      go_wp2_with fail
      (with_reducible refine (HKN0.out _).mono ?_)
      rintro e w6 ⟨rfl, hb6⟩
      have HB6 := Lib.hid (HB5.out.trans (hb6.mono HB5.out.size))
      clear hb6
      go_wp2
      go_ret
      exact ⟨rfl, HB1.out.trans (HB6.out.mono HB1.out.size)⟩
    obtain ⟨A8, c8, rfl, -, -, -⟩ := ho2.form
    have HS1 := Lib.hid (show ∀ wx, Below w5.heap.size w5 wx → Sl wx wx.heap.size 3 CC A9 (covL p (a.map endNo) (front - long) front) from fun wx h => (Own.sl (size := 3) fC_len (HO15.out.below h (Nat.le_refl _)) rfl))
    have HS2 := Lib.hid (show ∀ wx, Below w5.heap.size w5 wx → Sl wx wx.heap.size 3 CC A8 (covL p (b.map endNo) (other - long) other) from fun wx h => (Own.sl (size := 3) fC_len (ho2.below h (Nat.le_refl _)) rfl))
    have hok1 := covL_ok HI1.out
    have hok2 := covL_ok hi2
    obtain ⟨C, hC⟩ : ∃ z, covL p (a.map endNo) (front - long) front = z := ⟨_, rfl⟩
    obtain ⟨D, hD⟩ : ∃ z, covL p (b.map endNo) (other - long) other = z := ⟨_, rfl⟩
    rw [hC] at HS1 hok1 ⊢
    rw [hD] at HS2 hok2 ⊢
    obtain ⟨mt, hmt⟩ : ∃ z, metT p C D hx sx hy sy = z := ⟨_, rfl⟩
    have hcl : ClOk p C D hx sx hy sy := ⟨HV.out, by rw [HEX.out, HEW.out]; rfl, ⟨by have := hok1.2; have := HNA.out; have := HA12.out.1; omega, hok1.1⟩, ⟨by have := hok2.2; have := HNB.out; have := HA12.out.2; omega, hok2.1⟩⟩
    have HCL := Lib.hid (show ∀ wx, Below w5.heap.size w5 wx → Calls Tryz.prog 41 #[.agg #[.slice A p.nodes.length c, .slice A2 p.rails.length c2], .slice A9 C.length c9, .agg #[.int .i64 hx, .int .i64 sx], .slice A8 D.length c8, .agg #[.int .i64 hy, .int .i64 sy]] wx fun e w' => e = .returned (.tuple #[.bool (!mt), .int .i64 0]) ∧ Below wx.heap.size wx w' from fun wx h => (Clear_any A A2 A9 A8 c c2 c9 c8 C.length D.length p C D hx sx hy sy wx (HPB.out wx (HB5.out.trans (h.mono HB5.out.size))) (HS1.out wx h) (HS2.out wx h) rfl rfl).mono (by
      rintro e w' ⟨h, hb⟩
      rcases h with ⟨_, rfl⟩ | ⟨hn, _⟩
      · exact ⟨by rw [hmt], hb⟩
      · exact absurd hcl hn))
    have HF1 := Lib.hid (show ∀ wx, Below W1.heap.size W1 wx → Calls Tryz.prog 31 #[.agg #[.slice A p.nodes.length c, .slice A2 p.rails.length c2], .slice (some ⟨wx.heap.size, 0, none⟩) 2 2] (wx.alloc (.cells #[.int .i64 hx, .int .i64 sx, .int .i64 hy, .int .i64 sy] 46)) fun e w' => (∃ v, e = .returned (.tuple #[v, .int .i64 0]) ∧ Own w' wx.heap.size 60 4 fF v (foulsL p [⟨hx, sx⟩, ⟨hy, sy⟩])) ∧ Below wx.heap.size wx w' from fun wx h => by
      have hb := (Below.refl wx.heap.size wx).alloc (Nat.le_refl _) (.cells #[.int .i64 hx, .int .i64 sx, .int .i64 hy, .int .i64 sy] 46)
      have h9 := Fouls_yes A A2 (some ⟨wx.heap.size, 0, none⟩) c c2 2 2 p [⟨hx, sx⟩, ⟨hy, sy⟩] (wx.alloc (.cells #[.int .i64 hx, .int .i64 sx, .int .i64 hy, .int .i64 sy] 46)) (HPB.out _ (h.trans (hb.mono h.size))) HV.out HN12.out rfl (by omega) (by omega) (by rw [World.size_alloc]; exact Sl.two wx 46 hx sx hy sy) (by simp [HEX.out, HEW.out])
      exact h9.mono (by
        rintro e w' ⟨⟨v, rfl, ho⟩, hb2⟩
        exact ⟨⟨v, rfl, ho.lower (by simp)⟩, hb.trans (hb2.mono (by simp))⟩))
    have hl := foulsL_le p [⟨hx, sx⟩, ⟨hy, sy⟩] HN12.out (by simp)
    obtain ⟨fb, hfb, hst⟩ := stands_plain HV.out hok1.1 hok2.1 HPP.out.1 HPP.out.2
    obtain ⟨L, hL⟩ : ∃ z, foulsL p [⟨hx, sx⟩, ⟨hy, sy⟩] = z := ⟨_, rfl⟩
    rw [hL] at HF1 hl hfb
    rw [hmt] at hst
    have HFB := Lib.hid hfb; have HST := Lib.hid hst; have HLL := Lib.hid hl
    have HCD := Lib.hid (show C.length ≤ 12 ∧ D.length ≤ 12 from ⟨by have := hok1.2; have := HNA.out; have := HA12.out.1; omega, by have := hok2.2; have := HNB.out; have := HA12.out.2; omega⟩)
    clear hi2 ho2 hok1 hok2 hC hD hmt hcl hl hfb hst hL
    obtain ⟨nc, hnc⟩ : ∃ z, C.length = z := ⟨_, rfl⟩
    obtain ⟨nd, hnd⟩ : ∃ z, D.length = z := ⟨_, rfl⟩
    rw [hnc, hnd] at HCL HCD ⊢
    have HNC := Lib.hid hnc; have HND := Lib.hid hnd
    clear hnc hnd
    have HBB := Lib.hid (Below.refl w5.heap.size w5)
    go_wp2_with fail
    (with_reducible refine (HCL.out _ HBB.out).mono ?_)
    rintro e w6 ⟨rfl, hb6⟩
    have HX6 := Lib.hid hb6
    have HB6 := Lib.hid (HB5.out.trans (hb6.mono HB5.out.size))
    clear hb6
    obtain ⟨r1, r2, r3⟩ := HR.out _ HB6.out
    have e0 := r1.cell 0; have e1 := r1.cell 1; have e2 := r2.cell 0; have e3 := r2.cell 1; have e4 := r3.cell 0; have e5 := r3.cell 1
    clear r1 r2 r3
    have l0 : w.heap.size < w6.heap.size := by have h1 := HLT.out; have h2 := HB6.out.size; omega
    have l1 : w.heap.size + 1 < w6.heap.size := by have h1 := HLT.out; have h2 := HB6.out.size; omega
    have l2 : w.heap.size + 1 + 1 < w6.heap.size := by have h1 := HLT.out; have h2 := HB6.out.size; omega
    go_wp2_with fail
    (with_reducible refine (HF1.out _ HB6.out).mono ?_)
    rintro e w7 ⟨⟨v3, rfl, ho3⟩, hb7⟩
    obtain ⟨A7, c7, rfl, -, -, -⟩ := ho3.form
    have HX7 := Lib.hid (HX6.out.trans (hb7.mono HX6.out.size))
    have HB7 := Lib.hid (HB6.out.trans (hb7.mono HB6.out.size))
    have HO3 := Lib.hid ho3
    have HS3 := Lib.hid (show ∀ wx, Below w7.heap.size w7 wx → Sl wx wx.heap.size 4 CFo A7 L from fun wx h => (Own.sl (size := 4) fF_len (HO3.out.below h (Nat.le_refl _)) rfl))
    have HHA := Lib.hid (show ∀ (wx : World) (y0 y1 y2 y3 : Int), Below w7.heap.size w7 wx → Calls Tryz.prog 35 #[.slice A7 L.length c7, .agg #[.int .i64 y0, .int .i64 y1, .int .i64 y2, .int .i64 y3]] wx fun e w' => e = .returned (.bool (fb ⟨y0, y1, y2, y3⟩)) ∧ Below wx.heap.size wx w' from fun wx y0 y1 y2 y3 h => (has_any A7 L c7 y0 y1 y2 y3 wx (HS3.out wx h) (by have := HLL.out; omega)).mono (by
      rintro e w' ⟨⟨r, rfl, hr⟩, h2⟩
      have : r = fb ⟨y0, y1, y2, y3⟩ := by rw [Bool.eq_iff_iff]; exact hr.trans (HFB.out _).symm
      exact ⟨by rw [this], h2⟩))
    have HCC := Lib.hid (show ∀ wx, Below w7.heap.size w7 wx → ∀ i x, C[i]? = some x → ∃ b o, A9 = some ⟨b, o, none⟩ ∧ b < wx.heap.size ∧ wx.cell? ⟨b, o + i * 3, none⟩ = some (.int .i64 x.rail) ∧ wx.cell? ⟨b, o + i * 3 + 1, none⟩ = some (.int .i64 x.frm) ∧ wx.cell? ⟨b, o + i * 3 + 2, none⟩ = some (.int .i64 x.to) from fun wx h i x hi => cov_cells (HS1.out wx (HX7.out.trans (h.mono HX7.out.size))) hi)
    have HDD := Lib.hid (show ∀ wx, Below w7.heap.size w7 wx → ∀ i x, D[i]? = some x → ∃ b o, A8 = some ⟨b, o, none⟩ ∧ b < wx.heap.size ∧ wx.cell? ⟨b, o + i * 3, none⟩ = some (.int .i64 x.rail) ∧ wx.cell? ⟨b, o + i * 3 + 1, none⟩ = some (.int .i64 x.frm) ∧ wx.cell? ⟨b, o + i * 3 + 2, none⟩ = some (.int .i64 x.to) from fun wx h i x hi => cov_cells (HS2.out wx (HX7.out.trans (h.mono HX7.out.size))) hi)
    obtain ⟨nl, hnl⟩ : ∃ z, L.length = z := ⟨_, rfl⟩
    rw [hnl] at HHA ⊢
    clear ho3 hb7 e0 e1 e2 e3 e4 e5 l0 l1 l2 hnl
    go_wp2
    go_loopw [25, 26, 27] (fun s25 s26 s27 wr => ∃ i : Nat, i ≤ nc ∧ s27 = .int .i64 (i : Int) ∧ s25 = .bool (any2 sameP (C.take i) D) ∧ s26 = .bool (any2 (fun x y => fb (uOf x y)) (C.take i) D) ∧ Below w7.heap.size w7 wr) (fun _ _ s27 _ => nc - (intOf s27).toNat)
    case atStart => exact ⟨0, Nat.zero_le _, rfl, rfl, rfl, Below.refl _ _⟩
    case round =>
      obtain ⟨i, hi, rfl, rfl, rfl, hb⟩ := hrel
      have HB := Lib.hid hb
      obtain ⟨sv0, hsv0⟩ : ∃ z, any2 sameP (C.take i) D = z := ⟨_, rfl⟩
      obtain ⟨fv0, hfv0⟩ : ∃ z, any2 (fun x y => fb (uOf x y)) (C.take i) D = z := ⟨_, rfl⟩
      rw [hsv0, hfv0]
      have HSV0 := Lib.hid hsv0; have HFV0 := Lib.hid hfv0
      have hn12 : nc ≤ 12 := HCD.out.1
      clear hsv0 hfv0 hb
      by_cases hin : i < nc
      · have hii : (i : Int) < (nc : Int) := by omega
        have hi0 : (0 : Int) ≤ (i : Int) := by omega
        have HIN := Lib.hid hin
        obtain ⟨x, hx⟩ : ∃ z, C[i]? = some z := ⟨_, List.getElem?_eq_getElem (by have := HNC.out; omega)⟩
        have HX := Lib.hid hx
        clear hx
        go_wp2
        go_loopw [25, 26, 28] (fun s25 s26 s28 wr => ∃ k : Nat, k ≤ nd ∧ s28 = .int .i64 (k : Int) ∧ s25 = .bool (sv0 || (D.take k).any (sameP x)) ∧ s26 = .bool (fv0 || (D.take k).any fun y => fb (uOf x y)) ∧ Below w7.heap.size w7 wr) (fun _ _ s28 _ => nd - (intOf s28).toNat)
        case atStart => exact ⟨0, Nat.zero_le _, rfl, by simp, by simp, HB.out⟩
        case round =>
          obtain ⟨k, hk, rfl, rfl, rfl, hb⟩ := hrel
          have HBk := Lib.hid hb
          obtain ⟨sv, hsv⟩ : ∃ z, (sv0 || (D.take k).any (sameP x)) = z := ⟨_, rfl⟩
          obtain ⟨fv, hfv⟩ : ∃ z, (fv0 || (D.take k).any fun y => fb (uOf x y)) = z := ⟨_, rfl⟩
          rw [hsv, hfv]
          have hd12 : nd ≤ 12 := HCD.out.2
          by_cases hkn : k < nd
          · have hki : (k : Int) < (nd : Int) := by omega
            have hk0 : (0 : Int) ≤ (k : Int) := by omega
            have HKN := Lib.hid hkn
            have hkl : k < D.length := by have := HND.out; omega
            obtain ⟨y, hy⟩ : ∃ z, D[k] = z := ⟨_, rfl⟩
            have hy2 : D[k]? = some y := by rw [List.getElem?_eq_getElem hkl, hy]
            have hns : (sv0 || (D.take (k + 1)).any (sameP x)) = (sv || sameP x y) := by rw [any_take_snoc hkl, hy, ← Bool.or_assoc, hsv]
            have hnf : (fv0 || (D.take (k + 1)).any fun y => fb (uOf x y)) = (fv || fb (uOf x y)) := by rw [any_take_snoc hkl, hy, ← Bool.or_assoc, hfv]
            have HNS := Lib.hid hns; have HNF := Lib.hid hnf
            obtain ⟨bc, oc, eC, gc, c0, c1, c2'⟩ := HCC.out _ hb i x HX.out
            obtain ⟨bd, od, eD, gd, d0, d1, d2⟩ := HDD.out _ hb k y hy2
            have HCK := Lib.hid (show ∀ wx, Below wr.heap.size wr wx → wx.cell? ⟨bc, oc + i * 3, none⟩ = some (.int .i64 x.rail) ∧ wx.cell? ⟨bd, od + k * 3, none⟩ = some (.int .i64 y.rail) from fun wx h => ⟨(h.cell (p := ⟨bc, oc + i * 3, none⟩) gc).trans c0, (h.cell (p := ⟨bd, od + k * 3, none⟩) gd).trans d0⟩)
            have HGG := Lib.hid (And.intro gc gd)
            obtain ⟨xr, xf, xt⟩ := x
            obtain ⟨yr, yf, yt⟩ := y
            simp only [] at c0 c1 c2' d0 d1 d2
            obtain ⟨sp, hsp⟩ : ∃ z, sameP ⟨xr, xf, xt⟩ ⟨yr, yf, yt⟩ = z := ⟨_, rfl⟩
            have HSP := Lib.hid (show sp = ((decide (xr = yr) && decide (xf < yt)) && decide (yf < xt)) from hsp.symm)
            obtain ⟨u, hu⟩ : ∃ z, uOf ⟨xr, xf, xt⟩ ⟨yr, yf, yt⟩ = z := ⟨_, rfl⟩
            have HU := Lib.hid (show u = (if yr < xr then (⟨yr, 1, xr, 0⟩ : Fo4) else ⟨xr, 0, yr, 1⟩) from hu.symm)
            rw [hsp] at HNS
            rw [hu] at HNF
            subst eC
            subst eD
            have HRF := Lib.hid (Below.refl wr.heap.size wr)
            clear hsv hfv hkl hy hy2 hns hnf hsp hu hb
            go_upto_region 18 with (fail)
            go_cut [25] from 117 to 156 (fun s25 wx => s25 = .bool (sv || sp) ∧ Below wr.heap.size wr wx)
            case first =>
              cases sv with
              | true =>
                go_wp2
                go_quiet (fail)
                go_wp2_with fail
                go_meet
                exact ⟨by simp, bDrewN HRF.out _⟩
              | false =>
                by_cases g1 : xr = yr
                · have g1b : (xr == yr) = true := by rw [beq_iff_eq]; exact g1
                  by_cases g2 : xf < yt
                  · have g2b : decide (xf < yt) = true := decide_eq_true g2
                    by_cases g3 : yf < xt
                    · have g3b : decide (yf < xt) = true := decide_eq_true g3
                      have HE := Lib.hid (show sp = true from by rw [HSP.out]; simp [g1, g2, g3])
                      go_wp2
                      go_quiet (fail)
                      go_wp2_with fail
                      go_meet
                      exact ⟨by rw [HE.out]; first | done | rfl | simp, bDrewN HRF.out _⟩
                    · have g3b : decide (yf < xt) = false := decide_eq_false g3
                      have HE := Lib.hid (show sp = false from by rw [HSP.out]; simp [g1, g2, g3])
                      go_wp2
                      go_quiet (fail)
                      go_wp2_with fail
                      go_meet
                      exact ⟨by rw [HE.out]; first | done | rfl | simp, bDrewN HRF.out _⟩
                  · have g2b : decide (xf < yt) = false := decide_eq_false g2
                    have HE := Lib.hid (show sp = false from by rw [HSP.out]; simp [g1, g2])
                    go_wp2
                    go_quiet (fail)
                    go_wp2_with fail
                    go_meet
                    exact ⟨by rw [HE.out]; first | done | rfl | simp, bDrewN HRF.out _⟩
                · have g1b : (xr == yr) = false := by rw [beq_eq_false_iff_ne]; exact g1
                  have HE := Lib.hid (show sp = false from by rw [HSP.out]; simp [g1])
                  go_wp2
                  go_quiet (fail)
                  go_wp2_with fail
                  go_meet
                  exact ⟨by rw [HE.out]; first | done | rfl | simp, bDrewN HRF.out _⟩
            case rest =>
            obtain ⟨rfl, hbq⟩ := hcut
            obtain ⟨w8, rfl⟩ : ∃ z, z = wc := ⟨_, rfl⟩
            have HR8 := Lib.hid hbq
            have HB8 := Lib.hid (HBk.out.trans (hbq.mono HBk.out.size))
            have HGX := Lib.hid (show bc < w8.heap.size ∧ bd < w8.heap.size from ⟨Nat.lt_of_lt_of_le HGG.out.1 hbq.size, Nat.lt_of_lt_of_le HGG.out.2 hbq.size⟩)
            obtain ⟨c0, d0⟩ := HCK.out _ hbq
            obtain ⟨ss, hss⟩ : ∃ z, (sv || sp) = z := ⟨_, rfl⟩
            rw [hss] at HNS ⊢
            simp only [] at c0 d0
            have gc := HGX.out.1; have gd := HGX.out.2
            have gc1 : bc < w8.heap.size + 1 := by omega
            have gd1 : bd < w8.heap.size + 1 := by omega
            clear c1 c2' d1 d2 hbq HRF HGG hss
            go_upto_region 19 with (fail)
            go_cut [29] from 157 to 167 (fun s29 wx => ∃ K : Nat, s29 = .pointer (some ⟨K, 0, none⟩) ∧ w8.heap.size ≤ K ∧ Rw wx K 60 #[.int .i64 xr, .int .i64 0, .int .i64 yr, .int .i64 1] ∧ Below w8.heap.size w8 wx)
            case first =>
              go_region
              all_goals
                go_wp2_with fail
                go_meet
                exact ⟨w8.heap.size, rfl, Nat.le_refl _, (Rw.new w8 _ 60).drew, ((Below.refl _ w8).alloc (Nat.le_refl _) _).drew⟩
            case rest =>
            obtain ⟨K, rfl, hKL, hrw, hbq⟩ := hcut
            obtain ⟨w9, rfl⟩ : ∃ z, z = wc := ⟨_, rfl⟩
            have HKL := Lib.hid hKL
            have HR9 := Lib.hid (HR8.out.trans (hbq.mono HR8.out.size))
            have HRW := Lib.hid hrw
            have HB9 := Lib.hid (HB8.out.trans (hbq.mono HB8.out.size))
            have HQ9 := Lib.hid hbq
            obtain ⟨c0, d0⟩ := HCK.out _ HR9.out
            simp only [] at c0 d0
            have k0 := hrw.cell 0; have k1 := hrw.cell 1; have k2 := hrw.cell 2; have k3 := hrw.cell 3
            have f0 := hrw.frozen 0; have f1 := hrw.frozen 1; have f2 := hrw.frozen 2; have f3 := hrw.frozen 3
            have gc : bc < w9.heap.size := Nat.lt_of_lt_of_le HGX.out.1 hbq.size
            have gd : bd < w9.heap.size := Nat.lt_of_lt_of_le HGX.out.2 hbq.size
            clear hbq hrw gc1 gd1 hKL
            go_upto_if 172 with (fail)
            go_cut [] from 168 to 183 (fun wx => Rw wx K 60 #[.int .i64 u.ra, .int .i64 u.pa, .int .i64 u.rb, .int .i64 u.pb] ∧ Below w8.heap.size w8 wx)
            case first =>
              by_cases gl : yr < xr
              · have gb : decide (yr < xr) = true := decide_eq_true gl
                have HUE := Lib.hid (show u = ⟨yr, 1, xr, 0⟩ from by rw [HU.out, if_pos gl])
                go_upto_region 21 with (fail)
                go_region
                all_goals
                  go_wp2_with fail
                  go_meet
                  rw [HUE.out]
                  exact ⟨((((HRW.out.set 0 _).set 1 _).set 2 _).set 3 _).drew, ((((HQ9.out.setCell HKL.out _).setCell HKL.out _).setCell HKL.out _).setCell HKL.out _).drew⟩
              · have gb : decide (yr < xr) = false := decide_eq_false gl
                have HUE := Lib.hid (show u = ⟨xr, 0, yr, 1⟩ from by rw [HU.out, if_neg gl])
                go_wp2_with fail
                go_meet
                rw [HUE.out]
                exact ⟨HRW.out, HQ9.out⟩
            case rest =>
            obtain ⟨hrw, hbq⟩ := hcut
            obtain ⟨w10, rfl⟩ : ∃ z, z = wc := ⟨_, rfl⟩
            have k0 := hrw.cell 0; have k1 := hrw.cell 1; have k2 := hrw.cell 2; have k3 := hrw.cell 3
            have HB10 := Lib.hid (HB8.out.trans (hbq.mono HB8.out.size))
            clear hrw hbq c0 d0 f0 f1 f2 f3 gc gd
            cases fv with
            | true =>
              go_wp2
              go_roundw
              case rel => exact ⟨k + 1, by have := HKN.out; omega, vi (by omega), by rw [HNS.out], by rw [HNF.out]; simp, HB10.out⟩
              case measure => simp [intOf] <;> omega
            | false =>
              go_wp2_with fail
              (with_reducible refine (HHA.out _ u.ra u.pa u.rb u.pb HB10.out).mono ?_)
              rintro e w11 ⟨rfl, hb11⟩
              have HB11 := Lib.hid (HB10.out.trans (hb11.mono HB10.out.size))
              clear hb11
              go_wp2
              go_roundw
              case rel => exact ⟨k + 1, by have := HKN.out; omega, vi (by omega), by rw [HNS.out], by rw [HNF.out]; simp, HB11.out⟩
              case measure => simp [intOf] <;> omega
          · have hki : ¬ (k : Int) < (nd : Int) := by omega
            have hkd : D.take k = D := List.take_of_length_le (by have := HND.out; omega)
            rw [hkd] at hsv hfv
            have hil : i < C.length := by have := HNC.out; have := HIN.out; omega
            obtain ⟨_, hxe⟩ := List.getElem?_eq_some_iff.1 HX.out
            have HN1 := Lib.hid (show any2 sameP (C.take (i + 1)) D = sv from by
              rw [← hsv, ← HSV0.out]; unfold any2; rw [any_take_snoc hil, hxe])
            have HN2 := Lib.hid (show any2 (fun x y => fb (uOf x y)) (C.take (i + 1)) D = fv from by
              rw [← hfv, ← HFV0.out]; unfold any2; rw [any_take_snoc hil, hxe])
            clear hsv hfv hkd hil hxe hb
            go_wp2
            go_roundw
            case rel => exact ⟨i + 1, by have := HIN.out; omega, vi (by omega), by rw [HN1.out], by rw [HN2.out], HBk.out⟩
            case measure => have := HIN.out; simp [intOf] <;> omega
      · have hii : ¬ (i : Int) < (nc : Int) := by omega
        have hkd : C.take i = C := List.take_of_length_le (by have := HNC.out; omega)
        have h1 := HSV0.out; have h2 := HFV0.out; have h3 := HST.out
        rw [hkd] at h1 h2
        rw [h1, h2] at h3
        clear h1 h2 hkd
        obtain ⟨w12, rfl⟩ : ∃ z, z = wr := ⟨_, rfl⟩
        have HB12 := Lib.hid (HB7.out.trans (HB.out.mono HB7.out.size))
        cases sv0 <;> cases fv0 <;> cases mt <;> simp only [Bool.false_eq_true, false_implies, true_implies, and_true, true_and, and_false, false_and, imp_self, implies_true, forall_const, Bool.true_eq_false] at h3
        all_goals
          go_wp2_with fail
          (with_reducible refine (HKN0.out _).mono ?_)
          rintro e w13 ⟨rfl, hb13⟩
          have HB13 := Lib.hid (HB12.out.trans (hb13.mono HB12.out.size))
          clear hb13
          go_wp2
          go_ret
          exact ⟨rfl, HB1.out.trans (HB13.out.mono HB1.out.size)⟩
end Go.Proofs.YtekambdnmaompaaGreat.SW
