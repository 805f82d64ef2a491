/- The law SweepMoved in general. -/
import Derived.Test.YtekambdnmaompaaGreatU3
import Derived.Test.YtekambdnmaompaaGreatJ8
import Derived.Test.YtekambdnmaompaaGreatV1
namespace Go.Proofs.YtekambdnmaompaaGreat.SW
set_option linter.unusedVariables false
set_option linter.unusedSimpArgs false
open Go.RowKit
theorem line_len2 (p : Pl) (r : R) : (lineOf p r).length = r.shape.length + 2 := by simp [lineOf]
theorem few_nodes {p : Pl} (h : fewB p = true) : p.nodes.length ≤ 16 := by
  unfold fewB at h
  simp only [Bool.and_eq_true, decide_eq_true_eq] at h
  exact h.2.2.2
theorem hTk {P : Program} {ops : Array Oper} {Q : Exit → Act → World → Prop} {md : Region.Mode} {S : World → Prop} {i : Nat} {d : Tmp} {oi : Oper} {v : Value} {fuel : Nat} {listed : Array Bool} {a : Act} {w : World} (hi : ops[i]? = some oi) (hd : oi.dst = some d)
    (hy : YieldsIf P ops S oi v a) (hS : S w) (h : wpAnyH P md ops Q S fuel (listed.setIfInBounds i true) (a.put (some d) v) w)
    (hs : Region.noSelect ops = true := by kernel_rfl) (hf : Region.free md ops listed i = true := by kernel_rfl) (hr : (Region.ready md ops listed).contains i = true := by kernel_rfl)
    (hQ : ∀ c a w, Q (.panic c) (a.put (some d) v) w → Q (.panic c) a w := by exact fun _ _ _ h => h) : wpAnyH P md ops Q S (fuel + 1) listed a w := hTake hi hd hs hf hr hQ hy hS h
theorem sB {α : Type} {l : List α} {i : Nat} {a : α} : l.toArray.setIfInBounds i a = (l.set i a).toArray := List.setIfInBounds_toArray _ _ _
theorem sZ {α : Type} {l : List α} {x a : α} : (x :: l).set 0 a = a :: l := List.set_cons_zero
theorem sS {α : Type} {l : List α} {x a : α} {i : Nat} : (x :: l).set (i + 1) a = x :: l.set i a := List.set_cons_succ
set_option maxRecDepth 100000 in
set_option maxHeartbeats 8000000 in
theorem SweepMoved_any (A A2 : Option Addr) (c c2 : Nat) (p : Pl) (hx sx r k r2 k2 bx by_ kind : Int) (w : World) (hP : PlAt w w.heap.size A c A2 c2 p) :
    Calls Tryz.prog 13 #[.agg #[.slice A p.nodes.length c, .slice A2 p.rails.length c2], .agg #[.int .i64 hx, .int .i64 sx], .agg #[.int .i64 r, .int .i64 k], .agg #[.int .i64 r2, .int .i64 k2], .agg #[.int .i64 bx, .int .i64 by_], .int .i64 kind] w fun e w' => e = .returned (.bool true) ∧ Below w.heap.size w w' := by
  have hrm := hP.rm; have hrc := hP.rc
  have hb5 := (((((Below.refl _ w).alloc (Nat.le_refl _) (.cells #[.slice A p.nodes.length c, .slice A2 p.rails.length c2] 25)).alloc (by simp) (.cells #[.int .i64 hx, .int .i64 sx] 46)).alloc (by simp; omega) (.cells #[.int .i64 r, .int .i64 k] 34)).alloc (by simp; omega) (.cells #[.int .i64 r2, .int .i64 k2] 34)).alloc (by simp; omega) (.cells #[.int .i64 bx, .int .i64 by_] 82)
  obtain ⟨q1, q2, q3, q4, q5⟩ := rows5 w #[.slice A p.nodes.length c, .slice A2 p.rails.length c2] #[.int .i64 hx, .int .i64 sx] #[.int .i64 r, .int .i64 k] #[.int .i64 r2, .int .i64 k2] #[.int .i64 bx, .int .i64 by_] 25 46 34 34 82
  have hz1 : (((((w.alloc (.cells #[.slice A p.nodes.length c, .slice A2 p.rails.length c2] 25)).alloc (.cells #[.int .i64 hx, .int .i64 sx] 46)).alloc (.cells #[.int .i64 r, .int .i64 k] 34)).alloc (.cells #[.int .i64 r2, .int .i64 k2] 34)).alloc (.cells #[.int .i64 bx, .int .i64 by_] 82)).heap.size = w.heap.size + 5 := by simp
  obtain ⟨W1, hW1⟩ : ∃ z, (((((w.alloc (.cells #[.slice A p.nodes.length c, .slice A2 p.rails.length c2] 25)).alloc (.cells #[.int .i64 hx, .int .i64 sx] 46)).alloc (.cells #[.int .i64 r, .int .i64 k] 34)).alloc (.cells #[.int .i64 r2, .int .i64 k2] 34)).alloc (.cells #[.int .i64 bx, .int .i64 by_] 82)) = z := ⟨_, rfl⟩
  rw [hW1] at hb5 q1 q2 q3 q4 q5 hz1
  have HB1 := Lib.hid hb5
  have HB0 := Lib.hid (Below.refl W1.heap.size W1)
  have HR := Lib.hid (show ∀ wx, Below W1.heap.size W1 wx → Rw wx w.heap.size 25 #[.slice A p.nodes.length c, .slice A2 p.rails.length c2] ∧ Rw wx (w.heap.size + 1) 46 #[.int .i64 hx, .int .i64 sx] ∧ Rw wx (w.heap.size + 1 + 1) 34 #[.int .i64 r, .int .i64 k] ∧ Rw wx (w.heap.size + 1 + 1 + 1) 34 #[.int .i64 r2, .int .i64 k2] ∧ Rw wx (w.heap.size + 1 + 1 + 1 + 1) 82 #[.int .i64 bx, .int .i64 by_] from fun wx h => ⟨q1.below h (by omega), q2.below h (by omega), q3.below h (by omega), q4.below h (by omega), q5.below h (by omega)⟩)
  have HPB := Lib.hid (show ∀ wx, Below W1.heap.size W1 wx → PlAt wx wx.heap.size A c A2 c2 p from fun wx h => ((hP.below hb5).below (h.mono hb5.size)).more (Nat.le_trans hb5.size h.size))
  have e0 := q1.cell 0; have e1 := q1.cell 1; have e2 := q2.cell 0; have e3 := q2.cell 1; have e4 := q3.cell 0; have e5 := q3.cell 1; have e6 := q4.cell 0; have e7 := q4.cell 1; have e8 := q5.cell 0; have e9 := q5.cell 1
  obtain ⟨fw, hfw⟩ : ∃ z, fewB p = z := ⟨_, rfl⟩
  obtain ⟨vb, hvb⟩ : ∃ vb : Bool, vb = true ↔ Vld p := by
    by_cases hv : Vld p
    · exact ⟨true, by simp [hv]⟩
    · exact ⟨false, by simp [hv]⟩
  obtain ⟨px, hpx⟩ : ∃ z, prB ⟨hx, sx⟩ = z := ⟨_, rfl⟩
  obtain ⟨s1, hs1⟩ : ∃ z, stripB p r k = z := ⟨_, rfl⟩
  obtain ⟨s2, hs2⟩ : ∃ z, stripB p r2 k2 = z := ⟨_, rfl⟩
  have HEF := Lib.hid hfw; have HEV := Lib.hid hvb; have HEX := Lib.hid hpx; have HES := Lib.hid hs1; have HET := Lib.hid hs2
  have HKN0 := Lib.hid (show ∀ wx, Calls Tryz.prog 16 #[] wx fun e w' => e = .returned (.bool true) ∧ Below wx.heap.size wx w' from fun wx => known_any wx)
  have HFW := Lib.hid (show ∀ wx, Below W1.heap.size W1 wx → Calls Tryz.prog 15 #[.agg #[.slice A p.nodes.length c, .slice A2 p.rails.length c2]] wx fun e w' => e = .returned (.bool fw) ∧ Below wx.heap.size wx w' from fun wx h => by have := few_any A A2 c c2 p wx (HPB.out wx h); rwa [hfw] at this)
  have HVL := Lib.hid (show ∀ wx, Below W1.heap.size W1 wx → Calls Tryz.prog 19 #[.agg #[.slice A p.nodes.length c, .slice A2 p.rails.length c2]] wx fun e w' => e = .returned (.bool vb) ∧ Below wx.heap.size wx w' from fun wx h => (Valid_any A A2 c c2 p wx (HPB.out wx h)).mono (by
    rintro e w' ⟨⟨b, rfl, hb⟩, h2⟩
    refine ⟨?_, h2⟩
    have : b = vb := by rw [Bool.eq_iff_iff]; exact hb.trans hvb.symm
    rw [this]))
  have HPX0 := Lib.hid (show ∀ wx : World, Calls Tryz.prog 29 #[.agg #[.int .i64 hx, .int .i64 sx]] wx fun e w' => e = .returned (.bool px) ∧ Below wx.heap.size wx w' from fun wx => by have := rProfile_any ⟨hx, sx⟩ wx; rwa [hpx] at this)
  have HS10 := Lib.hid (show Vld p → ∀ wx, Below W1.heap.size W1 wx → Calls Tryz.prog 25 #[.agg #[.slice A p.nodes.length c, .slice A2 p.rails.length c2], .agg #[.int .i64 r, .int .i64 k]] wx fun e w' => e = .returned (.bool s1) ∧ Below wx.heap.size wx w' from fun hv wx h => by have := rStrip_any A A2 c c2 p r k wx (HPB.out wx h) hv; rwa [hs1] at this)
  have HS20 := Lib.hid (show Vld p → ∀ wx, Below W1.heap.size W1 wx → Calls Tryz.prog 25 #[.agg #[.slice A p.nodes.length c, .slice A2 p.rails.length c2], .agg #[.int .i64 r2, .int .i64 k2]] wx fun e w' => e = .returned (.bool s2) ∧ Below wx.heap.size wx w' from fun hv wx h => by have := rStrip_any A A2 c c2 p r2 k2 wx (HPB.out wx h) hv; rwa [hs2] at this)
  have HLT := Lib.hid (show w.heap.size < W1.heap.size ∧ w.heap.size + 1 < W1.heap.size ∧ w.heap.size + 1 + 1 < W1.heap.size ∧ w.heap.size + 1 + 1 + 1 < W1.heap.size ∧ w.heap.size + 1 + 1 + 1 + 1 < W1.heap.size from by omega)
  clear hb5 q1 q2 q3 q4 q5 hP hz1 hfw hvb hpx hs1 hs2
  obtain ⟨cv, hcv⟩ : ∃ z, (!(fw && (decide (p.rails.length ≤ 8) && (vb && (px && (s1 && (s2 && (decide (-100000 ≤ bx) && (decide (bx ≤ 100000) && (decide (-100000 ≤ by_) && decide (by_ ≤ 100000))))))))))) = z := ⟨_, rfl⟩
  have HCV := Lib.hid hcv
  clear hcv
  go_enter Tryz.func13, Tryz.ntmps13
  go_upto_region 1 with (fail)
  go_cut [76] from 26 to 76 (fun s76 wx => s76 = .bool cv ∧ Below W1.heap.size W1 wx)
  case first =>
    go_wp2_with fail
    (with_reducible refine (HFW.out _ HB0.out).mono ?_)
    rintro e w3 ⟨rfl, hb3⟩
    have HB3 := Lib.hid hb3
    clear hb3 hW1
    obtain ⟨r1, r2', r3, r4, r5⟩ := HR.out _ HB3.out
    have e0 := r1.cell 0; have e1 := r1.cell 1; have e2 := r2'.cell 0; have e3 := r2'.cell 1; have e4 := r3.cell 0; have e5 := r3.cell 1; have e6 := r4.cell 0; have e7 := r4.cell 1; have e8 := r5.cell 0; have e9 := r5.cell 1
    clear r1 r2' r3 r4 r5
    cases fw with
    | false =>
      go_wp2
      go_meet
      exact ⟨by rw [← HCV.out]; first | rfl | simp, HB3.out⟩
    | true =>
      by_cases n8 : 8 < p.rails.length
      · have n8i : (8 : Int) < (p.rails.length : Int) := by omega
        have HC := Lib.hid (show cv = true from by rw [← HCV.out]; simp; omega)
        go_wp2
        go_meet
        exact ⟨by rw [HC.out]; first | done | rfl | (simp; omega) | simp, HB3.out⟩
      · have n8i : ¬ (8 : Int) < (p.rails.length : Int) := by omega
        have HN8 := Lib.hid (show p.rails.length ≤ 8 by omega)
        clear n8
        go_wp2_with fail
        (with_reducible refine (HVL.out _ HB3.out).mono ?_)
        rintro e w4 ⟨rfl, hb4⟩
        have HB4 := Lib.hid (HB3.out.trans (hb4.mono HB3.out.size))
        clear hb4
        obtain ⟨r1, r2', r3, r4, r5⟩ := HR.out _ HB4.out
        have e0 := r1.cell 0; have e1 := r1.cell 1; have e2 := r2'.cell 0; have e3 := r2'.cell 1; have e4 := r3.cell 0; have e5 := r3.cell 1; have e6 := r4.cell 0; have e7 := r4.cell 1; have e8 := r5.cell 0; have e9 := r5.cell 1
        clear r1 r2' r3 r4 r5
        cases vb with
        | false =>
          go_wp2
          go_meet
          exact ⟨by rw [← HCV.out]; first | rfl | simp, HB4.out⟩
        | true =>
          go_wp2_with fail
          (with_reducible refine (HPX0.out _).mono ?_)
          rintro e w5 ⟨rfl, hb5⟩
          have HB5 := Lib.hid (HB4.out.trans (hb5.mono HB4.out.size))
          clear hb5
          obtain ⟨r1, r2', r3, r4, r5⟩ := HR.out _ HB5.out
          have e0 := r1.cell 0; have e1 := r1.cell 1; have e2 := r2'.cell 0; have e3 := r2'.cell 1; have e4 := r3.cell 0; have e5 := r3.cell 1; have e6 := r4.cell 0; have e7 := r4.cell 1; have e8 := r5.cell 0; have e9 := r5.cell 1
          clear r1 r2' r3 r4 r5
          cases px with
          | false =>
            go_wp2
            go_meet
            exact ⟨by rw [← HCV.out]; first | rfl | simp, HB5.out⟩
          | true =>
            go_wp2_with fail
            (with_reducible refine (HS10.out (by have h := HEV.out; simpa using h) _ HB5.out).mono ?_)
            rintro e w6 ⟨rfl, hb6⟩
            have HB6 := Lib.hid (HB5.out.trans (hb6.mono HB5.out.size))
            clear hb6
            obtain ⟨r1, r2', r3, r4, r5⟩ := HR.out _ HB6.out
            have e0 := r1.cell 0; have e1 := r1.cell 1; have e2 := r2'.cell 0; have e3 := r2'.cell 1; have e4 := r3.cell 0; have e5 := r3.cell 1; have e6 := r4.cell 0; have e7 := r4.cell 1; have e8 := r5.cell 0; have e9 := r5.cell 1
            clear r1 r2' r3 r4 r5
            cases s1 with
            | false =>
              go_wp2
              go_meet
              exact ⟨by rw [← HCV.out]; first | rfl | simp, HB6.out⟩
            | true =>
              go_wp2_with fail
              (with_reducible refine (HS20.out (by have h := HEV.out; simpa using h) _ HB6.out).mono ?_)
              rintro e w7 ⟨rfl, hb7⟩
              have HB7 := Lib.hid (HB6.out.trans (hb7.mono HB6.out.size))
              clear hb7
              obtain ⟨r1, r2', r3, r4, r5⟩ := HR.out _ HB7.out
              have e0 := r1.cell 0; have e1 := r1.cell 1; have e2 := r2'.cell 0; have e3 := r2'.cell 1; have e4 := r3.cell 0; have e5 := r3.cell 1; have e6 := r4.cell 0; have e7 := r4.cell 1; have e8 := r5.cell 0; have e9 := r5.cell 1
              clear r1 r2' r3 r4 r5
              cases s2 with
              | false =>
                go_wp2
                go_meet
                exact ⟨by rw [← HCV.out]; first | rfl | simp, HB7.out⟩
              | true =>
                by_cases y1 : bx < -100000
                · have HC := Lib.hid (show cv = true from by rw [← HCV.out]; simp; omega)
                  go_wp2
                  go_meet
                  exact ⟨by rw [HC.out]; first | done | rfl | (simp; omega) | simp, HB7.out⟩
                · have y1n : ¬ bx < -100000 := by omega
                  by_cases y2 : 100000 < bx
                  · have HC := Lib.hid (show cv = true from by rw [← HCV.out]; simp; omega)
                    go_wp2
                    go_meet
                    exact ⟨by rw [HC.out]; first | done | rfl | (simp; omega) | simp, HB7.out⟩
                  · have y2n : ¬ 100000 < bx := by omega
                    by_cases y3 : by_ < -100000
                    · have HC := Lib.hid (show cv = true from by rw [← HCV.out]; simp; omega)
                      go_wp2
                      go_meet
                      exact ⟨by rw [HC.out]; first | done | rfl | (simp; omega) | simp, HB7.out⟩
                    · have y3n : ¬ by_ < -100000 := by omega
                      by_cases y4 : 100000 < by_
                      · have HC := Lib.hid (show cv = true from by rw [← HCV.out]; simp; omega)
                        go_wp2
                        go_meet
                        exact ⟨by rw [HC.out]; first | done | rfl | (simp; omega) | simp, HB7.out⟩
                      · have y4n : ¬ 100000 < by_ := by omega
                        have HC := Lib.hid (show cv = false from by rw [← HCV.out]; have := HN8.out; simp; omega)
                        go_wp2
                        go_meet
                        exact ⟨by rw [HC.out]; first | done | rfl | (simp; omega) | simp, HB7.out⟩
  case rest =>
  obtain ⟨rfl, hb3⟩ := hcut
  obtain ⟨W3, rfl⟩ : ∃ z, z = wc := ⟨_, rfl⟩
  have HB3 := Lib.hid hb3
  clear hb3 hW1
  obtain ⟨r1, r2', r3, r4, r5⟩ := HR.out _ HB3.out
  have e0 := r1.cell 0; have e1 := r1.cell 1; have e2 := r2'.cell 0; have e3 := r2'.cell 1; have e4 := r3.cell 0; have e5 := r3.cell 1; have e6 := r4.cell 0; have e7 := r4.cell 1; have e8 := r5.cell 0; have e9 := r5.cell 1
  clear r1 r2' r3 r4 r5
  cases cv with
  | true =>
    go_wp2_with fail
    (with_reducible refine (HKN0.out _).mono ?_)
    rintro e w4 ⟨rfl, hb4⟩
    have HB4 := Lib.hid (HB3.out.trans (hb4.mono HB3.out.size))
    clear hb4
    go_wp2
    go_ret
    exact ⟨rfl, HB1.out.trans (HB4.out.mono HB1.out.size)⟩
  | false =>
    have hcv := HCV.out
    simp only [Bool.not_eq_false', Bool.and_eq_true, decide_eq_true_eq] at hcv
    obtain ⟨rfl, hn8, rfl, rfl, rfl, rfl, y1, y2, y3, y4⟩ := hcv
    have hV : Vld p := HEV.out.1 rfl
    have HV := Lib.hid hV
    have HN12 := Lib.hid (few_le HEF.out)
    have HBY := Lib.hid (show inR ⟨bx, by_⟩ from ⟨by show -10000000 ≤ bx; omega, by show bx ≤ 10000000; omega, by show -10000000 ≤ by_; omega, by show by_ ≤ 10000000; omega⟩)
    obtain ⟨nr0, jr0, L, er, ek, hL, hkL⟩ := strip_nat2 hV HES.out
    obtain ⟨nr1, jr1, L2, er2, ek2, hL2, hkL2⟩ := strip_nat2 hV HET.out
    subst er ek er2 ek2
    have hrne : p.rails ≠ [] := by intro e; have := hL.hr; rw [e] at this; simp at this
    have hnne : p.nodes ≠ [] := by intro e; have := hL.h1; unfold nodeIx at this; rw [e] at this; simp at this; omega
    have HL := Lib.hid (And.intro (And.intro hL hkL) (And.intro hL2 hkL2))
    obtain ⟨zs, hzs, hzg, hzl⟩ := PlAt.ncs (HPB.out _ HB0.out) hnne
    obtain ⟨rs, hrs, hrg, hrl⟩ := PlAt.rcs (HPB.out _ HB0.out) hrne
    have HZN := Lib.hid hzs; have HRN := Lib.hid hrs
    have HNE := Lib.hid (show zs ≠ [] ∧ rs ≠ [] from ⟨by rintro rfl; exact hnne (by rw [← hzs]; rfl), by rintro rfl; exact hrne (by rw [← hrs]; rfl)⟩)
    have HZS := Lib.hid (show ∀ wx, Below W1.heap.size W1 wx → Sl wx W1.heap.size 5 (fun z cs => cs = fNC z) A zs from fun wx h => hzl.below h)
    have HRS := Lib.hid (show ∀ wx, Below W1.heap.size W1 wx → Sl wx W1.heap.size 5 (fun z cs => cs = fRC z) A2 rs from fun wx h => hrl.below h)
    have HZG := Lib.hid (show ∀ wx, Below W1.heap.size W1 wx → ∀ z ∈ zs, GN wx wx.heap.size z from fun wx h z hz => (hzg z hz).keep h.size (fun b hb => h.block b hb))
    obtain ⟨nn, hnn⟩ : ∃ z, p.nodes.length = z := ⟨_, rfl⟩
    obtain ⟨nr, hnr⟩ : ∃ z, p.rails.length = z := ⟨_, rfl⟩
    have HNN := Lib.hid (show zs.length = nn from by rw [← hnn, ← hzs]; simp)
    have HNR := Lib.hid (show rs.length = nr from by rw [← hnr, ← hrs]; simp)
    have HPN := Lib.hid hnn; have HPR := Lib.hid hnr
    have HSM := Lib.hid (show nn ≤ 16 ∧ nr ≤ 8 from ⟨by rw [← hnn]; exact few_nodes HEF.out, by rw [← hnr]; exact hn8⟩)
    rw [hnn] at e0
    rw [hnr] at e1
    obtain ⟨i87, hi87, ha0, ha1, ha2⟩ := info_parts info87
    obtain ⟨i63, hi63, hd0, hd1, hd2⟩ := info_parts info63
    have HI := Lib.hid (And.intro (And.intro hi87 (And.intro ha0 (And.intro ha1 ha2))) (And.intro hi63 (And.intro hd0 (And.intro hd1 hd2))))
    clear hV hn8 y1 y2 y3 y4 hL hkL hL2 hkL2 hrne hnne hzs hzg hzl hrs hrg hrl hnn hnr hi87 ha0 ha1 ha2 hi63 hd0 hd1 hd2 e4 e5 e6 e7 e2 e3
    go_upto_region 3 with (fail)
    go_cut [13] from 78 to 84 (fun s13 wx => ∃ K g1 c1 g2 cc2 : Nat, s13 = .pointer (some ⟨K, 0, none⟩) ∧ Q3 W1.heap.size K g1 c1 g2 cc2 nn nr W1 zs rs wx)
    case first =>
      have hbq : Below W1.heap.size W1 W3.drew := HB3.out.drew
      have HSK := Lib.hid (show ∀ wx, Below W1.heap.size W1 wx → (wx.cell? ⟨w.heap.size, 0, none⟩ = some (.slice A nn c) ∧ wx.cell? ⟨w.heap.size, 1, none⟩ = some (.slice A2 nr c2)) from fun wx h => by
        obtain ⟨r1, -, -, -, -⟩ := HR.out _ h
        have c0 := r1.cell 0; have c1 := r1.cell 1
        have h1 := HPN.out; have h2 := HPR.out
        simp only [h1, h2] at c0 c1
        exact ⟨c0, c1⟩)
      have HS := Lib.hid (HSK.out _ hbq)
      refine wp_region_held_drew (S := fun wx => wx.cell? ⟨w.heap.size, 0, none⟩ = some (.slice A nn c) ∧ wx.cell? ⟨w.heap.size, 1, none⟩ = some (.slice A2 nr c2)) (by kernel_rfl) HS.out (fun _ => ?_)
      refine hTk (i := 0) (d := 78) (v := .pointer (some ⟨w.heap.size, 0, none⟩)) rfl rfl (Or.inl ⟨rfl, by rintro W' ⟨x0, x1⟩; go_simp⟩) HS.out ?_
      simp only [Act.put, sB, sZ, sS]
      refine hTk (i := 1) (d := 79) (v := .slice A nn c) rfl rfl (Or.inl ⟨rfl, by rintro W' ⟨x0, x1⟩; go_simp⟩) HS.out ?_
      simp only [Act.put, sB, sZ, sS]
      refine hTk (i := 3) (d := 81) (v := .pointer (some ⟨w.heap.size, 1, none⟩)) rfl rfl (Or.inl ⟨rfl, by rintro W' ⟨x0, x1⟩; go_simp⟩) HS.out ?_
      simp only [Act.put, sB, sZ, sS]
      refine hTk (i := 4) (d := 82) (v := .slice A2 nr c2) rfl rfl (Or.inl ⟨rfl, by rintro W' ⟨x0, x1⟩; go_simp⟩) HS.out ?_
      simp only [Act.put, sB, sZ, sS]
      refine wpAnyH_ready (rs := [2, 7]) (by kernel_rfl) (by simp) ?_
      refine AllReadyH.cons rfl (fun K hK => ?_) (AllReadyH.cons rfl (fun K hK => ?_) AllReadyH.nil)
      · rw [if_pos (by rfl)]
        refine wp_copy _ (.const (.slice none 0 0)) (.tmp 79) _ rfl W1.heap.size 87 i87 _ 5 56 Tryz.underlying22 HI.out.1.1 HI.out.1.2.1 HI.out.1.2.2.1 HI.out.1.2.2.2 rfl (by omega) fNC_len fNC_one rfl _ A zs nn c HNN.out rfl (HZS.out _ hbq) HNE.out.1 (by unfold maxLen; have := HNN.out; have := HSM.out.1; omega) (by have := HNN.out; have := HSM.out.1; omega) hbq.size ?_
        intro g1 c1 wa eg1 o1 lc1 mc1 hbn
        replace hbq := hbq.trans (hbn.mono hbq.size)
        clear hbn eg1
        have HS := Lib.hid (HSK.out _ hbq)
        refine hK.out _ _ HS.out (fun _ => ?_)
        clear hK K
        try simp only [Act.put, sB, sZ, sS]
        refine wpAnyH_ready (rs := [5, 7]) (by kernel_rfl) (by simp) ?_
        refine AllReadyH.cons rfl (fun K hK => ?_) (AllReadyH.cons rfl (fun K hK => ?_) AllReadyH.nil)
        · rw [if_pos (by rfl)]
          refine wp_copy _ (.const (.slice none 0 0)) (.tmp 82) _ rfl W1.heap.size 63 i63 _ 5 56 Tryz.underlying23 HI.out.2.1 HI.out.2.2.1 HI.out.2.2.2.1 HI.out.2.2.2.2 rfl (by omega) fRC_len fRC_one rfl _ A2 rs nr c2 HNR.out rfl (HRS.out _ hbq) HNE.out.2 (by unfold maxLen; have := HNR.out; have := HSM.out.2; omega) (by have := HNR.out; have := HSM.out.2; omega) hbq.size ?_
          intro g2 cc2 wb eg2 o2 lc2 mc2 hbn
          have d12 : g1 < g2 := by rw [eg2]; exact (o1.lt g1 rfl).2
          replace o1 := o1.below hbn (Nat.le_refl _)
          replace hbq := hbq.trans (hbn.mono hbq.size)
          clear hbn eg2
          have HS := Lib.hid (HSK.out _ hbq)
          refine hK.out _ _ HS.out (fun _ => ?_)
          clear hK K
          try simp only [Act.put, sB, sZ, sS]
          refine hTk (i := 6) (d := 84) (v := .agg #[.slice (some ⟨g1, 0, none⟩) nn c1, .slice (some ⟨g2, 0, none⟩) nr cc2]) rfl rfl (Or.inl ⟨rfl, by rintro W' ⟨x0, x1⟩; go_simp⟩) HS.out ?_
          simp only [Act.put, sB, sZ, sS]
          refine wpAnyH_ready (rs := [7]) (by kernel_rfl) (by simp) ?_
          refine AllReadyH.cons rfl (fun K hK => ?_) AllReadyH.nil
          rw [if_pos (by rfl)]
          go_simp
          have hbn : Below wb.heap.size (wb) (wb.alloc (.cells #[.slice none 0 0, .slice none 0 0] 25)) := (Below.refl _ (wb)).alloc (Nat.le_refl _) (.cells #[.slice none 0 0, .slice none 0 0] 25)
          have hkr : Rw (wb.alloc (.cells #[.slice none 0 0, .slice none 0 0] 25)) wb.heap.size 25 #[.slice none 0 0, .slice none 0 0] := Rw.new (wb) _ 25
          obtain ⟨K0, hK0⟩ : ∃ z, wb.heap.size = z := ⟨_, rfl⟩
          have kb : W1.heap.size ≤ K0 := by rw [← hK0]; exact hbq.size
          have d1K : g1 < K0 := by rw [← hK0]; exact (o1.lt g1 rfl).2
          have d2K : g2 < K0 := by rw [← hK0]; exact (o2.lt g2 rfl).2
          replace o1 := o1.below hbn (Nat.le_refl _)
          replace o2 := o2.below hbn (Nat.le_refl _)
          replace hbq := hbq.trans (hbn.mono hbq.size)
          rw [hK0] at hkr ⊢
          clear hbn hK0
          have HS := Lib.hid (HSK.out _ hbq)
          refine hK.out _ _ HS.out (fun _ => ?_)
          clear hK K
          try simp only [Act.put, sB, sZ, sS]
          refine wpAnyH_ready (rs := [8]) (by kernel_rfl) (by simp) ?_
          refine AllReadyH.cons rfl (fun K hK => ?_) AllReadyH.nil
          rw [if_pos (by rfl)]
          refine wp_store_row 25 _ _ rfl K0 rfl #[.slice (some ⟨g1, 0, none⟩) nn c1, .slice (some ⟨g2, 0, none⟩) nr cc2] rfl 25 _ hkr (by kernel_rfl) rfl (by simp [Value.oneCell']) ?_
          have hkr2 := hkr.setRow #[.slice (some ⟨g1, 0, none⟩) nn c1, .slice (some ⟨g2, 0, none⟩) nr cc2]
          have o1q := o1.of_blocks (fun b hb => setRow_other _ K0 b #[.slice (some ⟨g1, 0, none⟩) nn c1, .slice (some ⟨g2, 0, none⟩) nr cc2] (by obtain rfl : g1 = b := Option.some.inj hb; omega))
          have o2q := o2.of_blocks (fun b hb => setRow_other _ K0 b #[.slice (some ⟨g1, 0, none⟩) nn c1, .slice (some ⟨g2, 0, none⟩) nr cc2] (by obtain rfl : g2 = b := Option.some.inj hb; omega))
          replace hbq := below_setRow hbq kb #[.slice (some ⟨g1, 0, none⟩) nn c1, .slice (some ⟨g2, 0, none⟩) nr cc2]
          have HS := Lib.hid (HSK.out _ hbq)
          refine hK.out _ _ HS.out (fun _ => ?_)
          clear hK K
          try simp only [Act.put, sB, sZ, sS]
          refine wpAnyH_done (by kernel_rfl) ?_ _
          go_wp2_with fail
          go_meet
          exact ⟨K0, g1, c1, g2, cc2, rfl, ⟨hkr2, o1q, o2q, kb, by omega, by omega, by omega, hbq, HNN.out, HNR.out, lc1, mc1, lc2, mc2, Nat.le_refl _⟩⟩
        · rw [if_pos (by rfl)]
          go_simp
          have hbn : Below wa.heap.size (wa) (wa.alloc (.cells #[.slice none 0 0, .slice none 0 0] 25)) := (Below.refl _ (wa)).alloc (Nat.le_refl _) (.cells #[.slice none 0 0, .slice none 0 0] 25)
          have hkr : Rw (wa.alloc (.cells #[.slice none 0 0, .slice none 0 0] 25)) wa.heap.size 25 #[.slice none 0 0, .slice none 0 0] := Rw.new (wa) _ 25
          obtain ⟨K0, hK0⟩ : ∃ z, wa.heap.size = z := ⟨_, rfl⟩
          have kb : W1.heap.size ≤ K0 := by rw [← hK0]; exact hbq.size
          have d1K : g1 < K0 := by rw [← hK0]; exact (o1.lt g1 rfl).2
          replace o1 := o1.below hbn (Nat.le_refl _)
          replace hbq := hbq.trans (hbn.mono hbq.size)
          rw [hK0] at hkr ⊢
          clear hbn hK0
          have HS := Lib.hid (HSK.out _ hbq)
          refine hK.out _ _ HS.out (fun _ => ?_)
          clear hK K
          try simp only [Act.put, sB, sZ, sS]
          refine wpAnyH_ready (rs := [5]) (by kernel_rfl) (by simp) ?_
          refine AllReadyH.cons rfl (fun K hK => ?_) AllReadyH.nil
          rw [if_pos (by rfl)]
          refine wp_copy _ (.const (.slice none 0 0)) (.tmp 82) _ rfl W1.heap.size 63 i63 _ 5 56 Tryz.underlying23 HI.out.2.1 HI.out.2.2.1 HI.out.2.2.2.1 HI.out.2.2.2.2 rfl (by omega) fRC_len fRC_one rfl _ A2 rs nr c2 HNR.out rfl (HRS.out _ hbq) HNE.out.2 (by unfold maxLen; have := HNR.out; have := HSM.out.2; omega) (by have := HNR.out; have := HSM.out.2; omega) hbq.size ?_
          intro g2 cc2 wb eg2 o2 lc2 mc2 hbn
          have dK2 : K0 < g2 := by rw [eg2]; exact hkr.lt
          have d12 : g1 < g2 := by rw [eg2]; exact (o1.lt g1 rfl).2
          replace o1 := o1.below hbn (Nat.le_refl _)
          replace hkr := hkr.below hbn hkr.lt
          replace hbq := hbq.trans (hbn.mono hbq.size)
          clear hbn eg2
          have HS := Lib.hid (HSK.out _ hbq)
          refine hK.out _ _ HS.out (fun _ => ?_)
          clear hK K
          try simp only [Act.put, sB, sZ, sS]
          refine hTk (i := 6) (d := 84) (v := .agg #[.slice (some ⟨g1, 0, none⟩) nn c1, .slice (some ⟨g2, 0, none⟩) nr cc2]) rfl rfl (Or.inl ⟨rfl, by rintro W' ⟨x0, x1⟩; go_simp⟩) HS.out ?_
          simp only [Act.put, sB, sZ, sS]
          refine wpAnyH_ready (rs := [8]) (by kernel_rfl) (by simp) ?_
          refine AllReadyH.cons rfl (fun K hK => ?_) AllReadyH.nil
          rw [if_pos (by rfl)]
          refine wp_store_row 25 _ _ rfl K0 rfl #[.slice (some ⟨g1, 0, none⟩) nn c1, .slice (some ⟨g2, 0, none⟩) nr cc2] rfl 25 _ hkr (by kernel_rfl) rfl (by simp [Value.oneCell']) ?_
          have hkr2 := hkr.setRow #[.slice (some ⟨g1, 0, none⟩) nn c1, .slice (some ⟨g2, 0, none⟩) nr cc2]
          have o1q := o1.of_blocks (fun b hb => setRow_other _ K0 b #[.slice (some ⟨g1, 0, none⟩) nn c1, .slice (some ⟨g2, 0, none⟩) nr cc2] (by obtain rfl : g1 = b := Option.some.inj hb; omega))
          have o2q := o2.of_blocks (fun b hb => setRow_other _ K0 b #[.slice (some ⟨g1, 0, none⟩) nn c1, .slice (some ⟨g2, 0, none⟩) nr cc2] (by obtain rfl : g2 = b := Option.some.inj hb; omega))
          replace hbq := below_setRow hbq kb #[.slice (some ⟨g1, 0, none⟩) nn c1, .slice (some ⟨g2, 0, none⟩) nr cc2]
          have HS := Lib.hid (HSK.out _ hbq)
          refine hK.out _ _ HS.out (fun _ => ?_)
          clear hK K
          try simp only [Act.put, sB, sZ, sS]
          refine wpAnyH_done (by kernel_rfl) ?_ _
          go_wp2_with fail
          go_meet
          exact ⟨K0, g1, c1, g2, cc2, rfl, ⟨hkr2, o1q, o2q, kb, by omega, by omega, by omega, hbq, HNN.out, HNR.out, lc1, mc1, lc2, mc2, Nat.le_refl _⟩⟩
      · rw [if_pos (by rfl)]
        go_simp
        have hbn : Below W3.heap.size (W3.drew) ((W3.alloc (.cells #[.slice none 0 0, .slice none 0 0] 25)).drew) := (Below.refl _ (W3.drew)).alloc (Nat.le_refl _) (.cells #[.slice none 0 0, .slice none 0 0] 25)
        have hkr : Rw ((W3.alloc (.cells #[.slice none 0 0, .slice none 0 0] 25)).drew) W3.heap.size 25 #[.slice none 0 0, .slice none 0 0] := Rw.new (W3.drew) _ 25
        obtain ⟨K0, hK0⟩ : ∃ z, W3.heap.size = z := ⟨_, rfl⟩
        have kb : W1.heap.size ≤ K0 := by rw [← hK0]; exact hbq.size
        replace hbq := hbq.trans (hbn.mono hbq.size)
        rw [hK0] at hkr ⊢
        clear hbn hK0
        have HS := Lib.hid (HSK.out _ hbq)
        refine hK.out _ _ HS.out (fun _ => ?_)
        clear hK K
        try simp only [Act.put, sB, sZ, sS]
        refine wpAnyH_ready (rs := [2]) (by kernel_rfl) (by simp) ?_
        refine AllReadyH.cons rfl (fun K hK => ?_) AllReadyH.nil
        rw [if_pos (by rfl)]
        refine wp_copy _ (.const (.slice none 0 0)) (.tmp 79) _ rfl W1.heap.size 87 i87 _ 5 56 Tryz.underlying22 HI.out.1.1 HI.out.1.2.1 HI.out.1.2.2.1 HI.out.1.2.2.2 rfl (by omega) fNC_len fNC_one rfl _ A zs nn c HNN.out rfl (HZS.out _ hbq) HNE.out.1 (by unfold maxLen; have := HNN.out; have := HSM.out.1; omega) (by have := HNN.out; have := HSM.out.1; omega) hbq.size ?_
        intro g1 c1 wa eg1 o1 lc1 mc1 hbn
        have dK1 : K0 < g1 := by rw [eg1]; exact hkr.lt
        replace hkr := hkr.below hbn hkr.lt
        replace hbq := hbq.trans (hbn.mono hbq.size)
        clear hbn eg1
        have HS := Lib.hid (HSK.out _ hbq)
        refine hK.out _ _ HS.out (fun _ => ?_)
        clear hK K
        try simp only [Act.put, sB, sZ, sS]
        refine wpAnyH_ready (rs := [5]) (by kernel_rfl) (by simp) ?_
        refine AllReadyH.cons rfl (fun K hK => ?_) AllReadyH.nil
        rw [if_pos (by rfl)]
        refine wp_copy _ (.const (.slice none 0 0)) (.tmp 82) _ rfl W1.heap.size 63 i63 _ 5 56 Tryz.underlying23 HI.out.2.1 HI.out.2.2.1 HI.out.2.2.2.1 HI.out.2.2.2.2 rfl (by omega) fRC_len fRC_one rfl _ A2 rs nr c2 HNR.out rfl (HRS.out _ hbq) HNE.out.2 (by unfold maxLen; have := HNR.out; have := HSM.out.2; omega) (by have := HNR.out; have := HSM.out.2; omega) hbq.size ?_
        intro g2 cc2 wb eg2 o2 lc2 mc2 hbn
        have dK2 : K0 < g2 := by rw [eg2]; exact hkr.lt
        have d12 : g1 < g2 := by rw [eg2]; exact (o1.lt g1 rfl).2
        replace o1 := o1.below hbn (Nat.le_refl _)
        replace hkr := hkr.below hbn hkr.lt
        replace hbq := hbq.trans (hbn.mono hbq.size)
        clear hbn eg2
        have HS := Lib.hid (HSK.out _ hbq)
        refine hK.out _ _ HS.out (fun _ => ?_)
        clear hK K
        try simp only [Act.put, sB, sZ, sS]
        refine hTk (i := 6) (d := 84) (v := .agg #[.slice (some ⟨g1, 0, none⟩) nn c1, .slice (some ⟨g2, 0, none⟩) nr cc2]) rfl rfl (Or.inl ⟨rfl, by rintro W' ⟨x0, x1⟩; go_simp⟩) HS.out ?_
        simp only [Act.put, sB, sZ, sS]
        refine wpAnyH_ready (rs := [8]) (by kernel_rfl) (by simp) ?_
        refine AllReadyH.cons rfl (fun K hK => ?_) AllReadyH.nil
        rw [if_pos (by rfl)]
        refine wp_store_row 25 _ _ rfl K0 rfl #[.slice (some ⟨g1, 0, none⟩) nn c1, .slice (some ⟨g2, 0, none⟩) nr cc2] rfl 25 _ hkr (by kernel_rfl) rfl (by simp [Value.oneCell']) ?_
        have hkr2 := hkr.setRow #[.slice (some ⟨g1, 0, none⟩) nn c1, .slice (some ⟨g2, 0, none⟩) nr cc2]
        have o1q := o1.of_blocks (fun b hb => setRow_other _ K0 b #[.slice (some ⟨g1, 0, none⟩) nn c1, .slice (some ⟨g2, 0, none⟩) nr cc2] (by obtain rfl : g1 = b := Option.some.inj hb; omega))
        have o2q := o2.of_blocks (fun b hb => setRow_other _ K0 b #[.slice (some ⟨g1, 0, none⟩) nn c1, .slice (some ⟨g2, 0, none⟩) nr cc2] (by obtain rfl : g2 = b := Option.some.inj hb; omega))
        replace hbq := below_setRow hbq kb #[.slice (some ⟨g1, 0, none⟩) nn c1, .slice (some ⟨g2, 0, none⟩) nr cc2]
        have HS := Lib.hid (HSK.out _ hbq)
        refine hK.out _ _ HS.out (fun _ => ?_)
        clear hK K
        try simp only [Act.put, sB, sZ, sS]
        refine wpAnyH_done (by kernel_rfl) ?_ _
        go_wp2_with fail
        go_meet
        exact ⟨K0, g1, c1, g2, cc2, rfl, ⟨hkr2, o1q, o2q, kb, by omega, by omega, by omega, hbq, HNN.out, HNR.out, lc1, mc1, lc2, mc2, Nat.le_refl _⟩⟩
    case rest =>
    obtain ⟨K, g1, c1, g2, cc2, rfl, hq⟩ := hcut
    obtain ⟨W4, rfl⟩ : ∃ z, z = wc := ⟨_, rfl⟩
    have HQ4 := Lib.hid hq
    have k0 := hq.kr.cell 0; have k1 := hq.kr.cell 1
    clear hq e0 e1 e8 e9
    obtain ⟨f, hf⟩ : ∃ f : S → S, (fun s => movedS s ⟨bx, by_⟩ kind) = f := ⟨_, rfl⟩
    have HMV := Lib.hid (show ∀ s wx, inR s → Calls Tryz.prog 45 #[.agg #[.int .i64 s.x, .int .i64 s.y], .agg #[.int .i64 bx, .int .i64 by_], .int .i64 kind] wx fun e w' => e = .returned (.agg #[.int .i64 (f s).x, .int .i64 (f s).y]) ∧ Below wx.heap.size wx w' from fun s wx hs => by rw [← hf]; exact moved_any s ⟨bx, by_⟩ kind wx hs HBY.out)
    have HF := Lib.hid (show ∃ e, Iso f e from by rw [← hf]; exact iso_moved _ _)
    clear hf
    go_wp2
    go_loopw [14] (fun s14 wr => ∃ i : Nat, i ≤ nn ∧ s14 = .int .i64 (i : Int) ∧ Q3 W1.heap.size K g1 c1 g2 cc2 nn nr W1 (zsTo f zs i) rs wr) (fun s14 _ => nn - (intOf s14).toNat)
    case atStart => exact ⟨0, Nat.zero_le _, rfl, by rw [zsTo_zero]; exact HQ4.out⟩
    case round =>
      obtain ⟨i, hi, rfl, hq⟩ := hrel
      have HQ := Lib.hid hq
      have k0 := hq.kr.cell 0; have k1 := hq.kr.cell 1
      have hn16 : nn ≤ 16 := HSM.out.1
      clear hq
      by_cases hin : i < nn
      · have hii : (i : Int) < (nn : Int) := by omega
        have hi0 : (0 : Int) ≤ (i : Int) := by omega
        have HIL := Lib.hid hin
        have hil : i < zs.length := by have := HNN.out; omega
        obtain ⟨z, hz⟩ : ∃ z, zs[i] = z := ⟨_, rfl⟩
        have HZA := Lib.hid (show (zsTo f zs i)[i]? = some z from by rw [zsTo_at f hil, hz])
        have HZN2 := Lib.hid (show zsTo f zs (i + 1) = (zsTo f zs i).set i (mvN f z) from by rw [zsTo_succ f hil, hz])
        have HIR := Lib.hid (show inR z.nd.spot from by
          have hpi : i < p.nodes.length := by have := HPN.out; omega
          have h1 : p.nodes[i]? = some z.nd := by rw [← HZN.out, List.getElem?_map, List.getElem?_eq_getElem hil, hz]; rfl
          have h2 := spots_ok HV.out.nodes i hpi
          rw [List.getElem?_eq_getElem hpi] at h1
          rw [Option.some.inj h1] at h2
          exact (spotB_iff _).1 h2)
        have HCV := Lib.hid (show ∀ wx, Below wr.heap.size wr wx → wx.cell? ⟨g1, i * 5, none⟩ = some (.int .i64 z.nd.spot.x) ∧ wx.cell? ⟨g1, i * 5 + 1, none⟩ = some (.int .i64 z.nd.spot.y) from fun wx h => by
          have q := HQ.out.below h
          obtain ⟨a1, -, -, -⟩ := own_at fNC_len q.ln q.o1
          exact ⟨a1 i z HZA.out 0 _ rfl, a1 i z HZA.out 1 _ rfl⟩)
        have HSQ := Lib.hid (show ∀ (zz : List NC) (wx : World), Q3 W1.heap.size K g1 c1 g2 cc2 nn nr W1 zz rs wx → (wx.cell? ⟨K, 0, none⟩ = some (.slice (some ⟨g1, 0, none⟩) nn c1) ∧ wx.cell? ⟨w.heap.size + 1 + 1 + 1 + 1, 0, none⟩ = some (.int .i64 bx) ∧ wx.cell? ⟨w.heap.size + 1 + 1 + 1 + 1, 1, none⟩ = some (.int .i64 by_) ∧ (∃ v, wx.cell? ⟨g1, i * 5, none⟩ = some (.int .i64 v)) ∧ (∃ v, wx.cell? ⟨g1, i * 5 + 1, none⟩ = some (.int .i64 v)) ∧ wx.frozen? ⟨g1, i * 5, none⟩ = false ∧ wx.frozen? ⟨g1, i * 5 + 1, none⟩ = false) from fun zz wx q => by
          obtain ⟨a1, a2, -, -⟩ := own_at fNC_len q.ln q.o1
          obtain ⟨-, -, -, -, r5⟩ := HR.out _ q.be
          have hl : i < zz.length := by have := q.ln; have := HIL.out; omega
          exact ⟨q.kr.cell 0, r5.cell 0, r5.cell 1, ⟨_, a1 i _ (List.getElem?_eq_getElem hl) 0 _ rfl⟩, ⟨_, a1 i _ (List.getElem?_eq_getElem hl) 1 _ rfl⟩, a2 _, a2 _⟩)
        have HSK := Lib.hid (fun wx (h : Below wr.heap.size wr wx) => HSQ.out _ wx (HQ.out.below h))
        clear hil hz hin
        go_upto_region 7 with (fail)
        have hbq : Below wr.heap.size wr wr.drew := (Below.refl _ _).drew
        have HS := Lib.hid (HSK.out _ hbq)
        refine wp_region_held_drew (S := fun wx => wx.cell? ⟨K, 0, none⟩ = some (.slice (some ⟨g1, 0, none⟩) nn c1) ∧ wx.cell? ⟨w.heap.size + 1 + 1 + 1 + 1, 0, none⟩ = some (.int .i64 bx) ∧ wx.cell? ⟨w.heap.size + 1 + 1 + 1 + 1, 1, none⟩ = some (.int .i64 by_) ∧ (∃ v, wx.cell? ⟨g1, i * 5, none⟩ = some (.int .i64 v)) ∧ (∃ v, wx.cell? ⟨g1, i * 5 + 1, none⟩ = some (.int .i64 v)) ∧ wx.frozen? ⟨g1, i * 5, none⟩ = false ∧ wx.frozen? ⟨g1, i * 5 + 1, none⟩ = false) (by kernel_rfl) HS.out (fun _ => ?_)
        refine hTk (i := 0) (d := 92) (v := .pointer (some ⟨K, 0, none⟩)) rfl rfl (Or.inl ⟨rfl, by rintro W' ⟨x0, x1, x2, ⟨z3, x3⟩, ⟨z4, x4⟩, x5, x6⟩; go_simp⟩) HS.out ?_
        simp only [Act.put, sB, sZ, sS]
        refine hTk (i := 1) (d := 93) (v := .slice (some ⟨g1, 0, none⟩) nn c1) rfl rfl (Or.inl ⟨rfl, by rintro W' ⟨x0, x1, x2, ⟨z3, x3⟩, ⟨z4, x4⟩, x5, x6⟩; go_simp⟩) HS.out ?_
        simp only [Act.put, sB, sZ, sS]
        refine hTk (i := 2) (d := 94) (v := .int .i64 (i : Int)) rfl rfl (Or.inl ⟨rfl, by rintro W' ⟨x0, x1, x2, ⟨z3, x3⟩, ⟨z4, x4⟩, x5, x6⟩; go_simp⟩) HS.out ?_
        simp only [Act.put, sB, sZ, sS]
        refine hTk (i := 3) (d := 95) (v := .pointer (some ⟨K, 0, none⟩)) rfl rfl (Or.inl ⟨rfl, by rintro W' ⟨x0, x1, x2, ⟨z3, x3⟩, ⟨z4, x4⟩, x5, x6⟩; go_simp⟩) HS.out ?_
        simp only [Act.put, sB, sZ, sS]
        refine hTk (i := 4) (d := 96) (v := .slice (some ⟨g1, 0, none⟩) nn c1) rfl rfl (Or.inl ⟨rfl, by rintro W' ⟨x0, x1, x2, ⟨z3, x3⟩, ⟨z4, x4⟩, x5, x6⟩; go_simp⟩) HS.out ?_
        simp only [Act.put, sB, sZ, sS]
        refine hTk (i := 5) (d := 97) (v := .int .i64 (i : Int)) rfl rfl (Or.inl ⟨rfl, by rintro W' ⟨x0, x1, x2, ⟨z3, x3⟩, ⟨z4, x4⟩, x5, x6⟩; go_simp⟩) HS.out ?_
        simp only [Act.put, sB, sZ, sS]
        refine hTk (i := 6) (d := 98) (v := .pointer (some ⟨g1, i * 5, none⟩)) rfl rfl (Or.inl ⟨rfl, by rintro W' ⟨x0, x1, x2, ⟨z3, x3⟩, ⟨z4, x4⟩, x5, x6⟩; go_simp⟩) HS.out ?_
        simp only [Act.put, sB, sZ, sS]
        refine hTk (i := 7) (d := 99) (v := .pointer (some ⟨g1, i * 5, none⟩)) rfl rfl (Or.inl ⟨rfl, by rintro W' ⟨x0, x1, x2, ⟨z3, x3⟩, ⟨z4, x4⟩, x5, x6⟩; go_simp⟩) HS.out ?_
        simp only [Act.put, sB, sZ, sS]
        refine hTk (i := 9) (d := 101) (v := .agg #[.int .i64 bx, .int .i64 by_]) rfl rfl (Or.inl ⟨rfl, by rintro W' ⟨x0, x1, x2, ⟨z3, x3⟩, ⟨z4, x4⟩, x5, x6⟩; go_simp⟩) HS.out ?_
        simp only [Act.put, sB, sZ, sS]
        refine hTk (i := 10) (d := 102) (v := .int .i64 kind) rfl rfl (Or.inl ⟨rfl, by rintro W' ⟨x0, x1, x2, ⟨z3, x3⟩, ⟨z4, x4⟩, x5, x6⟩; go_simp⟩) HS.out ?_
        simp only [Act.put, sB, sZ, sS]
        refine wpAnyH_ready (rs := [8]) (by kernel_rfl) (by simp) ?_
        refine AllReadyH.cons rfl (fun K hK => ?_) AllReadyH.nil
        rw [if_pos (by rfl)]
        obtain ⟨l3, l4⟩ := HCV.out _ hbq
        go_simp
        refine hK.out _ _ HS.out (fun _ => ?_)
        clear l3 l4
        clear hK K
        try simp only [Act.put, sB, sZ, sS]
        refine wpAnyH_ready (rs := [11]) (by kernel_rfl) (by simp) ?_
        refine AllReadyH.cons rfl (fun K hK => ?_) AllReadyH.nil
        rw [if_pos (by rfl)]
        go_simp
        go_at_call 45
        (with_reducible refine (HMV.out z.nd.spot _ HIR.out).mono ?_)
        rintro e wc ⟨rfl, hbn⟩
        replace hbq := hbq.trans (hbn.mono hbq.size)
        clear hbn
        have HS := Lib.hid (HSK.out _ hbq)
        refine hK.out _ _ HS.out (fun _ => ?_)
        clear hK K
        try simp only [Act.put, sB, sZ, sS]
        refine hTk (i := 12) (d := 104) (v := .pointer (some ⟨g1, i * 5, none⟩)) rfl rfl (Or.inl ⟨rfl, by rintro W' ⟨x0, x1, x2, ⟨z3, x3⟩, ⟨z4, x4⟩, x5, x6⟩; go_simp⟩) HS.out ?_
        simp only [Act.put, sB, sZ, sS]
        refine hTk (i := 13) (d := 105) (v := .pointer (some ⟨g1, i * 5, none⟩)) rfl rfl (Or.inl ⟨rfl, by rintro W' ⟨x0, x1, x2, ⟨z3, x3⟩, ⟨z4, x4⟩, x5, x6⟩; go_simp⟩) HS.out ?_
        simp only [Act.put, sB, sZ, sS]
        refine wpAnyH_ready (rs := [14]) (by kernel_rfl) (by simp) ?_
        refine AllReadyH.cons rfl (fun K hK => ?_) AllReadyH.nil
        rw [if_pos (by rfl)]
        obtain ⟨s0, s1, s2, ⟨z3, s3⟩, ⟨z4, s4⟩, s5, s6⟩ := HS.out
        go_simp
        have hq2 := (HQ.out.below hbq).setN HZA.out (f z.nd.spot).x (f z.nd.spot).y
        have HS2 := Lib.hid (HSQ.out _ _ hq2)
        refine hK.out _ _ HS2.out (fun _ => ?_)
        clear s0 s1 s2 s3 s4 s5 s6 HS2
        clear hK K
        try simp only [Act.put, sB, sZ, sS]
        refine wpAnyH_done (by kernel_rfl) ?_ _
        have HQ2 := Lib.hid hq2
        clear hq2 hbq HS
        go_wp2
        go_roundw
        case rel => exact ⟨i + 1, by have := HIL.out; omega, vi (by omega), by rw [HZN2.out]; exact HQ2.out⟩
        case measure => have := HIL.out; simp [intOf] <;> omega
      · have hii : ¬ (i : Int) < (nn : Int) := by omega
        have hze : zsTo f zs i = zs.map (mvN f) := by have h1 := HNN.out; rw [show i = zs.length by omega, zsTo_all]
        obtain ⟨W5, rfl⟩ : ∃ z, z = wr := ⟨_, rfl⟩
        have HQ5 := Lib.hid (show Q3 W1.heap.size K g1 c1 g2 cc2 nn nr W1 (zs.map (mvN f)) rs W5 from by rw [← hze]; exact HQ.out)
        clear hze hn16 hi
        go_wp2
        go_loopw [15] (fun s15 wr => ∃ (i : Nat) (rx : List RC), i ≤ nr ∧ s15 = .int .i64 (i : Int) ∧ Q3 W1.heap.size K g1 c1 g2 cc2 nn nr W1 (zs.map (mvN f)) rx wr ∧ Rk f p g2 rs i rx wr) (fun s15 _ => nr - (intOf s15).toNat)
        case atStart => exact ⟨0, rs, Nat.zero_le _, rfl, HQ5.out, ⟨fun j z hj => by omega, fun j _ => rfl⟩⟩
        case round =>
          obtain ⟨i, rx, hi, rfl, hq, hk⟩ := hrel
          have HQ := Lib.hid hq; have HK := Lib.hid hk
          have k0 := hq.kr.cell 0; have k1 := hq.kr.cell 1
          have hn8 : nr ≤ 8 := HSM.out.2
          by_cases hin : i < nr
          · have hii : (i : Int) < (nr : Int) := by omega
            have hi0 : (0 : Int) ≤ (i : Int) := by omega
            have HIL := Lib.hid hin
            have hpi : i < p.rails.length := by have := HPR.out; omega
            have hpl := HPB.out _ hq.be
            obtain ⟨bR, oR, aU, cU, eA, gR, hsl, -, -, u0, u1, u2, u3, u4⟩ := PlAt.rail hpl hpi
            obtain ⟨ri, hri⟩ : ∃ u, p.rails[i] = u := ⟨_, rfl⟩
            have hlo := Vld.rl HV.out hpi
            have hsh40 := hlo.hs; have hlR := hlo.hR; have hlen := line_len2 p p.rails[i]
            rw [hri] at hsl u2 hsh40 hlR hlen
            have HRI := Lib.hid (show p.rails[i]? = some ri from by rw [List.getElem?_eq_getElem hpi, hri])
            have HRX := Lib.hid (show ∃ z, rx[i]? = some z ∧ z.rl = ri from by
              have h1 := hk.up i (Nat.le_refl _)
              have h2 : (rs.map (·.rl))[i]? = some ri := by rw [HRN.out]; exact HRI.out
              rw [List.getElem?_map] at h2
              obtain ⟨z, hz, e⟩ := Option.map_eq_some_iff.1 h2
              exact ⟨z, by rw [h1, hz], e⟩)
            obtain ⟨sh, hsh⟩ : ∃ z, ri.shape = z := ⟨_, rfl⟩
            rw [hsh] at hsl u2 hsh40
            have HSH := Lib.hid hsh
            have HIN := Lib.hid (show ∀ j s, sh[j]? = some s → inR s from fun j s hs => by
              obtain ⟨hj, e⟩ := List.getElem?_eq_some_iff.1 hs
              have h1 := hlR (j + 1) (by rw [hlen, hsh]; omega)
              have h2 : sAt (lineOf p ri) (j + 1) = s := by
                unfold sAt lineOf
                rw [List.getElem?_cons_succ, hsh, List.getElem?_append_left hj, hs]; rfl
              rwa [h2] at h1)
            obtain ⟨sl, hsl2⟩ : ∃ z, sh.length = z := ⟨_, rfl⟩
            rw [hsl2] at u2 hsh40
            have HSL := Lib.hid hsl2
            subst eA
            obtain ⟨wo, rfl⟩ : ∃ z, z = wr := ⟨_, rfl⟩
            have HSS := Lib.hid hsl
            have HU2 := Lib.hid (And.intro gR u2)
            obtain ⟨i82, hi82, hx0, hx1, hx2⟩ := info_parts info82
            have HI82 := Lib.hid (And.intro hi82 (And.intro hx0 (And.intro hx1 hx2)))
            have HHD := Lib.hid (show ∀ wx, Below W1.heap.size W1 wx → (wx.cell? ⟨w.heap.size, 1, none⟩ = some (.slice (some ⟨bR, oR, none⟩) nr c2) ∧ wx.cell? ⟨w.heap.size + 1 + 1 + 1 + 1, 0, none⟩ = some (.int .i64 bx) ∧ wx.cell? ⟨w.heap.size + 1 + 1 + 1 + 1, 1, none⟩ = some (.int .i64 by_)) from fun wx h => by
              obtain ⟨r1, -, -, -, r5⟩ := HR.out _ h
              have c1 := r1.cell 1
              have h2 := HPR.out
              simp only [h2] at c1
              exact ⟨c1, r5.cell 0, r5.cell 1⟩)
            clear hq hk hpi hpl hsl hri hlo hlR hlen hsh hsl2 u0 u1 u3 u4 hi82 hx0 hx1 hx2
            go_wp2
            go_loopw [16, 17] (fun s16 s17 wr => ∃ j : Nat, j ≤ sl ∧ s17 = .int .i64 (j : Int) ∧ Own wr wo.heap.size 82 2 fS s16 ((sh.take j).map f) ∧ Below wo.heap.size wo wr) (fun _ s17 _ => sl - (intOf s17).toNat)
            case atStart => exact ⟨0, Nat.zero_le _, rfl, by simpa using Own.nil wo wo.heap.size 82 2 fS, Below.refl _ _⟩
            case round =>
              obtain ⟨j, hj, rfl, ho, hb⟩ := hrel
              have HO16 := Lib.hid ho; have HBo := Lib.hid hb
              have HSO0 := Lib.hid (show ∀ wx, Below wo.heap.size wo wx → (wx.cell? ⟨w.heap.size, 1, none⟩ = some (.slice (some ⟨bR, oR, none⟩) nr c2) ∧ wx.cell? ⟨w.heap.size + 1 + 1 + 1 + 1, 0, none⟩ = some (.int .i64 bx) ∧ wx.cell? ⟨w.heap.size + 1 + 1 + 1 + 1, 1, none⟩ = some (.int .i64 by_)) ∧ wx.cell? ⟨bR, oR + i * 5 + 2, none⟩ = some (.slice aU sl cU) from fun wx h => ⟨HHD.out _ ((HQ.out.below h).be), (h.cell (p := ⟨bR, oR + i * 5 + 2, none⟩) HU2.out.1).trans HU2.out.2⟩)
              obtain ⟨⟨x0, x4, x5⟩, x1⟩ := HSO0.out _ hb
              clear ho hb
              by_cases hjn : j < sl
              · have hji : (j : Int) < (sl : Int) := by omega
                have hj0 : (0 : Int) ≤ (j : Int) := by omega
                have HJL := Lib.hid hjn
                have HLJ := Lib.hid (show j ≤ 40 by omega)
                have hjs : j < sh.length := by have := HSL.out; omega
                obtain ⟨bs, os, eU, gs, p0, p1⟩ := spot_at HSS.out hjs
                obtain ⟨s, hs⟩ : ∃ z, sh[j] = z := ⟨_, rfl⟩
                rw [hs] at p0 p1
                subst eU
                have HIS := Lib.hid (HIN.out j s (by rw [List.getElem?_eq_getElem hjs, hs]))
                have HTK := Lib.hid (show (sh.take (j + 1)).map f = (sh.take j).map f ++ [f s] from by
                  rw [List.take_succ_eq_append_getElem hjs, List.map_append, hs]; rfl)
                have HSO := Lib.hid (show ∀ wx, Below wo.heap.size wo wx → (wx.cell? ⟨w.heap.size, 1, none⟩ = some (.slice (some ⟨bR, oR, none⟩) nr c2) ∧ wx.cell? ⟨bR, oR + i * 5 + 2, none⟩ = some (.slice (some ⟨bs, os, none⟩) sl cU) ∧ wx.cell? ⟨bs, os + j * 2, none⟩ = some (.int .i64 s.x) ∧ wx.cell? ⟨bs, os + j * 2 + 1, none⟩ = some (.int .i64 s.y) ∧ wx.cell? ⟨w.heap.size + 1 + 1 + 1 + 1, 0, none⟩ = some (.int .i64 bx) ∧ wx.cell? ⟨w.heap.size + 1 + 1 + 1 + 1, 1, none⟩ = some (.int .i64 by_)) from fun wx h => by
                  obtain ⟨⟨a0, a4, a5⟩, a1⟩ := HSO0.out _ h
                  exact ⟨a0, a1, (h.cell (p := ⟨bs, os + j * 2, none⟩) gs).trans p0, (h.cell (p := ⟨bs, os + j * 2 + 1, none⟩) gs).trans p1, a4, a5⟩)
                have HSK := Lib.hid (fun wx (h : Below wr.heap.size wr wx) => HSO.out wx (HBo.out.trans (h.mono HBo.out.size)))
                clear hjs hs p0 p1 gs hjn
                go_upto_region 15 with (fail)
                have hbq : Below wr.heap.size wr wr.drew := (Below.refl _ _).drew
                have HS := Lib.hid (HSK.out _ hbq)
                refine wp_region_held_drew (S := fun wx => (wx.cell? ⟨w.heap.size, 1, none⟩ = some (.slice (some ⟨bR, oR, none⟩) nr c2) ∧ wx.cell? ⟨bR, oR + i * 5 + 2, none⟩ = some (.slice (some ⟨bs, os, none⟩) sl cU) ∧ wx.cell? ⟨bs, os + j * 2, none⟩ = some (.int .i64 s.x) ∧ wx.cell? ⟨bs, os + j * 2 + 1, none⟩ = some (.int .i64 s.y) ∧ wx.cell? ⟨w.heap.size + 1 + 1 + 1 + 1, 0, none⟩ = some (.int .i64 bx) ∧ wx.cell? ⟨w.heap.size + 1 + 1 + 1 + 1, 1, none⟩ = some (.int .i64 by_))) (by kernel_rfl) HS.out (fun _ => ?_)
                refine hTk (i := 0) (d := 124) (v := u16) rfl rfl (Or.inl ⟨rfl, by rintro W' ⟨x0, x1, x2, x3, x4, x5⟩; go_simp⟩) HS.out ?_
                simp only [Act.put, sB, sZ, sS]
                refine hTk (i := 1) (d := 125) (v := .pointer (some ⟨w.heap.size, 1, none⟩)) rfl rfl (Or.inl ⟨rfl, by rintro W' ⟨x0, x1, x2, x3, x4, x5⟩; go_simp⟩) HS.out ?_
                simp only [Act.put, sB, sZ, sS]
                refine hTk (i := 2) (d := 126) (v := .slice (some ⟨bR, oR, none⟩) nr c2) rfl rfl (Or.inl ⟨rfl, by rintro W' ⟨x0, x1, x2, x3, x4, x5⟩; go_simp⟩) HS.out ?_
                simp only [Act.put, sB, sZ, sS]
                refine hTk (i := 3) (d := 127) (v := .int .i64 (i : Int)) rfl rfl (Or.inl ⟨rfl, by rintro W' ⟨x0, x1, x2, x3, x4, x5⟩; go_simp⟩) HS.out ?_
                simp only [Act.put, sB, sZ, sS]
                refine hTk (i := 4) (d := 128) (v := .pointer (some ⟨bR, oR + i * 5, none⟩)) rfl rfl (Or.inl ⟨rfl, by rintro W' ⟨x0, x1, x2, x3, x4, x5⟩; go_simp⟩) HS.out ?_
                simp only [Act.put, sB, sZ, sS]
                refine hTk (i := 5) (d := 129) (v := .pointer (some ⟨bR, oR + i * 5 + 2, none⟩)) rfl rfl (Or.inl ⟨rfl, by rintro W' ⟨x0, x1, x2, x3, x4, x5⟩; go_simp⟩) HS.out ?_
                simp only [Act.put, sB, sZ, sS]
                refine hTk (i := 6) (d := 130) (v := .slice (some ⟨bs, os, none⟩) sl cU) rfl rfl (Or.inl ⟨rfl, by rintro W' ⟨x0, x1, x2, x3, x4, x5⟩; go_simp⟩) HS.out ?_
                simp only [Act.put, sB, sZ, sS]
                refine hTk (i := 7) (d := 131) (v := .int .i64 (j : Int)) rfl rfl (Or.inl ⟨rfl, by rintro W' ⟨x0, x1, x2, x3, x4, x5⟩; go_simp⟩) HS.out ?_
                simp only [Act.put, sB, sZ, sS]
                refine hTk (i := 8) (d := 132) (v := .pointer (some ⟨bs, os + j * 2, none⟩)) rfl rfl (Or.inl ⟨rfl, by rintro W' ⟨x0, x1, x2, x3, x4, x5⟩; go_simp⟩) HS.out ?_
                simp only [Act.put, sB, sZ, sS]
                refine hTk (i := 9) (d := 133) (v := .agg #[.int .i64 s.x, .int .i64 s.y]) rfl rfl (Or.inl ⟨rfl, by rintro W' ⟨x0, x1, x2, x3, x4, x5⟩; go_simp⟩) HS.out ?_
                simp only [Act.put, sB, sZ, sS]
                refine hTk (i := 10) (d := 134) (v := .agg #[.int .i64 bx, .int .i64 by_]) rfl rfl (Or.inl ⟨rfl, by rintro W' ⟨x0, x1, x2, x3, x4, x5⟩; go_simp⟩) HS.out ?_
                simp only [Act.put, sB, sZ, sS]
                refine hTk (i := 11) (d := 135) (v := .int .i64 kind) rfl rfl (Or.inl ⟨rfl, by rintro W' ⟨x0, x1, x2, x3, x4, x5⟩; go_simp⟩) HS.out ?_
                simp only [Act.put, sB, sZ, sS]
                refine wpAnyH_ready (rs := [12]) (by kernel_rfl) (by simp) ?_
                refine AllReadyH.cons rfl (fun K hK => ?_) AllReadyH.nil
                rw [if_pos (by rfl)]
                go_simp
                go_at_call 45
                (with_reducible refine (HMV.out s _ HIS.out).mono ?_)
                rintro e wc ⟨rfl, hbn⟩
                replace hbq := hbq.trans (hbn.mono hbq.size)
                clear hbn
                have HS := Lib.hid (HSK.out _ hbq)
                refine hK.out _ _ HS.out (fun _ => ?_)
                clear hK K
                try simp only [Act.put, sB, sZ, sS]
                refine wpAnyH_ready (rs := [13]) (by kernel_rfl) (by simp) ?_
                refine AllReadyH.cons rfl (fun K hK => ?_) AllReadyH.nil
                rw [if_pos (by rfl)]
                go_simp
                have hbn := hbq.alloc hbq.size (.cells #[.int .i64 (f s).x, .int .i64 (f s).y] 82)
                have HS := Lib.hid (HSK.out _ hbn)
                have hsn : Sl (wc.alloc (.cells #[.int .i64 (f s).x, .int .i64 (f s).y] 82)) (wc.heap.size + 1) 2 CS (some ⟨wc.heap.size, 0, none⟩) [f s] := Sl.new (f := fS) (size := 2) wc 82 (f s) _ rfl
                refine hK.out _ _ HS.out (fun _ => ?_)
                clear hK K
                try simp only [Act.put, sB, sZ, sS]
                refine wpAnyH_ready (rs := [14]) (by kernel_rfl) (by simp) ?_
                refine AllReadyH.cons rfl (fun K hK => ?_) AllReadyH.nil
                rw [if_pos (by rfl)]
                refine wp_app _ (.tmp 124) (.tmp 137) _ rfl wo.heap.size 82 i82 _ 2 16 Tryz.underlying61 HI82.out.1 HI82.out.2.1 HI82.out.2.2.1 HI82.out.2.2.2 rfl (by omega) fS_len fS_one u16 ((sh.take j).map f) rfl ((HO16.out.below hbq (Nat.le_refl _)).alloc _) _ _ [f s] 1 rfl hsn (by unfold maxLen; have := HLJ.out; simp; omega) (by have := HLJ.out; simp; omega) (by have h1 := HBo.out.size; have h2 := hbn.size; omega) (fun _ => .inr ⟨_, rfl⟩) ?_
                intro v2 w9 o9 gr9 at9 ne9
                have hb9 : Below wo.heap.size wo w9 := (HBo.out.trans (hbn.mono HBo.out.size)).grown gr9 (by have h1 := HBo.out.size; have h2 := hbn.size; omega) (fun b hb => (HO16.out.lt b hb).1)
                have HS := Lib.hid (HSO.out _ hb9)
                refine hK.out _ _ HS.out (fun _ => ?_)
                clear hK K
                try simp only [Act.put, sB, sZ, sS]
                refine hTk (i := 15) (d := 16) (v := v2) rfl rfl (Or.inl ⟨rfl, by rintro W' ⟨x0, x1, x2, x3, x4, x5⟩; go_simp⟩) HS.out ?_
                simp only [Act.put, sB, sZ, sS]
                refine wpAnyH_done (by kernel_rfl) ?_ _
                have HO9 := Lib.hid o9; have HB9 := Lib.hid hb9
                clear o9 hb9 gr9 at9 ne9 hbn hsn hbq HS
                go_wp2
                go_roundw
                case rel => exact ⟨j + 1, by have := HJL.out; omega, vi (by omega), by rw [HTK.out]; exact HO9.out, HB9.out⟩
                case measure => have := HJL.out; simp [intOf] <;> omega
              · have hji : ¬ (j : Int) < (sl : Int) := by omega
                have hjt : sh.take j = sh := List.take_of_length_le (by have := HSL.out; omega)
                have ho := HO16.out
                rw [hjt] at ho
                obtain ⟨A16, c16, hv, lc1, lc2, -⟩ := ho.form
                have hml : (sh.map f).length = sl := by rw [List.length_map]; exact HSL.out
                have hsl16 : Sl wr wr.heap.size 2 CS A16 (sh.map f) := Own.sl (f := fS) (size := 2) fS_len ho hv
                have hlt16 := ho.lt
                rw [hml] at hv lc1
                subst hv
                have hq := HQ.out.below HBo.out
                obtain ⟨zr, hzr, hzl⟩ := HRX.out
                have hst := hq.setR hzr A16 (sh.map f) c16
                rw [hml] at hst
                have hb := HBo.out
                have hgr : wo.grownBy wr (some g2) := ⟨hb.os, hb.tape, hb.output, hb.size, fun k hk _ => hb.block k hk⟩
                have hg2 := (HQ.out.o2.lt g2 rfl).2
                have hmr : (movedR f ri).shape = sh.map f := by show ri.shape.map f = _; rw [HSH.out]
                have hgx : GRx g2 wr ⟨movedR f ri, A16, c16⟩ := ⟨⟨by rw [hmr]; exact hsl16, by rw [hmr, hml]; exact lc1, by unfold maxLen at lc2; omega⟩, fun a _ ha => by
                  have h1 : A16 = some a := ha
                  have h2 := hlt16 a.block (by rw [h1]; rfl)
                  omega⟩
                have hrk2 := (HK.out.kept hgr).step hst.2 hzr (by rw [hzl]; exact HRI.out) (A := A16) (c := c16) (by rw [hzl]; exact hgx.kept hst.2)
                have hzs : zr.rl.shape = sh := by rw [hzl]; exact HSH.out
                rw [hzs] at hrk2
                have HST := Lib.hid (And.intro hst.1 hrk2)
                have k0 := hq.kr.cell 0; have k1 := hq.kr.cell 1
                obtain ⟨a1, a2, a3, -⟩ := own_at fRC_len hq.lr hq.o2
                have t0 := a1 i zr hzr 2 _ rfl
                have t1 := a2 (i * 5 + 2)
                clear hjt ho hml hsl16 hlt16 lc1 lc2 hq hzr hzl hst hb hgr hg2 hmr hgx hrk2 hzs a1 a2
                go_wp2
                go_roundw
                case rel => exact ⟨i + 1, _, by have := HIL.out; omega, vi (by omega), HST.out.1, HST.out.2⟩
                case measure => have := HIL.out; simp [intOf] <;> omega
          · have hii : ¬ (i : Int) < (nr : Int) := by omega
            obtain ⟨W6, rfl⟩ : ∃ z, z = wr := ⟨_, rfl⟩
            have hil : i = rx.length := by have := hq.lr; omega
            have hprl : rx.length = p.rails.length := by have h1 := hq.lr; have h2 := HPR.out; omega
            obtain ⟨hra, hrg⟩ := Rk.all (by rw [← hil]; exact hk) hprl
            have hna : (zs.map (mvN f)).map (·.nd) = p.nodes.map (movedN f) := by
              rw [← HZN.out, List.map_map, List.map_map]; rfl
            have hpq : PlAt W6 W6.heap.size (some ⟨g1, 0, none⟩) c1 (some ⟨g2, 0, none⟩) cc2 (movedP f p) := by
              have h1 := plan_of (w := W6) (B := W6.heap.size) (c := c1) (c2 := cc2) (Own.sl (A := some ⟨g1, 0, none⟩) (c := c1) fNC_len hq.o1 (by rw [hq.ln])) (fun z hz => by
                obtain ⟨z0, h0, rfl⟩ := List.mem_map.1 hz
                exact HZG.out W6 hq.be z0 h0) (by rw [hq.ln]; exact hq.l1) hq.m1 (Own.sl (A := some ⟨g2, 0, none⟩) (c := cc2) fRC_len hq.o2 (by rw [hq.lr])) hrg (by rw [hq.lr]; exact hq.l2) hq.m2
              rw [hna, hra] at h1
              exact h1
            have hqn : (movedP f p).nodes.length = nn := by unfold movedP; rw [List.length_map]; exact HPN.out
            have hqr : (movedP f p).rails.length = nr := by unfold movedP; rw [List.length_map]; exact HPR.out
            have HPQ := Lib.hid (show ∀ wx, Below W6.heap.size W6 wx → PlAt wx wx.heap.size (some ⟨g1, 0, none⟩) c1 (some ⟨g2, 0, none⟩) cc2 (movedP f p) from fun wx h => (hpq.below h).more h.size)
            have HQ6 := Lib.hid hq
            have HB6 := Lib.hid hq.be
            have HBB := Lib.hid (Below.refl W6.heap.size W6)
            obtain ⟨vq, hvq⟩ : ∃ vb : Bool, vb = true ↔ Vld (movedP f p) := by
              by_cases hv : Vld (movedP f p)
              · exact ⟨true, by simp [hv]⟩
              · exact ⟨false, by simp [hv]⟩
            have HEQ := Lib.hid hvq
            have HVQ := Lib.hid (show ∀ wx, Below W6.heap.size W6 wx → Calls Tryz.prog 19 #[.agg #[.slice (some ⟨g1, 0, none⟩) nn c1, .slice (some ⟨g2, 0, none⟩) nr cc2]] wx fun e w' => e = .returned (.bool vq) ∧ Below wx.heap.size wx w' from fun wx h => by
              have h9 := Valid_any _ _ c1 cc2 (movedP f p) wx (HPQ.out wx h)
              rw [hqn, hqr] at h9
              exact h9.mono (by
                rintro e w' ⟨⟨b, rfl, hb⟩, h2⟩
                refine ⟨?_, h2⟩
                have : b = vq := by rw [Bool.eq_iff_iff]; exact hb.trans hvq.symm
                rw [this]))
            have HQL := Lib.hid (And.intro hqn hqr)
            clear hil hprl hra hrg hna hpq hqn hqr hq hk hvq hi hn8
            go_wp2_with fail
            (with_reducible refine (HVQ.out _ HBB.out).mono ?_)
            rintro e w7 ⟨rfl, hb7⟩
            have HX7 := Lib.hid hb7
            have HB7 := Lib.hid (HB6.out.trans (hb7.mono HB6.out.size))
            clear hb7 k0 k1
            obtain ⟨r1, r2', r3, r4, -⟩ := HR.out _ HB7.out
            have e0 := r1.cell 0; have e1 := r1.cell 1; have e2 := r2'.cell 0; have e3 := r2'.cell 1; have e4 := r3.cell 0; have e5 := r3.cell 1; have e6 := r4.cell 0; have e7 := r4.cell 1
            rw [HPN.out] at e0
            rw [HPR.out] at e1
            have k0 := (HQ6.out.below HX7.out).kr.cell 0; have k1 := (HQ6.out.below HX7.out).kr.cell 1
            have l0 : w.heap.size < w7.heap.size := r1.lt
            have l1 : w.heap.size + 1 < w7.heap.size := r2'.lt
            have l2 : w.heap.size + 1 + 1 < w7.heap.size := r3.lt
            have l3 : w.heap.size + 1 + 1 + 1 < w7.heap.size := r4.lt
            have l4 : K < w7.heap.size := (HQ6.out.below HX7.out).kr.lt
            clear r1 r2' r3 r4
            cases vq with
            | false =>
              go_wp2_with fail
              (with_reducible refine (HKN0.out _).mono ?_)
              rintro e w8 ⟨rfl, hb8⟩
              have HB8 := Lib.hid (HB7.out.trans (hb8.mono HB7.out.size))
              clear hb8
              go_wp2
              go_ret
              exact ⟨rfl, HB1.out.trans (HB8.out.mono HB1.out.size)⟩
            | true =>
              have hVq : Vld (movedP f p) := by have h := HEQ.out; simpa using h
              have hpp := prB_pr HEX.out
              obtain ⟨⟨hL, hkL⟩, hL2, hkL2⟩ := HL.out
              obtain ⟨ee, hiso⟩ := HF.out
              have HG1 := Lib.hid (show ∀ wx, Below W1.heap.size W1 wx → Calls Tryz.prog 24 #[.agg #[.slice A nn c, .slice A2 nr c2], .agg #[.int .i64 (nr0 : Int), .int .i64 (jr0 : Int)], .agg #[.int .i64 (nr1 : Int), .int .i64 (jr1 : Int)]] wx fun e w' => e = .returned (.tuple #[.int .i64 ((gapW (stripAt nr0 L jr0) (stripAt nr1 L2 jr1) : Nat) : Int), .int .i64 0]) ∧ Below wx.heap.size wx w' from fun wx h => by
                have h9 := Gap_yes A A2 c c2 p nr0 jr0 nr1 jr1 L L2 wx (HPB.out wx h) HV.out hL hkL hL2 hkL2
                rwa [HPN.out, HPR.out] at h9)
              have HG2 := Lib.hid (show ∀ wx, Below W6.heap.size W6 wx → Calls Tryz.prog 24 #[.agg #[.slice (some ⟨g1, 0, none⟩) nn c1, .slice (some ⟨g2, 0, none⟩) nr cc2], .agg #[.int .i64 (nr0 : Int), .int .i64 (jr0 : Int)], .agg #[.int .i64 (nr1 : Int), .int .i64 (jr1 : Int)]] wx fun e w' => e = .returned (.tuple #[.int .i64 ((gapW (stripAt nr0 L jr0) (stripAt nr1 L2 jr1) : Nat) : Int), .int .i64 0]) ∧ Below wx.heap.size wx w' from fun wx h => by
                have h9 := Gap_yes _ _ c1 cc2 (movedP f p) nr0 jr0 nr1 jr1 (L.map f) (L2.map f) wx (HPQ.out wx h) hVq (moved_rl f HV.out hVq hL) (by simpa using hkL) (moved_rl f HV.out hVq hL2) (by simpa using hkL2)
                rwa [HQL.out.1, HQL.out.2, moved_gap hiso hkL hkL2] at h9)
              have HF1 := Lib.hid (show ∀ wx, Below W1.heap.size W1 wx → Calls Tryz.prog 31 #[.agg #[.slice A nn c, .slice A2 nr c2], .slice (some ⟨wx.heap.size, 0, none⟩) 1 1] (wx.alloc (.cells #[.int .i64 hx, .int .i64 sx] 46)) fun e w' => (∃ v, e = .returned (.tuple #[v, .int .i64 0]) ∧ Own w' wx.heap.size 60 4 fF v (foulsL p [⟨hx, sx⟩])) ∧ Below wx.heap.size wx w' from fun wx h => by
                have hb := (Below.refl wx.heap.size wx).alloc (Nat.le_refl _) (.cells #[.int .i64 hx, .int .i64 sx] 46)
                have h9 := Fouls_yes A A2 (some ⟨wx.heap.size, 0, none⟩) c c2 1 1 p [⟨hx, sx⟩] (wx.alloc (.cells #[.int .i64 hx, .int .i64 sx] 46)) (HPB.out _ (h.trans (hb.mono h.size))) HV.out HN12.out rfl (by omega) (by omega) (by rw [World.size_alloc]; exact Sl.new (f := fS) (size := 2) wx 46 (⟨hx, sx⟩ : S) #[.int .i64 hx, .int .i64 sx] rfl) (by simp [HEX.out])
                rw [HPN.out, HPR.out] at h9
                exact h9.mono (by
                  rintro e w' ⟨⟨v, rfl, ho⟩, hb2⟩
                  exact ⟨⟨v, rfl, ho.lower (by simp)⟩, hb.trans (hb2.mono (by simp))⟩))
              have HF2 := Lib.hid (show ∀ wx, Below W6.heap.size W6 wx → Calls Tryz.prog 31 #[.agg #[.slice (some ⟨g1, 0, none⟩) nn c1, .slice (some ⟨g2, 0, none⟩) nr cc2], .slice (some ⟨wx.heap.size, 0, none⟩) 1 1] (wx.alloc (.cells #[.int .i64 hx, .int .i64 sx] 46)) fun e w' => (∃ v, e = .returned (.tuple #[v, .int .i64 0]) ∧ Own w' wx.heap.size 60 4 fF v (foulsL p [⟨hx, sx⟩])) ∧ Below wx.heap.size wx w' from fun wx h => by
                have hb := (Below.refl wx.heap.size wx).alloc (Nat.le_refl _) (.cells #[.int .i64 hx, .int .i64 sx] 46)
                have h9 := Fouls_yes _ _ (some ⟨wx.heap.size, 0, none⟩) c1 cc2 1 1 (movedP f p) [⟨hx, sx⟩] (wx.alloc (.cells #[.int .i64 hx, .int .i64 sx] 46)) (HPQ.out _ (h.trans (hb.mono h.size))) hVq (by rw [HQL.out.2]; have := HSM.out.2; omega) rfl (by omega) (by omega) (by rw [World.size_alloc]; exact Sl.new (f := fS) (size := 2) wx 46 (⟨hx, sx⟩ : S) #[.int .i64 hx, .int .i64 sx] rfl) (by simp [HEX.out])
                rw [HQL.out.1, HQL.out.2, moved_fouls hiso HV.out hVq (by simp [HEX.out])] at h9
                exact h9.mono (by
                  rintro e w' ⟨⟨v, rfl, ho⟩, hb2⟩
                  exact ⟨⟨v, rfl, ho.lower (by simp)⟩, hb.trans (hb2.mono (by simp))⟩))
              have hlen := foulsL_le p [⟨hx, sx⟩] HN12.out (by simp)
              obtain ⟨GG, hG⟩ : ∃ z, gapW (stripAt nr0 L jr0) (stripAt nr1 L2 jr1) = z := ⟨_, rfl⟩
              obtain ⟨LF, hLF⟩ : ∃ z, foulsL p [⟨hx, sx⟩] = z := ⟨_, rfl⟩
              rw [hG] at HG1 HG2
              rw [hLF] at HF1 HF2 hlen
              have HLEN := Lib.hid hlen
              clear hVq hpp hL hkL hL2 hkL2 hiso hlen hG hLF
              go_wp2_with fail
              (with_reducible refine (HG1.out _ HB7.out).mono ?_)
              rintro e w8 ⟨rfl, hb8⟩
              have HX8 := Lib.hid (HX7.out.trans (hb8.mono HX7.out.size))
              have HB8 := Lib.hid (HB7.out.trans (hb8.mono HB7.out.size))
              clear hb8
              clear e0 e1 e2 e3 e4 e5 e6 e7 k0 k1 l0 l1 l2 l3 l4
              obtain ⟨r1, r2', r3, r4, -⟩ := HR.out _ HB8.out
              have e0 := r1.cell 0; have e1 := r1.cell 1; have e2 := r2'.cell 0; have e3 := r2'.cell 1; have e4 := r3.cell 0; have e5 := r3.cell 1; have e6 := r4.cell 0; have e7 := r4.cell 1
              rw [HPN.out] at e0
              rw [HPR.out] at e1
              have k0 := (HQ6.out.below HX8.out).kr.cell 0; have k1 := (HQ6.out.below HX8.out).kr.cell 1
              have l0 : w.heap.size < w8.heap.size := r1.lt
              have l1 : w.heap.size + 1 < w8.heap.size := r2'.lt
              have l2 : w.heap.size + 1 + 1 < w8.heap.size := r3.lt
              have l3 : w.heap.size + 1 + 1 + 1 < w8.heap.size := r4.lt
              have l4 : K < w8.heap.size := (HQ6.out.below HX8.out).kr.lt
              clear r1 r2' r3 r4
              go_wp2_with fail
              (with_reducible refine (HG2.out _ HX8.out).mono ?_)
              rintro e w9 ⟨rfl, hb9⟩
              have HX9 := Lib.hid (HX8.out.trans (hb9.mono HX8.out.size))
              have HB9 := Lib.hid (HB8.out.trans (hb9.mono HB8.out.size))
              clear hb9
              clear e0 e1 e2 e3 e4 e5 e6 e7 k0 k1 l0 l1 l2 l3 l4
              obtain ⟨r1, r2', r3, r4, -⟩ := HR.out _ HB9.out
              have e0 := r1.cell 0; have e1 := r1.cell 1; have e2 := r2'.cell 0; have e3 := r2'.cell 1; have e4 := r3.cell 0; have e5 := r3.cell 1; have e6 := r4.cell 0; have e7 := r4.cell 1
              rw [HPN.out] at e0
              rw [HPR.out] at e1
              have k0 := (HQ6.out.below HX9.out).kr.cell 0; have k1 := (HQ6.out.below HX9.out).kr.cell 1
              have l0 : w.heap.size < w9.heap.size := r1.lt
              have l1 : w.heap.size + 1 < w9.heap.size := r2'.lt
              have l2 : w.heap.size + 1 + 1 < w9.heap.size := r3.lt
              have l3 : w.heap.size + 1 + 1 + 1 < w9.heap.size := r4.lt
              have l4 : K < w9.heap.size := (HQ6.out.below HX9.out).kr.lt
              clear r1 r2' r3 r4
              go_wp2_with fail
              (with_reducible refine (HF1.out _ HB9.out).mono ?_)
              rintro e w10 ⟨⟨v1, rfl, ho1⟩, hb10⟩
              obtain ⟨A9, c9, rfl, -, -, -⟩ := ho1.form
              have HX10 := Lib.hid (HX9.out.trans (hb10.mono HX9.out.size))
              have HB10 := Lib.hid (HB9.out.trans (hb10.mono HB9.out.size))
              have HO1 := Lib.hid ho1
              clear hb10 ho1
              clear e0 e1 e2 e3 e4 e5 e6 e7 k0 k1 l0 l1 l2 l3 l4
              obtain ⟨r1, r2', r3, r4, -⟩ := HR.out _ HB10.out
              have e0 := r1.cell 0; have e1 := r1.cell 1; have e2 := r2'.cell 0; have e3 := r2'.cell 1; have e4 := r3.cell 0; have e5 := r3.cell 1; have e6 := r4.cell 0; have e7 := r4.cell 1
              rw [HPN.out] at e0
              rw [HPR.out] at e1
              have k0 := (HQ6.out.below HX10.out).kr.cell 0; have k1 := (HQ6.out.below HX10.out).kr.cell 1
              have l0 : w.heap.size < w10.heap.size := r1.lt
              have l1 : w.heap.size + 1 < w10.heap.size := r2'.lt
              have l2 : w.heap.size + 1 + 1 < w10.heap.size := r3.lt
              have l3 : w.heap.size + 1 + 1 + 1 < w10.heap.size := r4.lt
              have l4 : K < w10.heap.size := (HQ6.out.below HX10.out).kr.lt
              clear r1 r2' r3 r4
              go_wp2_with fail
              (with_reducible refine (HF2.out _ HX10.out).mono ?_)
              rintro e w11 ⟨⟨v2, rfl, ho2⟩, hb11⟩
              obtain ⟨A8, c8, rfl, -, -, -⟩ := ho2.form
              have HB11 := Lib.hid (HB10.out.trans (hb11.mono HB10.out.size))
              have HSF := Lib.hid (sameFouls_any A9 A8 LF LF c9 c8 w11 (Own.sl (size := 4) fF_len (HO1.out.below hb11 (Nat.le_refl _)) rfl) (Own.sl (size := 4) fF_len ho2 rfl) (by have := HLEN.out; omega))
              clear hb11 ho2 e0 e1 e2 e3 e4 e5 e6 e7 k0 k1 l0 l1 l2 l3 l4
              go_wp2_with fail
              (with_reducible refine (HSF.out).mono ?_)
              rintro e w12 ⟨⟨b, rfl, hbt⟩, hb12⟩
              obtain rfl : b = true := hbt.2 rfl
              have HB12 := Lib.hid (HB11.out.trans (hb12.mono HB11.out.size))
              clear hb12 hbt
              go_wp2_with fail
              (with_reducible refine (HKN0.out _).mono ?_)
              rintro e w13 ⟨rfl, hb13⟩
              have HB13 := Lib.hid (HB12.out.trans (hb13.mono HB12.out.size))
              clear hb13
              go_wp2
              go_ret
              exact ⟨rfl, HB1.out.trans (HB13.out.mono HB1.out.size)⟩
end Go.Proofs.YtekambdnmaompaaGreat.SW
