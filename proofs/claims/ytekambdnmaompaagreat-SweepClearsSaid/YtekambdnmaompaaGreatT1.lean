/- The law SweepClears in general. -/
import Derived.Test.YtekambdnmaompaaGreatJ8
import Derived.Test.YtekambdnmaompaaGreatV1
import Derived.Test.YtekambdnmaompaaGreatK1
import Derived.Test.YtekambdnmaompaaGreatK3
namespace Go.Proofs.YtekambdnmaompaaGreat.SW
set_option linter.unusedVariables false
set_option linter.unusedSimpArgs false
open Go.RowKit

def manyB (fw : Bool) (na nb : Nat) : Bool := !fw || (decide (6 < na) && decide (na ≤ 100)) || (decide (6 < nb) && decide (nb ≤ 100)) || decide (300 < na + nb)
set_option maxRecDepth 100000 in
set_option maxHeartbeats 8000000 in
theorem SweepClears_any (A A2 AP AQ : Option Addr) (c c2 ca cb : Nat) (p : Pl) (a b : List C3) (hx sx hy sy : Int) (w : World) (hP : PlAt w w.heap.size A c A2 c2 p)
    (hSa : Sl w w.heap.size 3 CC AP a) (hSb : Sl w w.heap.size 3 CC AQ b) (hla : a.length ≤ 140737488351232) (hlb : b.length ≤ 140737488351232) :
    Calls Tryz.prog 11 #[.agg #[.slice A p.nodes.length c, .slice A2 p.rails.length c2], .slice AP a.length ca, .agg #[.int .i64 hx, .int .i64 sx], .slice AQ b.length cb, .agg #[.int .i64 hy, .int .i64 sy]] w fun e w' => e = .returned (.bool true) ∧ Below w.heap.size w w' := by
  obtain ⟨na, hna⟩ : ∃ z, a.length = z := ⟨_, rfl⟩
  obtain ⟨nb, hnb⟩ : ∃ z, b.length = z := ⟨_, rfl⟩
  rw [hna] at hla
  rw [hnb] at hlb
  rw [hna, hnb]
  have hb3 := (((Below.refl _ w).alloc (Nat.le_refl _) (.cells #[.slice A p.nodes.length c, .slice A2 p.rails.length c2] 25)).alloc (by simp) (.cells #[.int .i64 hx, .int .i64 sx] 46)).alloc (by simp; omega) (.cells #[.int .i64 hy, .int .i64 sy] 46)
  obtain ⟨q1, q2, q3⟩ := rows3 w #[.slice A p.nodes.length c, .slice A2 p.rails.length c2] #[.int .i64 hx, .int .i64 sx] #[.int .i64 hy, .int .i64 sy] 25 46 46
  have hz1 : (((w.alloc (.cells #[.slice A p.nodes.length c, .slice A2 p.rails.length c2] 25)).alloc (.cells #[.int .i64 hx, .int .i64 sx] 46)).alloc (.cells #[.int .i64 hy, .int .i64 sy] 46)).heap.size = w.heap.size + 3 := by simp
  obtain ⟨W1, hW1⟩ : ∃ z, (((w.alloc (.cells #[.slice A p.nodes.length c, .slice A2 p.rails.length c2] 25)).alloc (.cells #[.int .i64 hx, .int .i64 sx] 46)).alloc (.cells #[.int .i64 hy, .int .i64 sy] 46)) = z := ⟨_, rfl⟩
  rw [hW1] at hb3 q1 q2 q3 hz1
  have HB1 := Lib.hid hb3
  have HB0 := Lib.hid (Below.refl W1.heap.size W1)
  have HR := Lib.hid (show ∀ wx, Below W1.heap.size W1 wx → Rw wx w.heap.size 25 #[.slice A p.nodes.length c, .slice A2 p.rails.length c2] ∧ Rw wx (w.heap.size + 1) 46 #[.int .i64 hx, .int .i64 sx] ∧ Rw wx (w.heap.size + 1 + 1) 46 #[.int .i64 hy, .int .i64 sy] from fun wx h => ⟨q1.below h (by omega), q2.below h (by omega), q3.below h (by omega)⟩)
  have HPB := Lib.hid (show ∀ wx, Below W1.heap.size W1 wx → PlAt wx wx.heap.size A c A2 c2 p from fun wx h => ((hP.below hb3).below (h.mono hb3.size)).more (Nat.le_trans hb3.size h.size))
  have HSA := Lib.hid (show ∀ wx, Below W1.heap.size W1 wx → Sl wx wx.heap.size 3 CC AP a from fun wx h => (hSa.below (hb3.trans (h.mono hb3.size))).more (fun _ _ h => h) (Nat.le_trans hb3.size h.size))
  have HSB := Lib.hid (show ∀ wx, Below W1.heap.size W1 wx → Sl wx wx.heap.size 3 CC AQ b from fun wx h => (hSb.below (hb3.trans (h.mono hb3.size))).more (fun _ _ h => h) (Nat.le_trans hb3.size h.size))
  have HKN := Lib.hid (show ∀ wx, Below W1.heap.size W1 wx → Calls Tryz.prog 16 #[] wx fun e w' => e = .returned (.bool true) ∧ Below wx.heap.size wx w' from fun wx _ => known_any wx)
  obtain ⟨fw, hfw⟩ : ∃ z, fewB p = z := ⟨_, rfl⟩
  have HFW := Lib.hid (show ∀ wx, Below W1.heap.size W1 wx → Calls Tryz.prog 15 #[.agg #[.slice A p.nodes.length c, .slice A2 p.rails.length c2]] wx fun e w' => e = .returned (.bool fw) ∧ Below wx.heap.size wx w' from fun wx h => by have := few_any A A2 c c2 p wx (HPB.out wx h); rwa [hfw] at this)
  have HCL := Lib.hid (show ∀ wx, Below W1.heap.size W1 wx → Calls Tryz.prog 41 #[.agg #[.slice A p.nodes.length c, .slice A2 p.rails.length c2], .slice AP na ca, .agg #[.int .i64 hx, .int .i64 sx], .slice AQ nb cb, .agg #[.int .i64 hy, .int .i64 sy]] wx _ from fun wx h => Clear_any A A2 AP AQ c c2 ca cb na nb p a b hx sx hy sy wx (HPB.out wx h) (HSA.out wx h) (HSB.out wx h) hna hnb)
  obtain ⟨vb, hvb⟩ : ∃ vb : Bool, vb = true ↔ Vld p := by
    by_cases hv : Vld p
    · exact ⟨true, by simp [hv]⟩
    · exact ⟨false, by simp [hv]⟩
  have HVB := Lib.hid hvb
  have HVL := Lib.hid (show ∀ wx, Below W1.heap.size W1 wx → Calls Tryz.prog 19 #[.agg #[.slice A p.nodes.length c, .slice A2 p.rails.length c2]] wx fun e w' => e = .returned (.bool vb) ∧ Below wx.heap.size wx w' from fun wx h => (Valid_any A A2 c c2 p wx (HPB.out wx h)).mono (by
    rintro e w' ⟨⟨b, rfl, hb⟩, h2⟩
    refine ⟨?_, h2⟩
    have : b = vb := by rw [Bool.eq_iff_iff]; exact hb.trans hvb.symm
    rw [this]))
  have HP1 := Lib.hid (show ∀ wx : World, Calls Tryz.prog 29 #[.agg #[.int .i64 hx, .int .i64 sx]] wx fun e w' => e = .returned (.bool (prB ⟨hx, sx⟩)) ∧ Below wx.heap.size wx w' from fun wx => rProfile_any ⟨hx, sx⟩ wx)
  have HP2 := Lib.hid (show ∀ wx : World, Calls Tryz.prog 29 #[.agg #[.int .i64 hy, .int .i64 sy]] wx fun e w' => e = .returned (.bool (prB ⟨hy, sy⟩)) ∧ Below wx.heap.size wx w' from fun wx => rProfile_any ⟨hy, sy⟩ wx)
  have HCA := Lib.hid (show Vld p → na ≤ 300 → ∀ wx, Below W1.heap.size W1 wx → Calls Tryz.prog 42 #[.agg #[.slice A p.nodes.length c, .slice A2 p.rails.length c2], .slice AP na ca] wx fun e w' => e = .returned (.bool (touchB p a)) ∧ Below wx.heap.size wx w' from fun hV h3 wx h => rCovers_any A A2 AP c c2 ca na p a wx (HPB.out wx h) hV (HSA.out wx h) hna h3)
  have HCB := Lib.hid (show Vld p → nb ≤ 300 → ∀ wx, Below W1.heap.size W1 wx → Calls Tryz.prog 42 #[.agg #[.slice A p.nodes.length c, .slice A2 p.rails.length c2], .slice AQ nb cb] wx fun e w' => e = .returned (.bool (touchB p b)) ∧ Below wx.heap.size wx w' from fun hV h3 wx h => rCovers_any A A2 AQ c c2 cb nb p b wx (HPB.out wx h) hV (HSB.out wx h) hnb h3)
  have HRC := Lib.hid (show ClOk p a b hx sx hy sy → na ≤ 300 → nb ≤ 300 → ∀ wx, Below W1.heap.size W1 wx → Calls Tryz.prog 43 #[.agg #[.slice A p.nodes.length c, .slice A2 p.rails.length c2], .slice AP na ca, .agg #[.int .i64 hx, .int .i64 sx], .slice AQ nb cb, .agg #[.int .i64 hy, .int .i64 sy]] wx fun e w' => e = .returned (.bool (!metT p a b hx sx hy sy)) ∧ Below wx.heap.size wx w' from fun hC h3 h4 wx h => by
    have hp := hC.2.1
    rw [Bool.and_eq_true] at hp
    exact rClear_any A A2 AP AQ c c2 ca cb na nb p a b hx sx hy sy wx (HPB.out wx h) hC.1 (prB_pr hp.1) (prB_pr hp.2) (HSA.out wx h) (HSB.out wx h) hna hnb hC.2.2.1.2 hC.2.2.2.2 h3 h4)
  obtain ⟨cv, hcv⟩ : ∃ z, manyB fw na nb = z := ⟨_, rfl⟩
  have HCV := Lib.hid (show cv = (!fw || (decide (6 < na) && decide (na ≤ 100)) || (decide (6 < nb) && decide (nb ≤ 100)) || decide (300 < na + nb)) from hcv.symm)
  have e0 := q1.cell 0; have e1 := q1.cell 1; have e2 := q2.cell 0; have e3 := q2.cell 1; have e4 := q3.cell 0; have e5 := q3.cell 1
  have ws : IntKind.i64.wrap ((na : Int) + (nb : Int)) = (na : Int) + (nb : Int) := by rw [IntKind.wrap_i64]; omega
  clear hb3 q1 q2 q3 hP hSa hSb hna hnb hz1 hcv hfw hvb
  go_enter Tryz.func11, Tryz.ntmps11
  go_upto_region 1 with (fail)
  go_cut [43] from 13 to 43 (fun s43 wx => s43 = .bool cv ∧ Below W1.heap.size W1 wx)
  case first =>
    go_wp2_with fail
    refine (HFW.out _ HB0.out).mono ?_
    rintro e w2 ⟨rfl, hb2⟩
    have HB2 := Lib.hid hb2
    clear hb2 hW1
    cases fw with
    | false =>
      have HC := Lib.hid (show cv = true from by rw [HCV.out]; rfl)
      go_wp2
      go_meet
      exact ⟨by rw [HC.out], HB2.out⟩
    | true =>
      by_cases a6 : 6 < na
      · have a6i : (6 : Int) < (na : Int) := by omega
        by_cases a1 : na ≤ 100
        · have a1i : (na : Int) ≤ 100 := by omega
          have HC := Lib.hid (show cv = true from by rw [HCV.out]; simp [a6, a1])
          go_wp2
          go_meet
          exact ⟨by rw [HC.out]; first | done | rfl | (simp; omega) | simp, HB2.out⟩
        · have a1i : ¬ (na : Int) ≤ 100 := by omega
          by_cases b6 : 6 < nb
          · have b6i : (6 : Int) < (nb : Int) := by omega
            by_cases b1 : nb ≤ 100
            · have b1i : (nb : Int) ≤ 100 := by omega
              have HC := Lib.hid (show cv = true from by rw [HCV.out]; simp [a6, a1, b6, b1])
              go_wp2
              go_meet
              exact ⟨by rw [HC.out]; first | done | rfl | (simp; omega) | simp, HB2.out⟩
            · have b1i : ¬ (nb : Int) ≤ 100 := by omega
              by_cases s3 : 300 < na + nb
              · have s3i : (300 : Int) < (na : Int) + (nb : Int) := by omega
                have HC := Lib.hid (show cv = true from by rw [HCV.out]; simp [a6, a1, b6, b1, s3])
                go_wp2
                go_meet
                exact ⟨by rw [HC.out]; first | done | rfl | (simp; omega) | simp, HB2.out⟩
              · have s3i : ¬ (300 : Int) < (na : Int) + (nb : Int) := by omega
                have HC := Lib.hid (show cv = false from by rw [HCV.out]; simp [a6, a1, b6, b1, s3])
                go_wp2
                go_meet
                exact ⟨by rw [HC.out]; first | done | rfl | (simp; omega) | simp, HB2.out⟩
          · have b6i : ¬ (6 : Int) < (nb : Int) := by omega
            by_cases s3 : 300 < na + nb
            · have s3i : (300 : Int) < (na : Int) + (nb : Int) := by omega
              have HC := Lib.hid (show cv = true from by rw [HCV.out]; simp [a6, a1, b6, s3])
              go_wp2
              go_meet
              exact ⟨by rw [HC.out]; first | done | rfl | (simp; omega) | simp, HB2.out⟩
            · have s3i : ¬ (300 : Int) < (na : Int) + (nb : Int) := by omega
              have HC := Lib.hid (show cv = false from by rw [HCV.out]; simp [a6, a1, b6, s3])
              go_wp2
              go_meet
              exact ⟨by rw [HC.out]; first | done | rfl | (simp; omega) | simp, HB2.out⟩
      · have a6i : ¬ (6 : Int) < (na : Int) := by omega
        by_cases b6 : 6 < nb
        · have b6i : (6 : Int) < (nb : Int) := by omega
          by_cases b1 : nb ≤ 100
          · have b1i : (nb : Int) ≤ 100 := by omega
            have HC := Lib.hid (show cv = true from by rw [HCV.out]; simp [a6, b6, b1])
            go_wp2
            go_meet
            exact ⟨by rw [HC.out]; first | done | rfl | (simp; omega) | simp, HB2.out⟩
          · have b1i : ¬ (nb : Int) ≤ 100 := by omega
            by_cases s3 : 300 < na + nb
            · have s3i : (300 : Int) < (na : Int) + (nb : Int) := by omega
              have HC := Lib.hid (show cv = true from by rw [HCV.out]; simp [a6, b6, b1, s3])
              go_wp2
              go_meet
              exact ⟨by rw [HC.out]; first | done | rfl | (simp; omega) | simp, HB2.out⟩
            · have s3i : ¬ (300 : Int) < (na : Int) + (nb : Int) := by omega
              have HC := Lib.hid (show cv = false from by rw [HCV.out]; simp [a6, b6, b1, s3])
              go_wp2
              go_meet
              exact ⟨by rw [HC.out]; first | done | rfl | (simp; omega) | simp, HB2.out⟩
        · have b6i : ¬ (6 : Int) < (nb : Int) := by omega
          by_cases s3 : 300 < na + nb
          · have s3i : (300 : Int) < (na : Int) + (nb : Int) := by omega
            exact absurd s3 (by omega)
          · have s3i : ¬ (300 : Int) < (na : Int) + (nb : Int) := by omega
            have HC := Lib.hid (show cv = false from by rw [HCV.out]; simp [a6, b6, s3])
            go_wp2
            go_meet
            exact ⟨by rw [HC.out]; first | done | rfl | (simp; omega) | simp, HB2.out⟩
  case rest =>
  obtain ⟨rfl, hb2⟩ := hcut
  have HB2 := Lib.hid hb2
  obtain ⟨r1, r2, r3⟩ := HR.out _ hb2
  have e0 := r1.cell 0; have e1 := r1.cell 1; have e2 := r2.cell 0; have e3 := r2.cell 1; have e4 := r3.cell 0; have e5 := r3.cell 1
  clear hb2 r1 r2 r3 hW1
  cases cv with
  | true =>
    go_wp2_with fail
    refine (HKN.out _ HB2.out).mono ?_
    rintro e w3 ⟨rfl, hb3⟩
    have HB3 := Lib.hid (HB2.out.trans (hb3.mono HB2.out.size))
    clear hb3
    go_wp2
    go_ret
    exact ⟨rfl, HB1.out.trans (HB3.out.mono HB1.out.size)⟩
  | false =>
    have HSM := Lib.hid (show na ≤ 300 ∧ nb ≤ 300 from by
      have h := HCV.out.symm
      rw [Bool.or_eq_false_iff] at h
      have h2 := of_decide_eq_false h.2
      omega)
    clear hla hlb ws
    go_wp2_with fail
    refine (HCL.out _ HB2.out).mono ?_
    rintro e w3 ⟨h, hb3⟩
    have HB3 := Lib.hid (HB2.out.trans (hb3.mono HB2.out.size))
    obtain ⟨r1, r2, r3⟩ := HR.out _ HB3.out
    have e0 := r1.cell 0; have e1 := r1.cell 1; have e2 := r2.cell 0; have e3 := r2.cell 1; have e4 := r3.cell 0; have e5 := r3.cell 1
    clear hb3 r1 r2 r3
    rcases h with ⟨hC, rfl⟩ | ⟨hC, rfl⟩
    · have HC := Lib.hid hC
      obtain ⟨met, hmet⟩ : ∃ z, metT p a b hx sx hy sy = z := ⟨_, rfl⟩
      have HRX := Lib.hid (HRC.out hC HSM.out.1 HSM.out.2)
      rw [hmet] at HRX ⊢
      obtain ⟨px, hpx⟩ : ∃ z, prB ⟨hx, sx⟩ = z := ⟨_, rfl⟩
      have hp := hC.2.1
      rw [Bool.and_eq_true] at hp
      have HV1 := Lib.hid (show ∀ wx, Below W1.heap.size W1 wx → Calls Tryz.prog 19 #[.agg #[.slice A p.nodes.length c, .slice A2 p.rails.length c2]] wx fun e w' => e = .returned (.bool true) ∧ Below wx.heap.size wx w' from fun wx h => by have := HVL.out wx h; rwa [HVB.out.2 hC.1] at this)
      have HX1 := Lib.hid (show ∀ wx : World, Calls Tryz.prog 29 #[.agg #[.int .i64 hx, .int .i64 sx]] wx fun e w' => e = .returned (.bool true) ∧ Below wx.heap.size wx w' from fun wx => by have := HP1.out wx; rwa [hp.1] at this)
      have HX2 := Lib.hid (show ∀ wx : World, Calls Tryz.prog 29 #[.agg #[.int .i64 hy, .int .i64 sy]] wx fun e w' => e = .returned (.bool true) ∧ Below wx.heap.size wx w' from fun wx => by have := HP2.out wx; rwa [hp.2] at this)
      have HA1 := Lib.hid (show ∀ wx, Below W1.heap.size W1 wx → Calls Tryz.prog 42 #[.agg #[.slice A p.nodes.length c, .slice A2 p.rails.length c2], .slice AP na ca] wx fun e w' => e = .returned (.bool true) ∧ Below wx.heap.size wx w' from fun wx h => by have := HCA.out hC.1 HSM.out.1 wx h; rwa [touchB_iff.2 hC.2.2.1] at this)
      have HA2 := Lib.hid (show ∀ wx, Below W1.heap.size W1 wx → Calls Tryz.prog 42 #[.agg #[.slice A p.nodes.length c, .slice A2 p.rails.length c2], .slice AQ nb cb] wx fun e w' => e = .returned (.bool true) ∧ Below wx.heap.size wx w' from fun wx h => by have := HCB.out hC.1 HSM.out.2 wx h; rwa [touchB_iff.2 hC.2.2.2] at this)
      clear hC hmet hpx hp
      go_wp2_with fail
      refine (HV1.out _ HB3.out).mono ?_
      rintro e w11 ⟨rfl, hb11⟩
      have HB11 := Lib.hid (HB3.out.trans (hb11.mono HB3.out.size))
      obtain ⟨r1, r2, r3⟩ := HR.out _ HB11.out
      have e0 := r1.cell 0; have e1 := r1.cell 1; have e2 := r2.cell 0; have e3 := r2.cell 1; have e4 := r3.cell 0; have e5 := r3.cell 1
      clear hb11 r1 r2 r3
      go_wp2_with fail
      refine (HX1.out _).mono ?_
      rintro e w12 ⟨rfl, hb12⟩
      have HB12 := Lib.hid (HB11.out.trans (hb12.mono HB11.out.size))
      obtain ⟨r1, r2, r3⟩ := HR.out _ HB12.out
      have e0 := r1.cell 0; have e1 := r1.cell 1; have e2 := r2.cell 0; have e3 := r2.cell 1; have e4 := r3.cell 0; have e5 := r3.cell 1
      clear hb12 r1 r2 r3
      go_wp2_with fail
      refine (HX2.out _).mono ?_
      rintro e w13 ⟨rfl, hb13⟩
      have HB13 := Lib.hid (HB12.out.trans (hb13.mono HB12.out.size))
      obtain ⟨r1, r2, r3⟩ := HR.out _ HB13.out
      have e0 := r1.cell 0; have e1 := r1.cell 1; have e2 := r2.cell 0; have e3 := r2.cell 1; have e4 := r3.cell 0; have e5 := r3.cell 1
      clear hb13 r1 r2 r3
      go_wp2_with fail
      refine (HA1.out _ HB13.out).mono ?_
      rintro e w14 ⟨rfl, hb14⟩
      have HB14 := Lib.hid (HB13.out.trans (hb14.mono HB13.out.size))
      obtain ⟨r1, r2, r3⟩ := HR.out _ HB14.out
      have e0 := r1.cell 0; have e1 := r1.cell 1; have e2 := r2.cell 0; have e3 := r2.cell 1; have e4 := r3.cell 0; have e5 := r3.cell 1
      clear hb14 r1 r2 r3
      go_wp2_with fail
      refine (HA2.out _ HB14.out).mono ?_
      rintro e w15 ⟨rfl, hb15⟩
      have HB15 := Lib.hid (HB14.out.trans (hb15.mono HB14.out.size))
      obtain ⟨r1, r2, r3⟩ := HR.out _ HB15.out
      have e0 := r1.cell 0; have e1 := r1.cell 1; have e2 := r2.cell 0; have e3 := r2.cell 1; have e4 := r3.cell 0; have e5 := r3.cell 1
      clear hb15 r1 r2 r3
      go_wp2_with fail
      refine (HRX.out _ HB15.out).mono ?_
      rintro e w16 ⟨rfl, hb16⟩
      have HB16 := Lib.hid (HB15.out.trans (hb16.mono HB15.out.size))
      obtain ⟨r1, r2, r3⟩ := HR.out _ HB16.out
      have e0 := r1.cell 0; have e1 := r1.cell 1; have e2 := r2.cell 0; have e3 := r2.cell 1; have e4 := r3.cell 0; have e5 := r3.cell 1
      clear hb16 r1 r2 r3
      go_wp2_with fail
      refine (HKN.out _ HB16.out).mono ?_
      rintro e w17 ⟨rfl, hb17⟩
      have HB17 := Lib.hid (HB16.out.trans (hb17.mono HB16.out.size))
      obtain ⟨r1, r2, r3⟩ := HR.out _ HB17.out
      have e0 := r1.cell 0; have e1 := r1.cell 1; have e2 := r2.cell 0; have e3 := r2.cell 1; have e4 := r3.cell 0; have e5 := r3.cell 1
      clear hb17 r1 r2 r3
      go_wp2
      go_ret
      exact ⟨rfl, HB1.out.trans (HB17.out.mono HB1.out.size)⟩
    · have HC := Lib.hid hC
      clear hC
      go_wp2_with fail
      refine (HVL.out _ HB3.out).mono ?_
      rintro e w18 ⟨rfl, hb18⟩
      have HB18 := Lib.hid (HB3.out.trans (hb18.mono HB3.out.size))
      obtain ⟨r1, r2, r3⟩ := HR.out _ HB18.out
      have e0 := r1.cell 0; have e1 := r1.cell 1; have e2 := r2.cell 0; have e3 := r2.cell 1; have e4 := r3.cell 0; have e5 := r3.cell 1
      clear hb18 r1 r2 r3
      by_cases hV : Vld p
      case neg =>
        have hvf : vb = false := by
          cases h : vb with
          | false => rfl
          | true => exact absurd (HVB.out.1 h) hV
        rw [hvf]
        clear hV hvf
        go_wp2_with fail
        refine (HKN.out _ HB18.out).mono ?_
        rintro e w19 ⟨rfl, hb19⟩
        have HB19 := Lib.hid (HB18.out.trans (hb19.mono HB18.out.size))
        obtain ⟨r1, r2, r3⟩ := HR.out _ HB19.out
        have e0 := r1.cell 0; have e1 := r1.cell 1; have e2 := r2.cell 0; have e3 := r2.cell 1; have e4 := r3.cell 0; have e5 := r3.cell 1
        clear hb19 r1 r2 r3
        go_wp2
        go_ret
        exact ⟨rfl, HB1.out.trans (HB19.out.mono HB1.out.size)⟩
      rw [HVB.out.2 hV]
      have HV := Lib.hid hV
      clear hV
      go_wp2_with fail
      refine (HP1.out _).mono ?_
      rintro e w20 ⟨rfl, hb20⟩
      have HB20 := Lib.hid (HB18.out.trans (hb20.mono HB18.out.size))
      obtain ⟨r1, r2, r3⟩ := HR.out _ HB20.out
      have e0 := r1.cell 0; have e1 := r1.cell 1; have e2 := r2.cell 0; have e3 := r2.cell 1; have e4 := r3.cell 0; have e5 := r3.cell 1
      clear hb20 r1 r2 r3
      obtain ⟨px, hpx⟩ : ∃ z, prB ⟨hx, sx⟩ = z := ⟨_, rfl⟩
      rw [hpx]
      have HPX := Lib.hid hpx
      clear hpx
      cases px with
      | false =>
        go_wp2_with fail
        refine (HKN.out _ HB20.out).mono ?_
        rintro e w21 ⟨rfl, hb21⟩
        have HB21 := Lib.hid (HB20.out.trans (hb21.mono HB20.out.size))
        obtain ⟨r1, r2, r3⟩ := HR.out _ HB21.out
        have e0 := r1.cell 0; have e1 := r1.cell 1; have e2 := r2.cell 0; have e3 := r2.cell 1; have e4 := r3.cell 0; have e5 := r3.cell 1
        clear hb21 r1 r2 r3
        go_wp2
        go_ret
        exact ⟨rfl, HB1.out.trans (HB21.out.mono HB1.out.size)⟩
      | true =>
        go_wp2_with fail
        refine (HP2.out _).mono ?_
        rintro e w22 ⟨rfl, hb22⟩
        have HB22 := Lib.hid (HB20.out.trans (hb22.mono HB20.out.size))
        obtain ⟨r1, r2, r3⟩ := HR.out _ HB22.out
        have e0 := r1.cell 0; have e1 := r1.cell 1; have e2 := r2.cell 0; have e3 := r2.cell 1; have e4 := r3.cell 0; have e5 := r3.cell 1
        clear hb22 r1 r2 r3
        obtain ⟨py, hpy⟩ : ∃ z, prB ⟨hy, sy⟩ = z := ⟨_, rfl⟩
        rw [hpy]
        have HPY := Lib.hid hpy
        clear hpy
        cases py with
        | false =>
          go_wp2_with fail
          refine (HKN.out _ HB22.out).mono ?_
          rintro e w23 ⟨rfl, hb23⟩
          have HB23 := Lib.hid (HB22.out.trans (hb23.mono HB22.out.size))
          obtain ⟨r1, r2, r3⟩ := HR.out _ HB23.out
          have e0 := r1.cell 0; have e1 := r1.cell 1; have e2 := r2.cell 0; have e3 := r2.cell 1; have e4 := r3.cell 0; have e5 := r3.cell 1
          clear hb23 r1 r2 r3
          go_wp2
          go_ret
          exact ⟨rfl, HB1.out.trans (HB23.out.mono HB1.out.size)⟩
        | true =>
          have HCA1 := Lib.hid (HCA.out HV.out HSM.out.1)
          have HCB1 := Lib.hid (HCB.out HV.out HSM.out.2)
          go_wp2_with fail
          refine (HCA1.out _ HB22.out).mono ?_
          rintro e w24 ⟨rfl, hb24⟩
          have HB24 := Lib.hid (HB22.out.trans (hb24.mono HB22.out.size))
          obtain ⟨r1, r2, r3⟩ := HR.out _ HB24.out
          have e0 := r1.cell 0; have e1 := r1.cell 1; have e2 := r2.cell 0; have e3 := r2.cell 1; have e4 := r3.cell 0; have e5 := r3.cell 1
          clear hb24 r1 r2 r3
          obtain ⟨ta, hta⟩ : ∃ z, touchB p a = z := ⟨_, rfl⟩
          rw [hta]
          have HTA := Lib.hid hta
          clear hta
          cases ta with
          | false =>
            go_wp2_with fail
            refine (HKN.out _ HB24.out).mono ?_
            rintro e w25 ⟨rfl, hb25⟩
            have HB25 := Lib.hid (HB24.out.trans (hb25.mono HB24.out.size))
            obtain ⟨r1, r2, r3⟩ := HR.out _ HB25.out
            have e0 := r1.cell 0; have e1 := r1.cell 1; have e2 := r2.cell 0; have e3 := r2.cell 1; have e4 := r3.cell 0; have e5 := r3.cell 1
            clear hb25 r1 r2 r3
            go_wp2
            go_ret
            exact ⟨rfl, HB1.out.trans (HB25.out.mono HB1.out.size)⟩
          | true =>
            go_wp2_with fail
            refine (HCB1.out _ HB24.out).mono ?_
            rintro e w26 ⟨rfl, hb26⟩
            have HB26 := Lib.hid (HB24.out.trans (hb26.mono HB24.out.size))
            obtain ⟨r1, r2, r3⟩ := HR.out _ HB26.out
            have e0 := r1.cell 0; have e1 := r1.cell 1; have e2 := r2.cell 0; have e3 := r2.cell 1; have e4 := r3.cell 0; have e5 := r3.cell 1
            clear hb26 r1 r2 r3
            obtain ⟨tb, htb⟩ : ∃ z, touchB p b = z := ⟨_, rfl⟩
            rw [htb]
            have HTB := Lib.hid htb
            clear htb
            cases tb with
            | false =>
              go_wp2_with fail
              refine (HKN.out _ HB26.out).mono ?_
              rintro e w27 ⟨rfl, hb27⟩
              have HB27 := Lib.hid (HB26.out.trans (hb27.mono HB26.out.size))
              obtain ⟨r1, r2, r3⟩ := HR.out _ HB27.out
              have e0 := r1.cell 0; have e1 := r1.cell 1; have e2 := r2.cell 0; have e3 := r2.cell 1; have e4 := r3.cell 0; have e5 := r3.cell 1
              clear hb27 r1 r2 r3
              go_wp2
              go_ret
              exact ⟨rfl, HB1.out.trans (HB27.out.mono HB1.out.size)⟩
            | true => exact absurd (show ClOk p a b hx sx hy sy from ⟨HV.out, by rw [HPX.out, HPY.out]; rfl, touchB_iff.1 HTA.out, touchB_iff.1 HTB.out⟩) HC.out
end Go.Proofs.YtekambdnmaompaaGreat.SW
