/- The law SweepFouls in general. -/
import Derived.Test.YtekambdnmaompaaGreatJN
import Derived.Test.YtekambdnmaompaaGreatL2
import Derived.Test.YtekambdnmaompaaGreatJ8
import Derived.Test.YtekambdnmaompaaGreatV1
namespace Go.Proofs.YtekambdnmaompaaGreat.SW
set_option linter.unusedVariables false
set_option linter.unusedSimpArgs false
open Go.RowKit
def manyF (fw : Bool) (N n : Nat) : Bool := !fw || decide (8 < N) || (decide (3 < n) && decide (n ≤ 6)) || decide (20 < n)
theorem foulsL_len (p : Pl) (l : List S) (h1 : p.rails.length ≤ 12) (h2 : l.length ≤ 6) : (foulsL p l).length ≤ 6000 := by
  have h := f_len (R := rF p l) (N := p.rails.length) (n := l.length) (a := p.rails.length) (x := 0) (j := 0) (y := 0) h1 h2 (Nat.le_refl _) (Nat.zero_le _) (Nat.zero_le _) (Nat.zero_le _) 0
  unfold foulsL
  simp only [List.length_append] at h
  omega
set_option maxRecDepth 100000 in
set_option maxHeartbeats 8000000 in
theorem SweepFouls_any (A A2 AP : Option Addr) (c c2 cp : Nat) (p : Pl) (l : List S) (w : World) (hP : PlAt w w.heap.size A c A2 c2 p) (hS : Sl w w.heap.size 2 CS AP l) (hl : l.length ≤ 140737488351232) :
    Calls Tryz.prog 7 #[.agg #[.slice A p.nodes.length c, .slice A2 p.rails.length c2], .slice AP l.length cp] w fun e w' => e = .returned (.bool true) ∧ Below w.heap.size w w' := by
  obtain ⟨n, hn⟩ : ∃ z, l.length = z := ⟨_, rfl⟩
  rw [hn] at hl
  rw [hn]
  have hrm := hP.rm
  have hb1 := (Below.refl _ w).alloc (Nat.le_refl _) (.cells #[.slice A p.nodes.length c, .slice A2 p.rails.length c2] 25)
  have q1 := Rw.new w #[.slice A p.nodes.length c, .slice A2 p.rails.length c2] 25
  have hzz : (w.alloc (.cells #[.slice A p.nodes.length c, .slice A2 p.rails.length c2] 25)).heap.size = w.heap.size + 1 := by simp
  obtain ⟨W1, hW1⟩ : ∃ z, w.alloc (.cells #[.slice A p.nodes.length c, .slice A2 p.rails.length c2] 25) = z := ⟨_, rfl⟩
  rw [hW1] at hb1 q1 hzz
  have HB1 := Lib.hid hb1
  have HB0 := Lib.hid (Below.refl W1.heap.size W1)
  have HR := Lib.hid (show ∀ wx, Below W1.heap.size W1 wx → Rw wx w.heap.size 25 #[.slice A p.nodes.length c, .slice A2 p.rails.length c2] from fun wx h => q1.below h (by omega))
  have HPB := Lib.hid (show ∀ wx, Below W1.heap.size W1 wx → PlAt wx wx.heap.size A c A2 c2 p from fun wx h => ((hP.below hb1).below (h.mono hb1.size)).more (Nat.le_trans hb1.size h.size))
  have HSB := Lib.hid (show ∀ wx, Below W1.heap.size W1 wx → Sl wx wx.heap.size 2 CS AP l from fun wx h => (hS.below (hb1.trans (h.mono hb1.size))).more (fun _ _ h => h) (Nat.le_trans hb1.size h.size))
  have HKN := Lib.hid (show ∀ wx, Below W1.heap.size W1 wx → Calls Tryz.prog 16 #[] wx fun e w' => e = .returned (.bool true) ∧ Below wx.heap.size wx w' from fun wx _ => known_any wx)
  obtain ⟨fw, hfw⟩ : ∃ z, fewB p = z := ⟨_, rfl⟩
  have HFW := Lib.hid (show ∀ wx, Below W1.heap.size W1 wx → Calls Tryz.prog 15 #[.agg #[.slice A p.nodes.length c, .slice A2 p.rails.length c2]] wx fun e w' => e = .returned (.bool fw) ∧ Below wx.heap.size wx w' from fun wx h => by have := few_any A A2 c c2 p wx (HPB.out wx h); rwa [hfw] at this)
  obtain ⟨vb, hvb⟩ : ∃ vb : Bool, vb = true ↔ Vld p := by
    by_cases hv : Vld p
    · exact ⟨true, by simp [hv]⟩
    · exact ⟨false, by simp [hv]⟩
  have HVB := Lib.hid hvb
  have HVL := Lib.hid (show ∀ wx, Below W1.heap.size W1 wx → Calls Tryz.prog 19 #[.agg #[.slice A p.nodes.length c, .slice A2 p.rails.length c2]] wx fun e w' => e = .returned (.bool vb) ∧ Below wx.heap.size wx w' from fun wx h => (Valid_any A A2 c c2 p wx (HPB.out wx h)).mono (by
    rintro e w' ⟨⟨b, rfl, hb⟩, h2⟩
    refine ⟨?_, h2⟩
    have : b = vb := by rw [Bool.eq_iff_iff]; exact hb.trans hvb.symm
    rw [this]))
  obtain ⟨ap, hap⟩ : ∃ z, l.all prB = z := ⟨_, rfl⟩
  have HPF := Lib.hid (show n ≤ 20 → ∀ wx, Below W1.heap.size W1 wx → Calls Tryz.prog 32 #[.slice AP n cp] wx fun e w' => e = .returned (.bool (ap && inB n 1 6)) ∧ Below wx.heap.size wx w' from fun h20 wx h => by
    have h9 := rProfiles_any AP cp n l wx hn (by omega) (HSB.out wx h)
    rwa [hap] at h9)
  have HFY := Lib.hid (show (Vld p ∧ 1 ≤ n ∧ n ≤ 6 ∧ ap = true) → p.rails.length ≤ 12 → ∀ wx, Below W1.heap.size W1 wx → Calls Tryz.prog 31 #[.agg #[.slice A p.nodes.length c, .slice A2 p.rails.length c2], .slice AP n cp] wx fun e w' => (∃ v, e = .returned (.tuple #[v, .int .i64 0]) ∧ Own w' wx.heap.size 60 4 fF v (foulsL p l)) ∧ Below wx.heap.size wx w' from fun hk h12 wx h => Fouls_yes A A2 AP c c2 cp n p l wx (HPB.out wx h) hk.1 h12 hn hk.2.1 hk.2.2.1 (HSB.out wx h) (by rw [hap]; exact hk.2.2.2))
  have HFN := Lib.hid (show ¬ (Vld p ∧ 1 ≤ n ∧ n ≤ 6 ∧ ap = true) → n ≤ 20 → ∀ wx, Below W1.heap.size W1 wx → Calls Tryz.prog 31 #[.agg #[.slice A p.nodes.length c, .slice A2 p.rails.length c2], .slice AP n cp] wx fun e w' => e = .returned (.tuple #[.slice none 0 0, .int .i64 2]) ∧ Below wx.heap.size wx w' from fun hk h20 wx h => Fouls_no A A2 AP c c2 cp n p l wx (HPB.out wx h) hn (by omega) (HSB.out wx h) (by rw [hap]; exact hk))
  have HRF := Lib.hid (show (Vld p ∧ 1 ≤ n ∧ n ≤ 6 ∧ ap = true) → p.rails.length ≤ 12 → ∀ wx, Below W1.heap.size W1 wx → Calls Tryz.prog 34 #[.agg #[.slice A p.nodes.length c, .slice A2 p.rails.length c2], .slice AP n cp] wx fun e w' => ∃ v, e = .returned v ∧ Own w' wx.heap.size 60 4 fF v (foulsL p l) ∧ Below wx.heap.size wx w' from fun hk h12 wx h => rFouls_any A A2 AP c c2 cp p.rails.length n p l wx (HPB.out wx h) hk.1 rfl h12 hn hk.2.2.1 (HSB.out wx h) (fun x hx => List.all_eq_true.1 (by rw [hap]; exact hk.2.2.2) x hx))
  have HLN := Lib.hid (show p.rails.length ≤ 12 → n ≤ 6 → (foulsL p l).length ≤ 6000 from fun h1 h2 => foulsL_len p l h1 (by rw [hn]; exact h2))
  have HSM := Lib.hid (show ∀ (B1 B2 : Option Addr) (L : List Fo4) (d1 d2 : Nat) (wx : World), Sl wx wx.heap.size 4 CFo B1 L → Sl wx wx.heap.size 4 CFo B2 L → L.length ≤ 6000 → Calls Tryz.prog 33 #[.slice B1 L.length d1, .slice B2 L.length d2] wx fun e w' => e = .returned (.bool true) ∧ Below wx.heap.size wx w' from fun B1 B2 L d1 d2 wx h1 h2 hL => (sameFouls_any B1 B2 L L d1 d2 wx h1 h2 (by omega)).mono (by
    rintro e w' ⟨⟨b, rfl, hb⟩, h2⟩
    exact ⟨by rw [hb.2 rfl], h2⟩))
  obtain ⟨cv, hcv⟩ : ∃ z, manyF fw p.rails.length n = z := ⟨_, rfl⟩
  have HCV := Lib.hid (show cv = (!fw || decide (8 < p.rails.length) || (decide (3 < n) && decide (n ≤ 6)) || decide (20 < n)) from hcv.symm)
  obtain ⟨L, hL⟩ : ∃ L, foulsL p l = L := ⟨_, rfl⟩
  rw [hL] at HFY HRF HLN
  have e0 := q1.cell 0; have e1 := q1.cell 1
  clear hb1 q1 hP hS hn hzz hcv hfw hvb hap hL
  go_enter Tryz.func7, Tryz.ntmps7
  go_upto_region 1 with (fail)
  go_cut [30] from 7 to 30 (fun s30 wx => s30 = .bool cv ∧ Below W1.heap.size W1 wx)
  case first =>
    go_wp2_with fail
    refine (HFW.out _ HB0.out).mono ?_
    rintro e w2 ⟨rfl, hb2⟩
    have HB2 := Lib.hid hb2
    have r1 := HR.out _ HB2.out
    have f0 := r1.cell 0; have f1 := r1.cell 1
    clear hb2 hW1 r1 e0 e1
    cases fw with
    | false =>
      have HC := Lib.hid (show cv = true from by rw [HCV.out]; simp [])
      go_wp2
      go_meet
      exact ⟨by rw [HC.out]; first | done | rfl | (simp; omega) | simp, HB2.out⟩
    | true =>
      by_cases a8 : 8 < p.rails.length
      · have a8i : (8 : Int) < (p.rails.length : Int) := by omega
        have HC := Lib.hid (show cv = true from by rw [HCV.out]; simp [a8])
        go_wp2
        go_meet
        exact ⟨by rw [HC.out]; first | done | rfl | (simp; omega) | simp, HB2.out⟩
      · have a8i : ¬ (8 : Int) < (p.rails.length : Int) := by omega
        by_cases n3 : 3 < n
        · have n3i : (3 : Int) < (n : Int) := by omega
          by_cases n6 : n ≤ 6
          · have n6i : (n : Int) ≤ 6 := by omega
            have HC := Lib.hid (show cv = true from by rw [HCV.out]; simp [a8, n3, n6])
            go_wp2
            go_meet
            exact ⟨by rw [HC.out]; first | done | rfl | (simp; omega) | simp, HB2.out⟩
          · have n6i : ¬ (n : Int) ≤ 6 := by omega
            by_cases n20 : 20 < n
            · have n20i : (20 : Int) < (n : Int) := by omega
              have HC := Lib.hid (show cv = true from by rw [HCV.out]; simp [a8, n3, n6, n20])
              go_wp2
              go_meet
              exact ⟨by rw [HC.out]; first | done | rfl | (simp; omega) | simp, HB2.out⟩
            · have n20i : ¬ (20 : Int) < (n : Int) := by omega
              have HC := Lib.hid (show cv = false from by rw [HCV.out]; simp [a8, n3, n6, n20])
              go_wp2
              go_meet
              exact ⟨by rw [HC.out]; first | done | rfl | (simp; omega) | simp, HB2.out⟩
        · have n3i : ¬ (3 : Int) < (n : Int) := by omega
          have n20 : ¬ 20 < n := by omega
          have n20i : ¬ (20 : Int) < (n : Int) := by omega
          have HC := Lib.hid (show cv = false from by rw [HCV.out]; simp [a8, n3, n20])
          go_wp2
          go_meet
          exact ⟨by rw [HC.out]; first | done | rfl | (simp; omega) | simp, HB2.out⟩
  case rest =>
  obtain ⟨rfl, hb2⟩ := hcut
  have HB2 := Lib.hid hb2
  have r1 := HR.out _ hb2
  have e0 := r1.cell 0; have e1 := r1.cell 1
  clear hb2 hW1 r1
  cases cv with
  | true =>
    go_wp2_with fail
    (with_reducible refine (HKN.out _ HB2.out).mono ?_)
    rintro e w3 ⟨rfl, hb3⟩
    go_wp2
    go_ret
    exact ⟨rfl, HB1.out.trans ((HB2.out.trans (hb3.mono HB2.out.size)).mono HB1.out.size)⟩
  | false =>
    have hcf := HCV.out
    have hN8 : p.rails.length ≤ 12 ∧ n ≤ 20 := by
      simp only [Bool.false_eq, Bool.or_eq_false_iff, decide_eq_false_iff_not] at hcf
      omega
    clear hcf
    have HN8 := Lib.hid hN8
    clear hN8
    by_cases hok : Vld p ∧ 1 ≤ n ∧ n ≤ 6 ∧ ap = true
    · have HOK := Lib.hid hok
      obtain ⟨hv, h1, h6, rfl⟩ := hok
      obtain rfl : vb = true := HVB.out.2 hv
      have hin : (true && inB n 1 6) = true := by simp [inB]; omega
      have HPF2 := Lib.hid (HPF.out HN8.out.2)
      rw [hin] at HPF2
      clear hv hin
      go_wp2_with fail
      (with_reducible refine (HFY.out HOK.out HN8.out.1 _ HB2.out).mono ?_)
      rintro e w3 ⟨⟨v, rfl, ho⟩, hb3⟩
      obtain ⟨A9, c9, rfl, -, -, -⟩ := ho.form
      have HO := Lib.hid ho
      have HB3 := Lib.hid (HB2.out.trans (hb3.mono HB2.out.size))
      clear ho hb3 e0 e1
      have r1 := HR.out _ HB3.out
      have e0 := r1.cell 0; have e1 := r1.cell 1
      clear r1
      go_wp2_with fail
      (with_reducible refine (HVL.out _ HB3.out).mono ?_)
      rintro e w4 ⟨rfl, hb4⟩
      have HB4 := Lib.hid (HB3.out.trans (hb4.mono HB3.out.size)); have HO4 := Lib.hid (HO.out.below hb4 (Nat.le_refl _))
      clear hb4 e0 e1
      go_wp2_with fail
      (with_reducible refine (HPF2.out _ HB4.out).mono ?_)
      rintro e w5 ⟨rfl, hb5⟩
      have HB5 := Lib.hid (HB4.out.trans (hb5.mono HB4.out.size)); have HO5 := Lib.hid (HO4.out.below hb5 (Nat.le_refl _))
      clear hb5
      have r1 := HR.out _ HB5.out
      have e0 := r1.cell 0; have e1 := r1.cell 1
      clear r1
      go_wp2_with fail
      (with_reducible refine (HRF.out HOK.out HN8.out.1 _ HB5.out).mono ?_)
      rintro e w6 ⟨v, rfl, ho6, hb6⟩
      obtain ⟨A8, c8, rfl, -, -, -⟩ := ho6.form
      have HB6 := Lib.hid (HB5.out.trans (hb6.mono HB5.out.size)); have HO6 := Lib.hid (HO5.out.below hb6 (Nat.le_refl _)); have HQ6 := Lib.hid ho6
      have HS6 := Lib.hid (HSM.out A9 A8 L c9 c8 w6 (Own.sl (size := 4) fF_len HO6.out rfl) (Own.sl (size := 4) fF_len HQ6.out rfl) (HLN.out HN8.out.1 h6))
      clear ho6 hb6 e0 e1
      go_wp2_with fail
      (with_reducible refine HS6.out.mono ?_)
      rintro e w7 ⟨rfl, hb7⟩
      have HB7 := Lib.hid (HB6.out.trans (hb7.mono HB6.out.size))
      clear hb7
      go_wp2_with fail
      (with_reducible refine (HKN.out _ HB7.out).mono ?_)
      rintro e w8 ⟨rfl, hb8⟩
      go_wp2
      go_ret
      exact ⟨rfl, HB1.out.trans ((HB7.out.trans (hb8.mono HB7.out.size)).mono HB1.out.size)⟩
    · have HOK := Lib.hid hok
      go_wp2_with fail
      (with_reducible refine (HFN.out HOK.out HN8.out.2 _ HB2.out).mono ?_)
      rintro e w3 ⟨rfl, hb3⟩
      have HB3 := Lib.hid (HB2.out.trans (hb3.mono HB2.out.size))
      clear hb3 e0 e1
      have r1 := HR.out _ HB3.out
      have e0 := r1.cell 0; have e1 := r1.cell 1
      clear r1
      go_wp2_with fail
      (with_reducible refine (HVL.out _ HB3.out).mono ?_)
      rintro e w4 ⟨rfl, hb4⟩
      have HB4 := Lib.hid (HB3.out.trans (hb4.mono HB3.out.size))
      clear hb4 e0 e1
      cases vb with
      | false =>
        go_wp2_with fail
        (with_reducible refine (HKN.out _ HB4.out).mono ?_)
        rintro e w5 ⟨rfl, hb5⟩
        go_wp2
        go_ret
        exact ⟨rfl, HB1.out.trans ((HB4.out.trans (hb5.mono HB4.out.size)).mono HB1.out.size)⟩
      | true =>
        have hin : (ap && inB n 1 6) = false := by
          cases hh : (ap && inB n 1 6) with
          | false => rfl
          | true =>
            rw [Bool.and_eq_true] at hh
            have h9 := hh.2
            simp [inB] at h9
            exact absurd ⟨HVB.out.1 rfl, by omega, by omega, hh.1⟩ HOK.out
        have HPF2 := Lib.hid (HPF.out HN8.out.2)
        rw [hin] at HPF2
        clear hin hok
        go_wp2_with fail
        (with_reducible refine (HPF2.out _ HB4.out).mono ?_)
        rintro e w5 ⟨rfl, hb5⟩
        have HB5 := Lib.hid (HB4.out.trans (hb5.mono HB4.out.size))
        clear hb5
        go_wp2_with fail
        (with_reducible refine (HKN.out _ HB5.out).mono ?_)
        rintro e w6 ⟨rfl, hb6⟩
        go_wp2
        go_ret
        exact ⟨rfl, HB1.out.trans ((HB5.out.trans (hb6.mono HB5.out.size)).mono HB1.out.size)⟩
end Go.Proofs.YtekambdnmaompaaGreat.SW
