/- The law SweepWider in general. -/
import Derived.Test.YtekambdnmaompaaGreatJN
import Derived.Test.YtekambdnmaompaaGreatU1
import Derived.Test.YtekambdnmaompaaGreatJ8
import Derived.Test.YtekambdnmaompaaGreatV1
namespace Go.Proofs.YtekambdnmaompaaGreat.SW
set_option linter.unusedVariables false
set_option linter.unusedSimpArgs false
open Go.RowKit
def inI (n : Int) : Prop := -9223372036854775808 ≤ n ∧ n ≤ 9223372036854775807
theorem wide_le {h m wh : Int} (i1 : inI h) (i2 : inI m) (e : IntKind.i64.wrap (h + max 0 m) = wh) (g1 : 0 ≤ h) (g2 : h ≤ 2000) (g3 : 0 ≤ wh) : h ≤ wh := by
  rw [IntKind.wrap_i64] at e
  unfold inI at i1 i2
  omega
theorem wider_sub {p : Pl} (hV : Vld p) {hx sx wh ws : Int} (px : Pr hx sx) (pw : Pr wh ws) (h1 : hx ≤ wh) (h2 : sx ≤ ws) : ∀ f ∈ foulsL p [⟨hx, sx⟩], f ∈ foulsL p [⟨wh, ws⟩] := by
  intro f hf
  obtain ⟨a, x, b, y, ⟨ha, hx', hab, hb, hy, ho, hr⟩, rfl⟩ := mem_foulsL.1 hf
  simp only [List.length_singleton] at hx' hy
  obtain rfl : x = 0 := by omega
  obtain rfl : y = 0 := by omega
  refine mem_foulsN.2 ⟨ha, by simp, hab, hb, by simp, ho, ?_⟩
  unfold rF at hr ⊢
  simp only [List.getElem?_cons_zero] at hr ⊢
  have r1 := Vld.rl hV ha; have r2 := Vld.rl hV hb
  rw [lnR_eq ha, lnR_eq hb] at hr ⊢
  exact rails_wide r1 r2 px px pw pw h1 h2 h1 h2 hr
def meetB (p : Pl) (r t : Nat) : Bool := match p.rails[r]?, p.rails[t]? with
  | some u, some v => decide (r = t) || decide (u.frm = v.frm) || decide (u.frm = v.to) || decide (u.to = v.frm) || decide (u.to = v.to)
  | _, _ => false
theorem meet_mem {p : Pl} (hV : Vld p) {hx sx : Int} (px : Pr hx sx) {r t : Nat} (hrt : r ≤ t) (ht : t < p.rails.length) (h : meetB p r t = true) : (⟨(r : Int), 0, (t : Int), 0⟩ : Fo4) ∈ foulsL p [⟨hx, sx⟩] := by
  have hr : r < p.rails.length := by omega
  have r1 := Vld.rl hV hr; have r2 := Vld.rl hV ht
  unfold meetB at h
  rw [List.getElem?_eq_getElem hr, List.getElem?_eq_getElem ht] at h
  simp only [Bool.or_eq_true, decide_eq_true_eq] at h
  refine mem_foulsN (x := 0) (y := 0) |>.2 ⟨hr, by simp, hrt, ht, by simp, .inr (Nat.le_refl _), ?_⟩
  unfold rF
  simp only [List.getElem?_cons_zero]
  rw [lnR_eq hr, lnR_eq ht]
  refine rails_meet r1 r2 px px ?_
  rcases h with (((h | h) | h) | h) | h
  · subst h; exact .inl rfl
  · exact .inl h
  · exact .inr (.inl h)
  · exact .inr (.inr (.inl h))
  · exact .inr (.inr (.inr h))
theorem two_rows (w : World) (a b : Array Value) (t : TypeId) : Rw (((w.alloc (.cells a t)).alloc (.cells b t)).drew) w.heap.size t a ∧ Rw (((w.alloc (.cells a t)).alloc (.cells b t)).drew) (w.heap.size + 1) t b ∧ Below w.heap.size w (((w.alloc (.cells a t)).alloc (.cells b t)).drew) := by
  obtain ⟨h1, h2⟩ := rows2 w a b t t
  exact ⟨h1.drew, h2.drew, (((Below.refl _ w).alloc (Nat.le_refl _) _).alloc (by simp) _).drew⟩
set_option maxRecDepth 100000 in
set_option maxHeartbeats 8000000 in
theorem SweepWider_any (A A2 : Option Addr) (c c2 : Nat) (p : Pl) (hx sx mh ms : Int) (w : World) (hP : PlAt w w.heap.size A c A2 c2 p) (i1 : inI hx) (i2 : inI sx) (i3 : inI mh) (i4 : inI ms) :
    Calls Tryz.prog 8 #[.agg #[.slice A p.nodes.length c, .slice A2 p.rails.length c2], .agg #[.int .i64 hx, .int .i64 sx], .agg #[.int .i64 mh, .int .i64 ms]] w fun e w' => e = .returned (.bool true) ∧ Below w.heap.size w w' := by
  have hrm := hP.rm; have hrc := hP.rc
  have hb3 := (((Below.refl _ w).alloc (Nat.le_refl _) (.cells #[.slice A p.nodes.length c, .slice A2 p.rails.length c2] 25)).alloc (by simp) (.cells #[.int .i64 hx, .int .i64 sx] 46)).alloc (by simp; omega) (.cells #[.int .i64 mh, .int .i64 ms] 46)
  obtain ⟨q1, q2, q3⟩ := rows3 w #[.slice A p.nodes.length c, .slice A2 p.rails.length c2] #[.int .i64 hx, .int .i64 sx] #[.int .i64 mh, .int .i64 ms] 25 46 46
  have hz1 : (((w.alloc (.cells #[.slice A p.nodes.length c, .slice A2 p.rails.length c2] 25)).alloc (.cells #[.int .i64 hx, .int .i64 sx] 46)).alloc (.cells #[.int .i64 mh, .int .i64 ms] 46)).heap.size = w.heap.size + 3 := by simp
  obtain ⟨wh, hwh⟩ : ∃ z, IntKind.i64.wrap (hx + max 0 mh) = z := ⟨_, rfl⟩
  obtain ⟨ws, hws⟩ : ∃ z, IntKind.i64.wrap (sx + max 0 ms) = z := ⟨_, rfl⟩
  have HW2 := Lib.hid (show (0 ≤ hx → hx ≤ 2000 → 0 ≤ wh → hx ≤ wh) ∧ (0 ≤ sx → sx ≤ 2000 → 0 ≤ ws → sx ≤ ws) from ⟨wide_le i1 i3 hwh, wide_le i2 i4 hws⟩)
  clear i1 i2 i3 i4
  obtain ⟨W1, hW1⟩ : ∃ z, (((w.alloc (.cells #[.slice A p.nodes.length c, .slice A2 p.rails.length c2] 25)).alloc (.cells #[.int .i64 hx, .int .i64 sx] 46)).alloc (.cells #[.int .i64 mh, .int .i64 ms] 46)) = z := ⟨_, rfl⟩
  rw [hW1] at hb3 q1 q2 q3 hz1
  have HB1 := Lib.hid hb3
  have HZ1 := Lib.hid hz1
  have HR0 := Lib.hid (show ∀ wx, Below W1.heap.size W1 wx → Rw wx w.heap.size 25 #[.slice A p.nodes.length c, .slice A2 p.rails.length c2] ∧ Rw wx (w.heap.size + 1) 46 #[.int .i64 hx, .int .i64 sx] from fun wx h => ⟨q1.below h (by omega), q2.below h (by omega)⟩)
  have HPB0 := Lib.hid (show ∀ wx, Below W1.heap.size W1 wx → PlAt wx wx.heap.size A c A2 c2 p from fun wx h => ((hP.below hb3).below (h.mono hb3.size)).more (Nat.le_trans hb3.size h.size))
  have e0 := q1.cell 0; have e1 := q1.cell 1; have e2 := q2.cell 0; have e3 := q2.cell 1; have e4 := q3.cell 0; have e5 := q3.cell 1
  obtain ⟨fw, hfw⟩ : ∃ z, fewB p = z := ⟨_, rfl⟩
  obtain ⟨vb, hvb⟩ : ∃ vb : Bool, vb = true ↔ Vld p := by
    by_cases hv : Vld p
    · exact ⟨true, by simp [hv]⟩
    · exact ⟨false, by simp [hv]⟩
  obtain ⟨px, hpx⟩ : ∃ z, prB ⟨hx, sx⟩ = z := ⟨_, rfl⟩
  obtain ⟨pw, hpw⟩ : ∃ z, prB ⟨wh, ws⟩ = z := ⟨_, rfl⟩
  have HEF := Lib.hid hfw; have HEV := Lib.hid hvb; have HEX := Lib.hid hpx; have HEW := Lib.hid hpw
  have HKN0 := Lib.hid (show ∀ wx, Calls Tryz.prog 16 #[] wx fun e w' => e = .returned (.bool true) ∧ Below wx.heap.size wx w' from fun wx => known_any wx)
  have HFW0 := Lib.hid (show ∀ wx, Below W1.heap.size W1 wx → Calls Tryz.prog 15 #[.agg #[.slice A p.nodes.length c, .slice A2 p.rails.length c2]] wx fun e w' => e = .returned (.bool fw) ∧ Below wx.heap.size wx w' from fun wx h => by have := few_any A A2 c c2 p wx (HPB0.out wx h); rwa [hfw] at this)
  have HVL0 := Lib.hid (show ∀ wx, Below W1.heap.size W1 wx → Calls Tryz.prog 19 #[.agg #[.slice A p.nodes.length c, .slice A2 p.rails.length c2]] wx fun e w' => e = .returned (.bool vb) ∧ Below wx.heap.size wx w' from fun wx h => (Valid_any A A2 c c2 p wx (HPB0.out wx h)).mono (by
    rintro e w' ⟨⟨b, rfl, hb⟩, h2⟩
    refine ⟨?_, h2⟩
    have : b = vb := by rw [Bool.eq_iff_iff]; exact hb.trans hvb.symm
    rw [this]))
  have HPX0 := Lib.hid (show ∀ wx : World, Calls Tryz.prog 29 #[.agg #[.int .i64 hx, .int .i64 sx]] wx fun e w' => e = .returned (.bool px) ∧ Below wx.heap.size wx w' from fun wx => by have := rProfile_any ⟨hx, sx⟩ wx; rwa [hpx] at this)
  have HPW0 := Lib.hid (show ∀ wx : World, Calls Tryz.prog 29 #[.agg #[.int .i64 wh, .int .i64 ws]] wx fun e w' => e = .returned (.bool pw) ∧ Below wx.heap.size wx w' from fun wx => by have := rProfile_any ⟨wh, ws⟩ wx; rwa [hpw] at this)
  have l0 : w.heap.size < W1.heap.size := by omega
  have l1 : w.heap.size + 1 < W1.heap.size := by omega
  have l2 : w.heap.size + 1 + 1 < W1.heap.size := by omega
  obtain ⟨K, hK⟩ : ∃ z, W1.heap.size = z := ⟨_, rfl⟩
  have HK := Lib.hid hK
  have HLT := Lib.hid (show w.heap.size < K ∧ w.heap.size + 1 < K ∧ w.heap.size + 1 + 1 < K from by omega)
  clear hb3 q1 q2 q3 hP hz1 hfw hvb hpx hpw
  go_enter Tryz.func8, Tryz.ntmps8
  go_upto_region 1 with (fail)
  go_cut [7] from 18 to 30 (fun s7 wx => s7 = .pointer (some ⟨K, 0, none⟩) ∧ Rw wx K 46 #[.int .i64 wh, .int .i64 ws] ∧ Below W1.heap.size W1 wx)
  case first =>
    clear hW1
    rw [hK] at l0 l1 l2
    go_wp2_with fail
    go_meet
    refine ⟨rfl, ?_, ?_⟩
    · rw [← hK]; exact Rw.new W1 _ 46
    · exact (Below.refl _ W1).alloc (Nat.le_refl _) _
  case rest =>
  obtain ⟨rfl, hrw, hbc⟩ := hcut
  obtain ⟨W2, rfl⟩ : ∃ z, z = wc := ⟨_, rfl⟩
  have HKL := Lib.hid hrw.lt
  have HB2 := Lib.hid hbc
  have HBB := Lib.hid (Below.refl W2.heap.size W2)
  have HR := Lib.hid (show ∀ wx, Below W2.heap.size W2 wx → Rw wx w.heap.size 25 #[.slice A p.nodes.length c, .slice A2 p.rails.length c2] ∧ Rw wx (w.heap.size + 1) 46 #[.int .i64 hx, .int .i64 sx] ∧ Rw wx K 46 #[.int .i64 wh, .int .i64 ws] from fun wx h => ⟨(HR0.out wx (hbc.trans (h.mono hbc.size))).1, (HR0.out wx (hbc.trans (h.mono hbc.size))).2, hrw.below h hrw.lt⟩)
  have HPB := Lib.hid (show ∀ wx, Below W2.heap.size W2 wx → PlAt wx wx.heap.size A c A2 c2 p from fun wx h => HPB0.out wx (hbc.trans (h.mono hbc.size)))
  have HFW := Lib.hid (show ∀ wx, Below W2.heap.size W2 wx → Calls Tryz.prog 15 #[.agg #[.slice A p.nodes.length c, .slice A2 p.rails.length c2]] wx _ from fun wx h => HFW0.out wx (hbc.trans (h.mono hbc.size)))
  have HVL := Lib.hid (show ∀ wx, Below W2.heap.size W2 wx → Calls Tryz.prog 19 #[.agg #[.slice A p.nodes.length c, .slice A2 p.rails.length c2]] wx _ from fun wx h => HVL0.out wx (hbc.trans (h.mono hbc.size)))
  obtain ⟨r1, r2, r3⟩ := HR.out _ HBB.out
  have e0 := r1.cell 0; have e1 := r1.cell 1; have e2 := r2.cell 0; have e3 := r2.cell 1; have e4 := r3.cell 0; have e5 := r3.cell 1
  clear hrw hbc r1 r2 r3 hwh hws HFW0 HVL0 l0 l1 l2 hK hW1
  obtain ⟨cv, hcv⟩ : ∃ z, (!(fw && (vb && (px && pw)))) = z := ⟨_, rfl⟩
  have HCV := Lib.hid hcv
  clear hcv
  go_upto_region 2 with (fail)
  go_cut [48] from 31 to 48 (fun s48 wx => s48 = .bool cv ∧ Below W2.heap.size W2 wx)
  case first =>
    go_wp2_with fail
    (with_reducible refine (HFW.out _ HBB.out).mono ?_)
    rintro e w3 ⟨rfl, hb3⟩
    have HB3 := Lib.hid hb3
    obtain ⟨r1, r2, r3⟩ := HR.out _ hb3
    have e0 := r1.cell 0; have e1 := r1.cell 1; have e2 := r2.cell 0; have e3 := r2.cell 1; have e4 := r3.cell 0; have e5 := r3.cell 1
    clear hb3 r1 r2 r3
    cases fw with
    | false =>
      go_wp2
      go_meet
      exact ⟨by rw [← HCV.out]; rfl, HB3.out⟩
    | true =>
      go_wp2_with fail
      (with_reducible refine (HVL.out _ HB3.out).mono ?_)
      rintro e w4 ⟨rfl, hb4⟩
      have HB4 := Lib.hid (HB3.out.trans (hb4.mono HB3.out.size))
      obtain ⟨r1, r2, r3⟩ := HR.out _ HB4.out
      have e0 := r1.cell 0; have e1 := r1.cell 1; have e2 := r2.cell 0; have e3 := r2.cell 1; have e4 := r3.cell 0; have e5 := r3.cell 1
      clear hb4 r1 r2 r3
      cases vb with
      | false =>
        go_wp2
        go_meet
        exact ⟨by rw [← HCV.out]; rfl, HB4.out⟩
      | true =>
        go_wp2_with fail
        (with_reducible refine (HPX0.out _).mono ?_)
        rintro e w5 ⟨rfl, hb5⟩
        have HB5 := Lib.hid (HB4.out.trans (hb5.mono HB4.out.size))
        obtain ⟨r1, r2, r3⟩ := HR.out _ HB5.out
        have e0 := r1.cell 0; have e1 := r1.cell 1; have e2 := r2.cell 0; have e3 := r2.cell 1; have e4 := r3.cell 0; have e5 := r3.cell 1
        clear hb5 r1 r2 r3
        cases px with
        | false =>
          go_wp2
          go_meet
          exact ⟨by rw [← HCV.out]; rfl, HB5.out⟩
        | true =>
          go_wp2_with fail
          (with_reducible refine (HPW0.out _).mono ?_)
          rintro e w6 ⟨rfl, hb6⟩
          have HB6 := Lib.hid (HB5.out.trans (hb6.mono HB5.out.size))
          clear hb6
          go_wp2
          go_meet
          exact ⟨by rw [← HCV.out]; first | rfl | simp, HB6.out⟩
  case rest =>
  obtain ⟨rfl, hb3⟩ := hcut
  obtain ⟨W3, rfl⟩ : ∃ z, z = wc := ⟨_, rfl⟩
  have HB3 := Lib.hid hb3
  obtain ⟨r1, r2, r3⟩ := HR.out _ hb3
  have e0 := r1.cell 0; have e1 := r1.cell 1; have e2 := r2.cell 0; have e3 := r2.cell 1; have e4 := r3.cell 0; have e5 := r3.cell 1
  clear hb3 r1 r2 r3
  cases cv with
  | true =>
    go_wp2_with fail
    (with_reducible refine (HKN0.out _).mono ?_)
    rintro e w4 ⟨rfl, hb4⟩
    have HB4 := Lib.hid (HB3.out.trans (hb4.mono HB3.out.size))
    clear hb4
    go_wp2
    go_ret
    exact ⟨rfl, HB1.out.trans ((HB2.out.trans (HB4.out.mono HB2.out.size)).mono HB1.out.size)⟩
  | false =>
    have hcv := HCV.out
    simp only [Bool.not_eq_false', Bool.and_eq_true] at hcv
    obtain ⟨rfl, rfl, rfl, rfl⟩ := hcv
    have hV : Vld p := HEV.out.1 rfl
    have hN12 := few_le HEF.out
    have hpr := prB_pr HEX.out
    have hpw := prB_pr HEW.out
    have hsub := wider_sub hV hpr hpw (HW2.out.1 hpr.h1 (by have := prB_lim HEX.out; exact this.1) hpw.h1) (HW2.out.2 hpr.h3 (by have := prB_lim HEX.out; exact this.2) hpw.h3)
    have hmeet := fun (r t : Nat) => meet_mem hV hpr (r := r) (t := t)
    have hl1 := foulsL_le p [⟨hx, sx⟩] hN12 (by simp)
    have hl2 := foulsL_le p [⟨wh, ws⟩] hN12 (by simp)
    have HF1 := Lib.hid (show ∀ wx, Below W2.heap.size W2 wx → Calls Tryz.prog 31 #[.agg #[.slice A p.nodes.length c, .slice A2 p.rails.length c2], .slice (some ⟨wx.heap.size, 0, none⟩) 1 1] (wx.alloc (.cells #[.int .i64 hx, .int .i64 sx] 46)) fun e w' => (∃ v, e = .returned (.tuple #[v, .int .i64 0]) ∧ Own w' wx.heap.size 60 4 fF v (foulsL p [⟨hx, sx⟩])) ∧ Below wx.heap.size wx w' from fun wx h => by
      have hb := (Below.refl wx.heap.size wx).alloc (Nat.le_refl _) (.cells #[.int .i64 hx, .int .i64 sx] 46)
      have h9 := Fouls_yes A A2 (some ⟨wx.heap.size, 0, none⟩) c c2 1 1 p [⟨hx, sx⟩] (wx.alloc (.cells #[.int .i64 hx, .int .i64 sx] 46)) (HPB.out _ (h.trans (hb.mono h.size))) hV hN12 rfl (by omega) (by omega) (by rw [World.size_alloc]; exact Sl.new (f := fS) (size := 2) wx 46 (⟨hx, sx⟩ : S) #[.int .i64 hx, .int .i64 sx] rfl) (by simp [HEX.out])
      exact h9.mono (by
        rintro e w' ⟨⟨v, rfl, ho⟩, hb2⟩
        exact ⟨⟨v, rfl, ho.lower (by simp)⟩, hb.trans (hb2.mono (by simp))⟩))
    have HF2 := Lib.hid (show ∀ wx, Below W2.heap.size W2 wx → Calls Tryz.prog 31 #[.agg #[.slice A p.nodes.length c, .slice A2 p.rails.length c2], .slice (some ⟨wx.heap.size, 0, none⟩) 1 1] (wx.alloc (.cells #[.int .i64 wh, .int .i64 ws] 46)) fun e w' => (∃ v, e = .returned (.tuple #[v, .int .i64 0]) ∧ Own w' wx.heap.size 60 4 fF v (foulsL p [⟨wh, ws⟩])) ∧ Below wx.heap.size wx w' from fun wx h => by
      have hb := (Below.refl wx.heap.size wx).alloc (Nat.le_refl _) (.cells #[.int .i64 wh, .int .i64 ws] 46)
      have h9 := Fouls_yes A A2 (some ⟨wx.heap.size, 0, none⟩) c c2 1 1 p [⟨wh, ws⟩] (wx.alloc (.cells #[.int .i64 wh, .int .i64 ws] 46)) (HPB.out _ (h.trans (hb.mono h.size))) hV hN12 rfl (by omega) (by omega) (by rw [World.size_alloc]; exact Sl.new (f := fS) (size := 2) wx 46 (⟨wh, ws⟩ : S) #[.int .i64 wh, .int .i64 ws] rfl) (by simp [HEW.out])
      exact h9.mono (by
        rintro e w' ⟨⟨v, rfl, ho⟩, hb2⟩
        exact ⟨⟨v, rfl, ho.lower (by simp)⟩, hb.trans (hb2.mono (by simp))⟩))
    obtain ⟨L1, hL1⟩ : ∃ z, foulsL p [⟨hx, sx⟩] = z := ⟨_, rfl⟩
    obtain ⟨L2, hL2⟩ : ∃ z, foulsL p [⟨wh, ws⟩] = z := ⟨_, rfl⟩
    rw [hL1] at hsub hmeet hl1 HF1
    rw [hL2] at hsub hl2 HF2
    have HSUB := Lib.hid hsub; have HMEET := Lib.hid hmeet; have HL1 := Lib.hid hl1; have HL2 := Lib.hid hl2; have HN12 := Lib.hid hN12
    clear hV hpr hpw hsub hmeet hl1 hl2 hL1 hL2 hN12
    go_wp2_with fail
    (with_reducible refine (HF1.out _ HB3.out).mono ?_)
    rintro e w4 ⟨⟨v1, rfl, ho1⟩, hb4⟩
    obtain ⟨A9, c9, rfl, -, -, -⟩ := ho1.form
    have HO1 := Lib.hid ho1
    have HB4 := Lib.hid (HB3.out.trans (hb4.mono HB3.out.size))
    clear ho1 hb4
    obtain ⟨r1, r2, r3⟩ := HR.out _ HB4.out
    have e0 := r1.cell 0; have e1 := r1.cell 1; have e2 := r2.cell 0; have e3 := r2.cell 1; have e4 := r3.cell 0; have e5 := r3.cell 1
    have hkl : K < w4.heap.size := Nat.lt_of_lt_of_le HKL.out HB4.out.size
    clear r1 r2 r3
    go_wp2_with fail
    (with_reducible refine (HF2.out _ HB4.out).mono ?_)
    rintro e w5 ⟨⟨v2, rfl, ho2⟩, hb5⟩
    obtain ⟨A8, c8, rfl, -, -, -⟩ := ho2.form
    have HB5 := Lib.hid (HB4.out.trans (hb5.mono HB4.out.size))
    have HO15 := Lib.hid (HO1.out.below hb5 (Nat.le_refl _)); have HO2 := Lib.hid ho2
    have HS1 := Lib.hid (show ∀ wx, Below w5.heap.size w5 wx → Sl wx wx.heap.size 4 CFo A9 L1 from fun wx h => (Own.sl (size := 4) fF_len (HO15.out.below h (Nat.le_refl _)) rfl))
    have HS2 := Lib.hid (show ∀ wx, Below w5.heap.size w5 wx → Sl wx wx.heap.size 4 CFo A8 L2 from fun wx h => (Own.sl (size := 4) fF_len (HO2.out.below h (Nat.le_refl _)) rfl))
    have HA2 := Lib.hid (show ∀ (wx : World) (f : Fo4), Below w5.heap.size w5 wx → f ∈ L2 → Calls Tryz.prog 35 #[.slice A8 L2.length c8, .agg #[.int .i64 f.ra, .int .i64 f.pa, .int .i64 f.rb, .int .i64 f.pb]] wx fun e w' => e = .returned (.bool true) ∧ Below wx.heap.size wx w' from fun wx f h hf => (has_any A8 L2 c8 f.ra f.pa f.rb f.pb wx (HS2.out wx h) (by have := HL2.out; omega)).mono (by
      rintro e w' ⟨⟨r, rfl, hr⟩, h2⟩
      exact ⟨by rw [hr.2 hf], h2⟩))
    have HA1 := Lib.hid (show ∀ (wx : World) (f : Fo4), Below w5.heap.size w5 wx → f ∈ L1 → Calls Tryz.prog 35 #[.slice A9 L1.length c9, .agg #[.int .i64 f.ra, .int .i64 f.pa, .int .i64 f.rb, .int .i64 f.pb]] wx fun e w' => e = .returned (.bool true) ∧ Below wx.heap.size wx w' from fun wx f h hf => (has_any A9 L1 c9 f.ra f.pa f.rb f.pb wx (HS1.out wx h) (by have := HL1.out; omega)).mono (by
      rintro e w' ⟨⟨r, rfl, hr⟩, h2⟩
      exact ⟨by rw [hr.2 hf], h2⟩))
    obtain ⟨n1, hn1⟩ : ∃ z, L1.length = z := ⟨_, rfl⟩
    have HN1 := Lib.hid hn1
    rw [hn1] at HA1
    have hn6 : n1 ≤ 6000 := by have := HL1.out; omega
    rw [hn1]
    clear ho2 hb5 e0 e1 e2 e3 e4 e5 hn1 hkl
    go_wp2
    go_loopw [12] (fun s12 wr => ∃ i : Nat, i ≤ n1 ∧ s12 = .int .i64 (i : Int) ∧ Below w5.heap.size w5 wr) (fun s12 _ => n1 - (intOf s12).toNat)
    case atStart => exact ⟨0, Nat.zero_le _, rfl, Below.refl _ _⟩
    case round =>
      obtain ⟨i, hi, rfl, hb⟩ := hrel
      have HB := Lib.hid hb
      by_cases hin : i < n1
      · have hii : (i : Int) < (n1 : Int) := by omega
        have hi0 : (0 : Int) ≤ (i : Int) := by omega
        have hil : i < L1.length := by have := HN1.out; omega
        obtain ⟨b1, o1, eA, g1, q0, q1, q2, q3⟩ := foul_at (HS1.out _ hb) hil
        have HH := Lib.hid (HA2.out wr (L1[i]) hb (HSUB.out _ (List.getElem_mem hil)))
        obtain ⟨x0, x1, x2, x3, hx⟩ : ∃ x0 x1 x2 x3, L1[i] = (⟨x0, x1, x2, x3⟩ : Fo4) := ⟨L1[i].ra, L1[i].pa, L1[i].rb, L1[i].pb, rfl⟩
        rw [hx] at q0 q1 q2 q3 HH
        subst eA
        clear hx hb
        go_wp2_with fail
        (with_reducible refine (HH.out).mono ?_)
        rintro e w6 ⟨rfl, hb6⟩
        have HB6 := Lib.hid (HB.out.trans (hb6.mono HB.out.size))
        clear hb6
        go_wp2
        go_roundw
        case rel => exact ⟨i + 1, by omega, vi (by omega), HB6.out⟩
        case measure => simp [intOf] <;> omega
      · have hii : ¬ (i : Int) < (n1 : Int) := by omega
        obtain ⟨r1, r2, r3⟩ := HR.out _ (HB5.out.trans (hb.mono HB5.out.size))
        have e0 := r1.cell 0; have e1 := r1.cell 1
        clear r1 r2 r3 hb
        obtain ⟨w7, rfl⟩ : ∃ z, z = wr := ⟨_, rfl⟩
        have HB7 := Lib.hid (HB5.out.trans (HB.out.mono HB5.out.size))
        have HX7 := Lib.hid (show ∀ wx, Below w7.heap.size w7 wx → Below w5.heap.size w5 wx from fun wx h => HB.out.trans (h.mono HB.out.size))
        obtain ⟨NR, hNR⟩ : ∃ z, p.rails.length = z := ⟨_, rfl⟩
        have HNR := Lib.hid hNR
        have hN12 : NR ≤ 12 := by have := HN12.out; omega
        have HRN := Lib.hid (show ∀ wx, Below w7.heap.size w7 wx → Rw wx w.heap.size 25 #[.slice A p.nodes.length c, .slice A2 NR c2] from fun wx h => by
          have h9 := (HR.out _ (HB7.out.trans (h.mono HB7.out.size))).1
          rwa [hNR] at h9)
        rw [hNR] at e1 ⊢
        clear hNR
        go_wp2
        go_loopw [13] (fun s13 wr => ∃ r : Nat, r ≤ NR ∧ s13 = .int .i64 (r : Int) ∧ Below w7.heap.size w7 wr) (fun s13 _ => NR - (intOf s13).toNat)
        case atStart => exact ⟨0, Nat.zero_le _, rfl, Below.refl _ _⟩
        case round =>
          obtain ⟨r, hr, rfl, hb⟩ := hrel
          have HBr := Lib.hid hb
          have r1 := HRN.out _ hb
          have e0 := r1.cell 0; have e1 := r1.cell 1
          clear hb r1
          by_cases hrn : r < NR
          · have hri : (r : Int) < (NR : Int) := by omega
            have HRL := Lib.hid hrn
            go_wp2
            go_loopw [14] (fun s14 wr => ∃ t : Nat, r ≤ t ∧ t ≤ NR ∧ s14 = .int .i64 (t : Int) ∧ Below w7.heap.size w7 wr) (fun s14 _ => NR - (intOf s14).toNat)
            case atStart => exact ⟨r, Nat.le_refl _, Nat.le_of_lt HRL.out, rfl, HBr.out⟩
            case round =>
              obtain ⟨t, hrt, htn, rfl, hb⟩ := hrel
              have HBt := Lib.hid hb
              have HRT := Lib.hid hrt
              have r1 := HRN.out _ hb
              have e0 := r1.cell 0; have e1 := r1.cell 1
              have lwr := r1.lt
              clear r1 hrt
              by_cases ht2 : t < NR
              · have hti : (t : Int) < (NR : Int) := by omega
                have HTL := Lib.hid ht2
                have t0 : (0 : Int) ≤ (t : Int) := by omega
                have r0 : (0 : Int) ≤ (r : Int) := by omega
                have hpl := HPB.out _ (HB7.out.trans (hb.mono HB7.out.size))
                obtain ⟨bR, oR, aU, cU, eA, gR, -, -, -, u0, u1, u2, u3, u4⟩ := hpl.rail (i := r) (by have := HNR.out; omega)
                obtain ⟨bR2, oR2, aV, cV, eA2, -, -, -, -, v0, v1, v2, v3, v4⟩ := hpl.rail (i := t) (by have := HNR.out; omega)
                rw [eA] at eA2
                obtain ⟨rfl, rfl⟩ : bR = bR2 ∧ oR = oR2 := by simpa using eA2
                obtain ⟨u, hu⟩ : ∃ u, p.rails[r]'(by have := HNR.out; omega) = u := ⟨_, rfl⟩
                obtain ⟨v, hv⟩ : ∃ v, p.rails[t]'(by have := HNR.out; omega) = v := ⟨_, rfl⟩
                rw [hu] at u0 u1 u2 u3 u4
                rw [hv] at v0 v1 v2 v3 v4
                obtain ⟨mt, hmt⟩ : ∃ z, meetB p r t = z := ⟨_, rfl⟩
                have hme : mt = (decide (r = t) || decide (u.frm = v.frm) || decide (u.frm = v.to) || decide (u.to = v.frm) || decide (u.to = v.to)) := by
                  rw [← hmt]
                  unfold meetB
                  rw [List.getElem?_eq_getElem (by have := HNR.out; omega), List.getElem?_eq_getElem (by have := HNR.out; omega), hu, hv]
                have HME := Lib.hid hme; have HMT := Lib.hid hmt
                obtain ⟨uf, ut, us, ul, uo⟩ := u
                obtain ⟨vf, vt, vs, vl, vo⟩ := v
                obtain ⟨su, hsu⟩ : ∃ z, us.length = z := ⟨_, rfl⟩
                obtain ⟨sv, hsv⟩ : ∃ z, vs.length = z := ⟨_, rfl⟩
                simp only [] at u0 u1 u2 u3 u4 v0 v1 v2 v3 v4
                rw [hsu] at u2
                rw [hsv] at v2
                clear hu hv hmt hme hsu hsv hpl eA2 hb
                subst eA
                have lw : w.heap.size < wr.heap.size := lwr
                have lw1 : w.heap.size < wr.heap.size + 1 := by omega
                have gR1 : bR < wr.heap.size + 1 := by omega
                clear lwr
                go_upto_region 19 with (fail)
                go_cut [15, 16] from 98 to 107 (fun s15 s16 wx => ∃ Ka Kb : Nat, s15 = .pointer (some ⟨Ka, 0, none⟩) ∧ s16 = .pointer (some ⟨Kb, 0, none⟩) ∧ Rw wx Ka 63 #[.int .i64 uf, .int .i64 ut, .slice aU su cU, .int .i64 ul, .int .i64 uo] ∧ Rw wx Kb 63 #[.int .i64 vf, .int .i64 vt, .slice aV sv cV, .int .i64 vl, .int .i64 vo] ∧ Below wr.heap.size wr wx)
                case first =>
                  go_region
                  · go_wp2_with fail
                    go_meet
                    obtain ⟨x1, x2, x3⟩ := two_rows wr #[.int .i64 uf, .int .i64 ut, .slice aU su cU, .int .i64 ul, .int .i64 uo] #[.int .i64 vf, .int .i64 vt, .slice aV sv cV, .int .i64 vl, .int .i64 vo] 63
                    exact ⟨wr.heap.size, wr.heap.size + 1, rfl, rfl, x1, x2, x3⟩
                  · go_wp2_with fail
                    go_meet
                    obtain ⟨x1, x2, x3⟩ := two_rows wr #[.int .i64 vf, .int .i64 vt, .slice aV sv cV, .int .i64 vl, .int .i64 vo] #[.int .i64 uf, .int .i64 ut, .slice aU su cU, .int .i64 ul, .int .i64 uo] 63
                    exact ⟨wr.heap.size + 1, wr.heap.size, rfl, rfl, x2, x1, x3⟩
                case rest =>
                obtain ⟨Ka, Kb, rfl, rfl, ra, rb, hbq⟩ := hcut
                obtain ⟨w8, rfl⟩ : ∃ z, z = wc := ⟨_, rfl⟩
                have HB8 := Lib.hid (HBt.out.trans (hbq.mono HBt.out.size))
                have a0 := ra.cell 0; have a1 := ra.cell 1; have b0 := rb.cell 0; have b1 := rb.cell 1
                clear u0 u1 u2 u3 u4 v0 v1 v2 v3 v4 ra rb hbq e0 e1 gR gR1 lw lw1
                have HRF := Lib.hid (Below.refl w8.heap.size w8)
                go_upto_region 20 with (fail)
                go_cut [17] from 108 to 138 (fun s17 wx => s17 = .bool mt ∧ Below w8.heap.size w8 wx)
                case first =>
                  by_cases d1 : r = t
                  · have d1i : ((r : Int) == (t : Int)) = true := by rw [beq_iff_eq]; omega
                    have HC := Lib.hid (show mt = true from by rw [HME.out]; simp [d1])
                    clear d1
                    go_wp2_with fail
                    go_meet
                    exact ⟨by rw [HC.out], HRF.out⟩
                  · have d1i : ((r : Int) == (t : Int)) = false := by rw [beq_eq_false_iff_ne]; omega
                    have HD1 := Lib.hid d1
                    clear d1
                    by_cases d2 : uf = vf
                    · have d2i : (uf == vf) = true := by rw [beq_iff_eq]; exact d2
                      have HC := Lib.hid (show mt = true from by rw [HME.out]; simp [d2])
                      clear d2
                      go_wp2_with fail
                      go_meet
                      exact ⟨by rw [HC.out], HRF.out⟩
                    · have d2i : (uf == vf) = false := by rw [beq_eq_false_iff_ne]; exact d2
                      have HD2 := Lib.hid d2
                      clear d2
                      by_cases d3 : uf = vt
                      · have d3i : (uf == vt) = true := by rw [beq_iff_eq]; exact d3
                        have HC := Lib.hid (show mt = true from by rw [HME.out]; simp [d3])
                        clear d3
                        go_wp2_with fail
                        go_meet
                        exact ⟨by rw [HC.out], HRF.out⟩
                      · have d3i : (uf == vt) = false := by rw [beq_eq_false_iff_ne]; exact d3
                        have HD3 := Lib.hid d3
                        clear d3
                        by_cases d4 : ut = vf
                        · have d4i : (ut == vf) = true := by rw [beq_iff_eq]; exact d4
                          have HC := Lib.hid (show mt = true from by rw [HME.out]; simp [d4])
                          clear d4
                          go_wp2_with fail
                          go_meet
                          exact ⟨by rw [HC.out], HRF.out⟩
                        · have d4i : (ut == vf) = false := by rw [beq_eq_false_iff_ne]; exact d4
                          have HD4 := Lib.hid d4
                          clear d4
                          by_cases d5 : ut = vt
                          · have d5i : (ut == vt) = true := by rw [beq_iff_eq]; exact d5
                            have HC := Lib.hid (show mt = true from by rw [HME.out]; simp [d5])
                            clear d5
                            go_wp2_with fail
                            go_meet
                            exact ⟨by rw [HC.out], HRF.out⟩
                          · have d5i : (ut == vt) = false := by rw [beq_eq_false_iff_ne]; exact d5
                            have HC := Lib.hid (show mt = false from by rw [HME.out]; simp [HD1.out, HD2.out, HD3.out, HD4.out, d5])
                            clear d5
                            go_wp2_with fail
                            go_meet
                            exact ⟨by rw [HC.out], HRF.out⟩
                case rest =>
                obtain ⟨rfl, hbq⟩ := hcut
                obtain ⟨w9, rfl⟩ : ∃ z, z = wc := ⟨_, rfl⟩
                have HB9 := Lib.hid (HB8.out.trans (hbq.mono HB8.out.size))
                clear hbq a0 a1 b0 b1 HRF
                cases mt with
                | false =>
                  go_wp2
                  go_roundw
                  case rel => exact ⟨t + 1, by have := HRT.out; omega, by have := HTL.out; omega, vi (by omega), HB9.out⟩
                  case measure => simp [intOf] <;> omega
                | true =>
                  have HH := Lib.hid (HA1.out w9 ⟨(r : Int), 0, (t : Int), 0⟩ (HX7.out _ HB9.out) (HMEET.out r t HRT.out (by have := HTL.out; have := HNR.out; omega) HMT.out))
                  go_wp2_with fail
                  (with_reducible refine (HH.out).mono ?_)
                  rintro e w10 ⟨rfl, hb10⟩
                  have HB10 := Lib.hid (HB9.out.trans (hb10.mono HB9.out.size))
                  clear hb10
                  go_wp2
                  go_roundw
                  case rel => exact ⟨t + 1, by have := HRT.out; omega, by have := HTL.out; omega, vi (by omega), HB10.out⟩
                  case measure => simp [intOf] <;> omega
              · have hti : ¬ (t : Int) < (NR : Int) := by omega
                clear hb
                go_wp2
                go_roundw
                case rel => exact ⟨r + 1, by have := HRL.out; omega, vi (by omega), HBt.out⟩
                case measure => simp [intOf] <;> omega
          · have hri : ¬ (r : Int) < (NR : Int) := by omega
            go_wp2_with fail
            (with_reducible refine (HKN0.out _).mono ?_)
            rintro e w11 ⟨rfl, hb11⟩
            have HB11 := Lib.hid (HBr.out.trans (hb11.mono HBr.out.size))
            clear hb11
            go_wp2
            go_ret
            exact ⟨rfl, HB1.out.trans ((HB2.out.trans ((HB7.out.trans (HB11.out.mono HB7.out.size)).mono HB2.out.size)).mono HB1.out.size)⟩
end Go.Proofs.YtekambdnmaompaaGreat.SW
