/- The law SweepPlaces in general. -/
import Derived.Test.YtekambdnmaompaaGreatJ8
import Derived.Test.YtekambdnmaompaaGreatJ4
import Derived.Test.YtekambdnmaompaaGreatJ6
import Derived.Test.YtekambdnmaompaaGreatV1
namespace Go.Proofs.YtekambdnmaompaaGreat.SW
set_option linter.unusedVariables false
set_option linter.unusedSimpArgs false
open Go.RowKit

theorem far_step {L : List S} (hr : allR L) (hok : okL L = true) {k : Nat} (hk : k + 1 < L.length) : lenTo L k < lenTo L (k + 1) := by
  have h := (okL_iff L).1 hok k (by omega)
  rw [okD_far (sqd_lt (hr k (by omega)) (hr (k + 1) hk))] at h
  have h1 := (of_decide_eq_true h).1
  show lenTo L k < lenTo L k + far (sAt L k) (sAt L (k + 1))
  omega
theorem lenAt_eq {p : Pl} {r : Nat} {L : List S} (h : RlOk p r L) : lenAt p (r : Int) = ((lenTo L (L.length - 1) : Nat) : Int) := by
  unfold lenAt
  rw [List.getElem?_eq_getElem (by simp [lens_len]; exact h.hr)]
  simp only [lensOf, List.getElem_map, Option.getD_some, Int.toNat_natCast]
  unfold lenZ lenOf
  rw [h.eL]

set_option maxRecDepth 100000 in
set_option maxHeartbeats 4000000 in
theorem places_few (A A2 : Option Addr) (c c2 : Nat) (p : Pl) (r k : Int) (w : World) (hP : PlAt w w.heap.size A c A2 c2 p) (hfew : fewB p = false) :
    Calls Tryz.prog 3 #[.agg #[.slice A p.nodes.length c, .slice A2 p.rails.length c2], .int .i64 r, .int .i64 k] w fun e w' => e = .returned (.bool true) ∧ Below w.heap.size w w' := by
  have hrm := hP.rm; have hrc := hP.rc
  have hb1 := (Below.refl _ w).alloc (Nat.le_refl _) (.cells #[.slice A p.nodes.length c, .slice A2 p.rails.length c2] 25)
  have q1 := Rw.new w #[.slice A p.nodes.length c, .slice A2 p.rails.length c2] 25
  have hz1 : (w.alloc (.cells #[.slice A p.nodes.length c, .slice A2 p.rails.length c2] 25)).heap.size = w.heap.size + 1 := by simp
  obtain ⟨W1, hW1⟩ : ∃ z, w.alloc (.cells #[.slice A p.nodes.length c, .slice A2 p.rails.length c2] 25) = z := ⟨_, rfl⟩
  rw [hW1] at hb1 q1 hz1
  have HB1 := Lib.hid hb1
  have HB0 := Lib.hid (Below.refl W1.heap.size W1)
  have HR := Lib.hid (show ∀ wx, Below W1.heap.size W1 wx → Rw wx w.heap.size 25 #[.slice A p.nodes.length c, .slice A2 p.rails.length c2] from fun wx h => q1.below h (by omega))
  have HPB := Lib.hid (show ∀ wx, Below W1.heap.size W1 wx → PlAt wx wx.heap.size A c A2 c2 p from fun wx h => ((hP.below hb1).below (h.mono hb1.size)).more (Nat.le_trans hb1.size h.size))
  have HKN := Lib.hid (show ∀ wx, Below W1.heap.size W1 wx → Calls Tryz.prog 16 #[] wx fun e w' => e = .returned (.bool true) ∧ Below wx.heap.size wx w' from fun wx _ => known_any wx)
  have e0 := q1.cell 0; have e1 := q1.cell 1

  have HFW := Lib.hid (show ∀ wx, Below W1.heap.size W1 wx → Calls Tryz.prog 15 #[.agg #[.slice A p.nodes.length c, .slice A2 p.rails.length c2]] wx fun e w' => e = .returned (.bool false) ∧ Below wx.heap.size wx w' from fun wx h => by have := few_any A A2 c c2 p wx (HPB.out wx h); rwa [hfew] at this)
  clear hb1 q1 hz1 hP
  go_enter Tryz.func3, Tryz.ntmps3
  go_wp2_with fail
  refine (HFW.out _ HB0.out).mono ?_
  rintro e w11 ⟨rfl, hb11⟩
  have HB11 := Lib.hid (HB0.out.trans (hb11.mono HB0.out.size))
  have r11 := HR.out _ HB11.out
  have e0 := r11.cell 0; have e1 := r11.cell 1
  clear hb11 r11
  clear hW1
  go_wp2_with fail
  refine (HKN.out _ HB11.out).mono ?_
  rintro e w12 ⟨rfl, hb12⟩
  have HB12 := Lib.hid (HB11.out.trans (hb12.mono HB11.out.size))
  have r12 := HR.out _ HB12.out
  have e0 := r12.cell 0; have e1 := r12.cell 1
  clear hb12 r12
  go_wp2
  go_ret
  exact ⟨rfl, HB1.out.trans (HB12.out.mono HB1.out.size)⟩

set_option maxRecDepth 100000 in
set_option maxHeartbeats 4000000 in
theorem places_invalid (A A2 : Option Addr) (c c2 : Nat) (p : Pl) (r k : Int) (w : World) (hP : PlAt w w.heap.size A c A2 c2 p) (hfew : fewB p = true) (hv : ¬ Vld p) :
    Calls Tryz.prog 3 #[.agg #[.slice A p.nodes.length c, .slice A2 p.rails.length c2], .int .i64 r, .int .i64 k] w fun e w' => e = .returned (.bool true) ∧ Below w.heap.size w w' := by
  have hrm := hP.rm; have hrc := hP.rc
  have hb1 := (Below.refl _ w).alloc (Nat.le_refl _) (.cells #[.slice A p.nodes.length c, .slice A2 p.rails.length c2] 25)
  have q1 := Rw.new w #[.slice A p.nodes.length c, .slice A2 p.rails.length c2] 25
  have hz1 : (w.alloc (.cells #[.slice A p.nodes.length c, .slice A2 p.rails.length c2] 25)).heap.size = w.heap.size + 1 := by simp
  obtain ⟨W1, hW1⟩ : ∃ z, w.alloc (.cells #[.slice A p.nodes.length c, .slice A2 p.rails.length c2] 25) = z := ⟨_, rfl⟩
  rw [hW1] at hb1 q1 hz1
  have HB1 := Lib.hid hb1
  have HB0 := Lib.hid (Below.refl W1.heap.size W1)
  have HR := Lib.hid (show ∀ wx, Below W1.heap.size W1 wx → Rw wx w.heap.size 25 #[.slice A p.nodes.length c, .slice A2 p.rails.length c2] from fun wx h => q1.below h (by omega))
  have HPB := Lib.hid (show ∀ wx, Below W1.heap.size W1 wx → PlAt wx wx.heap.size A c A2 c2 p from fun wx h => ((hP.below hb1).below (h.mono hb1.size)).more (Nat.le_trans hb1.size h.size))
  have HKN := Lib.hid (show ∀ wx, Below W1.heap.size W1 wx → Calls Tryz.prog 16 #[] wx fun e w' => e = .returned (.bool true) ∧ Below wx.heap.size wx w' from fun wx _ => known_any wx)
  have e0 := q1.cell 0; have e1 := q1.cell 1

  have HFW := Lib.hid (show ∀ wx, Below W1.heap.size W1 wx → Calls Tryz.prog 15 #[.agg #[.slice A p.nodes.length c, .slice A2 p.rails.length c2]] wx fun e w' => e = .returned (.bool true) ∧ Below wx.heap.size wx w' from fun wx h => by have := few_any A A2 c c2 p wx (HPB.out wx h); rwa [hfew] at this)
  have HVL := Lib.hid (show ∀ wx, Below W1.heap.size W1 wx → Calls Tryz.prog 19 #[.agg #[.slice A p.nodes.length c, .slice A2 p.rails.length c2]] wx fun e w' => e = .returned (.bool false) ∧ Below wx.heap.size wx w' from fun wx h => (Valid_any A A2 c c2 p wx (HPB.out wx h)).mono (by rintro e w' ⟨⟨b, rfl, hb⟩, h2⟩; cases b; exact ⟨rfl, h2⟩; exact absurd (hb.1 rfl) hv))
  have hno : ¬ (Vld p ∧ railIn p r = true) := fun h => hv h.1
  have HST := Lib.hid (show ∀ wx, Below W1.heap.size W1 wx → Calls Tryz.prog 17 #[.agg #[.slice A p.nodes.length c, .slice A2 p.rails.length c2], .int .i64 r] wx fun e w' => e = .returned (.tuple #[.int .i64 0, .int .i64 2]) ∧ Below wx.heap.size wx w' from fun wx h => (Strips_any A A2 c c2 p r wx (HPB.out wx h)).mono (by rintro e w' ⟨h1 | h1, h2⟩; exact absurd ⟨h1.1, h1.2.1⟩ hno; exact ⟨h1.2, h2⟩))
  have HPL := Lib.hid (show ∀ wx, Below W1.heap.size W1 wx → Calls Tryz.prog 18 #[.agg #[.slice A p.nodes.length c, .slice A2 p.rails.length c2], .agg #[.int .i64 r, .int .i64 k]] wx fun e w' => e = .returned (.tuple #[.int .i64 0, .int .i64 0, .int .i64 2]) ∧ Below wx.heap.size wx w' from fun wx h => Place_no A A2 c c2 p r k wx (HPB.out wx h) (fun h => hv h.1))
  clear hb1 q1 hz1 hP
  go_enter Tryz.func3, Tryz.ntmps3
  go_wp2_with fail
  refine (HFW.out _ HB0.out).mono ?_
  rintro e w13 ⟨rfl, hb13⟩
  have HB13 := Lib.hid (HB0.out.trans (hb13.mono HB0.out.size))
  have r13 := HR.out _ HB13.out
  have e0 := r13.cell 0; have e1 := r13.cell 1
  clear hb13 r13
  clear hW1
  go_wp2_with fail
  refine (HST.out _ HB13.out).mono ?_
  rintro e w14 ⟨rfl, hb14⟩
  have HB14 := Lib.hid (HB13.out.trans (hb14.mono HB13.out.size))
  have r14 := HR.out _ HB14.out
  have e0 := r14.cell 0; have e1 := r14.cell 1
  clear hb14 r14
  go_wp2_with fail
  refine (HPL.out _ HB14.out).mono ?_
  rintro e w15 ⟨rfl, hb15⟩
  have HB15 := Lib.hid (HB14.out.trans (hb15.mono HB14.out.size))
  have r15 := HR.out _ HB15.out
  have e0 := r15.cell 0; have e1 := r15.cell 1
  clear hb15 r15
  go_wp2_with fail
  refine (HVL.out _ HB15.out).mono ?_
  rintro e w16 ⟨rfl, hb16⟩
  have HB16 := Lib.hid (HB15.out.trans (hb16.mono HB15.out.size))
  have r16 := HR.out _ HB16.out
  have e0 := r16.cell 0; have e1 := r16.cell 1
  clear hb16 r16
  go_wp2_with fail
  refine (HKN.out _ HB16.out).mono ?_
  rintro e w17 ⟨rfl, hb17⟩
  have HB17 := Lib.hid (HB16.out.trans (hb17.mono HB16.out.size))
  have r17 := HR.out _ HB17.out
  have e0 := r17.cell 0; have e1 := r17.cell 1
  clear hb17 r17
  go_wp2
  go_ret
  exact ⟨rfl, HB1.out.trans (HB17.out.mono HB1.out.size)⟩

set_option maxRecDepth 100000 in
set_option maxHeartbeats 4000000 in
theorem places_norail (A A2 : Option Addr) (c c2 : Nat) (p : Pl) (r k : Int) (w : World) (hP : PlAt w w.heap.size A c A2 c2 p) (hfew : fewB p = true) (hv : Vld p) (hri : railIn p r = false) :
    Calls Tryz.prog 3 #[.agg #[.slice A p.nodes.length c, .slice A2 p.rails.length c2], .int .i64 r, .int .i64 k] w fun e w' => e = .returned (.bool true) ∧ Below w.heap.size w w' := by
  have hrm := hP.rm; have hrc := hP.rc
  have hb1 := (Below.refl _ w).alloc (Nat.le_refl _) (.cells #[.slice A p.nodes.length c, .slice A2 p.rails.length c2] 25)
  have q1 := Rw.new w #[.slice A p.nodes.length c, .slice A2 p.rails.length c2] 25
  have hz1 : (w.alloc (.cells #[.slice A p.nodes.length c, .slice A2 p.rails.length c2] 25)).heap.size = w.heap.size + 1 := by simp
  obtain ⟨W1, hW1⟩ : ∃ z, w.alloc (.cells #[.slice A p.nodes.length c, .slice A2 p.rails.length c2] 25) = z := ⟨_, rfl⟩
  rw [hW1] at hb1 q1 hz1
  have HB1 := Lib.hid hb1
  have HB0 := Lib.hid (Below.refl W1.heap.size W1)
  have HR := Lib.hid (show ∀ wx, Below W1.heap.size W1 wx → Rw wx w.heap.size 25 #[.slice A p.nodes.length c, .slice A2 p.rails.length c2] from fun wx h => q1.below h (by omega))
  have HPB := Lib.hid (show ∀ wx, Below W1.heap.size W1 wx → PlAt wx wx.heap.size A c A2 c2 p from fun wx h => ((hP.below hb1).below (h.mono hb1.size)).more (Nat.le_trans hb1.size h.size))
  have HKN := Lib.hid (show ∀ wx, Below W1.heap.size W1 wx → Calls Tryz.prog 16 #[] wx fun e w' => e = .returned (.bool true) ∧ Below wx.heap.size wx w' from fun wx _ => known_any wx)
  have e0 := q1.cell 0; have e1 := q1.cell 1

  have HFW := Lib.hid (show ∀ wx, Below W1.heap.size W1 wx → Calls Tryz.prog 15 #[.agg #[.slice A p.nodes.length c, .slice A2 p.rails.length c2]] wx fun e w' => e = .returned (.bool true) ∧ Below wx.heap.size wx w' from fun wx h => by have := few_any A A2 c c2 p wx (HPB.out wx h); rwa [hfew] at this)
  have HVL := Lib.hid (show ∀ wx, Below W1.heap.size W1 wx → Calls Tryz.prog 19 #[.agg #[.slice A p.nodes.length c, .slice A2 p.rails.length c2]] wx fun e w' => e = .returned (.bool true) ∧ Below wx.heap.size wx w' from fun wx h => (Valid_any A A2 c c2 p wx (HPB.out wx h)).mono (by rintro e w' ⟨⟨b, rfl, hb⟩, h2⟩; rw [hb.2 hv]; exact ⟨rfl, h2⟩))
  have hno : ¬ (Vld p ∧ railIn p r = true) := fun h => by rw [hri] at h; cases h.2
  have HST := Lib.hid (show ∀ wx, Below W1.heap.size W1 wx → Calls Tryz.prog 17 #[.agg #[.slice A p.nodes.length c, .slice A2 p.rails.length c2], .int .i64 r] wx fun e w' => e = .returned (.tuple #[.int .i64 0, .int .i64 2]) ∧ Below wx.heap.size wx w' from fun wx h => (Strips_any A A2 c c2 p r wx (HPB.out wx h)).mono (by rintro e w' ⟨h1 | h1, h2⟩; exact absurd ⟨h1.1, h1.2.1⟩ hno; exact ⟨h1.2, h2⟩))
  have HPL := Lib.hid (show ∀ wx, Below W1.heap.size W1 wx → Calls Tryz.prog 18 #[.agg #[.slice A p.nodes.length c, .slice A2 p.rails.length c2], .agg #[.int .i64 r, .int .i64 k]] wx fun e w' => e = .returned (.tuple #[.int .i64 0, .int .i64 0, .int .i64 2]) ∧ Below wx.heap.size wx w' from fun wx h => Place_no A A2 c c2 p r k wx (HPB.out wx h) (fun h => by have h2 := h.2; unfold stripB at h2; rw [hri] at h2; cases h2))
  have hri2 := of_decide_eq_false hri
  clear hb1 q1 hz1 hP hri
  by_cases hr0 : r < 0
  · have hx : True := trivial
    clear hri2
    go_enter Tryz.func3, Tryz.ntmps3
    go_wp2_with fail
    refine (HFW.out _ HB0.out).mono ?_
    rintro e w18 ⟨rfl, hb18⟩
    have HB18 := Lib.hid (HB0.out.trans (hb18.mono HB0.out.size))
    have r18 := HR.out _ HB18.out
    have e0 := r18.cell 0; have e1 := r18.cell 1
    clear hb18 r18
    clear hW1
    go_wp2_with fail
    refine (HST.out _ HB18.out).mono ?_
    rintro e w19 ⟨rfl, hb19⟩
    have HB19 := Lib.hid (HB18.out.trans (hb19.mono HB18.out.size))
    have r19 := HR.out _ HB19.out
    have e0 := r19.cell 0; have e1 := r19.cell 1
    clear hb19 r19
    go_wp2_with fail
    refine (HPL.out _ HB19.out).mono ?_
    rintro e w20 ⟨rfl, hb20⟩
    have HB20 := Lib.hid (HB19.out.trans (hb20.mono HB19.out.size))
    have r20 := HR.out _ HB20.out
    have e0 := r20.cell 0; have e1 := r20.cell 1
    clear hb20 r20
    go_wp2_with fail
    refine (HVL.out _ HB20.out).mono ?_
    rintro e w21 ⟨rfl, hb21⟩
    have HB21 := Lib.hid (HB20.out.trans (hb21.mono HB20.out.size))
    have r21 := HR.out _ HB21.out
    have e0 := r21.cell 0; have e1 := r21.cell 1
    clear hb21 r21
    go_wp2_with fail
    refine (HKN.out _ HB21.out).mono ?_
    rintro e w22 ⟨rfl, hb22⟩
    have HB22 := Lib.hid (HB21.out.trans (hb22.mono HB21.out.size))
    have r22 := HR.out _ HB22.out
    have e0 := r22.cell 0; have e1 := r22.cell 1
    clear hb22 r22
    go_wp2
    go_ret
    exact ⟨rfl, HB1.out.trans (HB22.out.mono HB1.out.size)⟩
  · have hr1 : (p.rails.length : Int) ≤ r := by omega
    clear hri2
    go_enter Tryz.func3, Tryz.ntmps3
    go_wp2_with fail
    refine (HFW.out _ HB0.out).mono ?_
    rintro e w23 ⟨rfl, hb23⟩
    have HB23 := Lib.hid (HB0.out.trans (hb23.mono HB0.out.size))
    have r23 := HR.out _ HB23.out
    have e0 := r23.cell 0; have e1 := r23.cell 1
    clear hb23 r23
    clear hW1
    go_wp2_with fail
    refine (HST.out _ HB23.out).mono ?_
    rintro e w24 ⟨rfl, hb24⟩
    have HB24 := Lib.hid (HB23.out.trans (hb24.mono HB23.out.size))
    have r24 := HR.out _ HB24.out
    have e0 := r24.cell 0; have e1 := r24.cell 1
    clear hb24 r24
    go_wp2_with fail
    refine (HPL.out _ HB24.out).mono ?_
    rintro e w25 ⟨rfl, hb25⟩
    have HB25 := Lib.hid (HB24.out.trans (hb25.mono HB24.out.size))
    have r25 := HR.out _ HB25.out
    have e0 := r25.cell 0; have e1 := r25.cell 1
    clear hb25 r25
    go_wp2_with fail
    refine (HVL.out _ HB25.out).mono ?_
    rintro e w26 ⟨rfl, hb26⟩
    have HB26 := Lib.hid (HB25.out.trans (hb26.mono HB25.out.size))
    have r26 := HR.out _ HB26.out
    have e0 := r26.cell 0; have e1 := r26.cell 1
    clear hb26 r26
    go_wp2_with fail
    refine (HKN.out _ HB26.out).mono ?_
    rintro e w27 ⟨rfl, hb27⟩
    have HB27 := Lib.hid (HB26.out.trans (hb27.mono HB26.out.size))
    have r27 := HR.out _ HB27.out
    have e0 := r27.cell 0; have e1 := r27.cell 1
    clear hb27 r27
    go_wp2
    go_ret
    exact ⟨rfl, HB1.out.trans (HB27.out.mono HB1.out.size)⟩

set_option maxRecDepth 100000 in
set_option maxHeartbeats 4000000 in
theorem places_noseg (A A2 : Option Addr) (c c2 : Nat) (p : Pl) (r k : Int) (w : World) (hP : PlAt w w.heap.size A c A2 c2 p) (hfew : fewB p = true) (hv : Vld p) (hri : railIn p r = true) (m : Nat) (hm : segN p r = m) (hm2 : m ≤ 40) (hs : k < 0 ∨ (m : Int) + 1 ≤ k) :
    Calls Tryz.prog 3 #[.agg #[.slice A p.nodes.length c, .slice A2 p.rails.length c2], .int .i64 r, .int .i64 k] w fun e w' => e = .returned (.bool true) ∧ Below w.heap.size w w' := by
  have hrm := hP.rm; have hrc := hP.rc
  have hb1 := (Below.refl _ w).alloc (Nat.le_refl _) (.cells #[.slice A p.nodes.length c, .slice A2 p.rails.length c2] 25)
  have q1 := Rw.new w #[.slice A p.nodes.length c, .slice A2 p.rails.length c2] 25
  have hz1 : (w.alloc (.cells #[.slice A p.nodes.length c, .slice A2 p.rails.length c2] 25)).heap.size = w.heap.size + 1 := by simp
  obtain ⟨W1, hW1⟩ : ∃ z, w.alloc (.cells #[.slice A p.nodes.length c, .slice A2 p.rails.length c2] 25) = z := ⟨_, rfl⟩
  rw [hW1] at hb1 q1 hz1
  have HB1 := Lib.hid hb1
  have HB0 := Lib.hid (Below.refl W1.heap.size W1)
  have HR := Lib.hid (show ∀ wx, Below W1.heap.size W1 wx → Rw wx w.heap.size 25 #[.slice A p.nodes.length c, .slice A2 p.rails.length c2] from fun wx h => q1.below h (by omega))
  have HPB := Lib.hid (show ∀ wx, Below W1.heap.size W1 wx → PlAt wx wx.heap.size A c A2 c2 p from fun wx h => ((hP.below hb1).below (h.mono hb1.size)).more (Nat.le_trans hb1.size h.size))
  have HKN := Lib.hid (show ∀ wx, Below W1.heap.size W1 wx → Calls Tryz.prog 16 #[] wx fun e w' => e = .returned (.bool true) ∧ Below wx.heap.size wx w' from fun wx _ => known_any wx)
  have e0 := q1.cell 0; have e1 := q1.cell 1

  have HFW := Lib.hid (show ∀ wx, Below W1.heap.size W1 wx → Calls Tryz.prog 15 #[.agg #[.slice A p.nodes.length c, .slice A2 p.rails.length c2]] wx fun e w' => e = .returned (.bool true) ∧ Below wx.heap.size wx w' from fun wx h => by have := few_any A A2 c c2 p wx (HPB.out wx h); rwa [hfew] at this)
  have HVL := Lib.hid (show ∀ wx, Below W1.heap.size W1 wx → Calls Tryz.prog 19 #[.agg #[.slice A p.nodes.length c, .slice A2 p.rails.length c2]] wx fun e w' => e = .returned (.bool true) ∧ Below wx.heap.size wx w' from fun wx h => (Valid_any A A2 c c2 p wx (HPB.out wx h)).mono (by rintro e w' ⟨⟨b, rfl, hb⟩, h2⟩; rw [hb.2 hv]; exact ⟨rfl, h2⟩))
  have hri2 := of_decide_eq_true hri
  obtain ⟨rn, rfl⟩ := Int.eq_ofNat_of_zero_le hri2.1
  have hrl : rn < p.rails.length := by omega
  have hm3 : p.rails[rn].shape.length + 1 = m + 1 := by rw [← hm, segN_eq hrl]
  have HST := Lib.hid (show ∀ wx, Below W1.heap.size W1 wx → Calls Tryz.prog 17 #[.agg #[.slice A p.nodes.length c, .slice A2 p.rails.length c2], .int .i64 (rn : Int)] wx fun e w' => e = .returned (.tuple #[.int .i64 ((m + 1 : Nat) : Int), .int .i64 0]) ∧ Below wx.heap.size wx w' from fun wx h => (Strips_any A A2 c c2 p (rn : Int) wx (HPB.out wx h)).mono (by rintro e w' ⟨h1 | h1, h2⟩; exact ⟨by rw [h1.2.2, hm], h2⟩; exact absurd ⟨hv, hri⟩ h1.1))
  have HPL := Lib.hid (show ∀ wx, Below W1.heap.size W1 wx → Calls Tryz.prog 18 #[.agg #[.slice A p.nodes.length c, .slice A2 p.rails.length c2], .agg #[.int .i64 (rn : Int), .int .i64 k]] wx fun e w' => e = .returned (.tuple #[.int .i64 0, .int .i64 0, .int .i64 2]) ∧ Below wx.heap.size wx w' from fun wx h => Place_no A A2 c c2 p (rn : Int) k wx (HPB.out wx h) (fun h => by have h2 := h.2; unfold stripB at h2; rw [hri, hm, Bool.true_and] at h2; unfold inB at h2; simp at h2; omega))
  have HRS := Lib.hid (show ∀ wx, Below W1.heap.size W1 wx → Calls Tryz.prog 20 #[.agg #[.slice A p.nodes.length c, .slice A2 p.rails.length c2], .int .i64 (rn : Int)] wx fun e w' => e = .returned (.int .i64 ((m + 1 : Nat) : Int)) ∧ Below wx.heap.size wx w' from fun wx h => rStrips_any A A2 c c2 p rn (m + 1) wx (HPB.out wx h) hrl hm3 (by omega))
  obtain ⟨n, hn⟩ : ∃ z, m + 1 = z := ⟨_, rfl⟩
  rw [hn] at HST HRS
  have g1 : (rn : Int) < (p.rails.length : Int) := by omega
  have g0 : (0 : Int) ≤ (rn : Int) := by omega
  have hs2 : k < 0 ∨ (n : Int) ≤ k := by omega
  clear hb1 q1 hz1 hP hri hri2 hm hm3 hrl hs
  by_cases hk0 : k < 0
  · have hx : True := trivial
    clear hs2 hn
    go_enter Tryz.func3, Tryz.ntmps3
    go_wp2_with fail
    refine (HFW.out _ HB0.out).mono ?_
    rintro e w28 ⟨rfl, hb28⟩
    have HB28 := Lib.hid (HB0.out.trans (hb28.mono HB0.out.size))
    have r28 := HR.out _ HB28.out
    have e0 := r28.cell 0; have e1 := r28.cell 1
    clear hb28 r28
    clear hW1
    go_wp2_with fail
    refine (HST.out _ HB28.out).mono ?_
    rintro e w29 ⟨rfl, hb29⟩
    have HB29 := Lib.hid (HB28.out.trans (hb29.mono HB28.out.size))
    have r29 := HR.out _ HB29.out
    have e0 := r29.cell 0; have e1 := r29.cell 1
    clear hb29 r29
    go_wp2_with fail
    refine (HPL.out _ HB29.out).mono ?_
    rintro e w30 ⟨rfl, hb30⟩
    have HB30 := Lib.hid (HB29.out.trans (hb30.mono HB29.out.size))
    have r30 := HR.out _ HB30.out
    have e0 := r30.cell 0; have e1 := r30.cell 1
    clear hb30 r30
    go_wp2_with fail
    refine (HVL.out _ HB30.out).mono ?_
    rintro e w31 ⟨rfl, hb31⟩
    have HB31 := Lib.hid (HB30.out.trans (hb31.mono HB30.out.size))
    have r31 := HR.out _ HB31.out
    have e0 := r31.cell 0; have e1 := r31.cell 1
    clear hb31 r31
    go_wp2_with fail
    refine (HRS.out _ HB31.out).mono ?_
    rintro e w32 ⟨rfl, hb32⟩
    have HB32 := Lib.hid (HB31.out.trans (hb32.mono HB31.out.size))
    have r32 := HR.out _ HB32.out
    have e0 := r32.cell 0; have e1 := r32.cell 1
    clear hb32 r32
    go_wp2_with fail
    refine (HKN.out _ HB32.out).mono ?_
    rintro e w33 ⟨rfl, hb33⟩
    have HB33 := Lib.hid (HB32.out.trans (hb33.mono HB32.out.size))
    have r33 := HR.out _ HB33.out
    have e0 := r33.cell 0; have e1 := r33.cell 1
    clear hb33 r33
    go_wp2
    go_ret
    exact ⟨rfl, HB1.out.trans (HB33.out.mono HB1.out.size)⟩
  · have hk1 : (n : Int) ≤ k := by omega
    clear hs2 hn
    go_enter Tryz.func3, Tryz.ntmps3
    go_wp2_with fail
    refine (HFW.out _ HB0.out).mono ?_
    rintro e w34 ⟨rfl, hb34⟩
    have HB34 := Lib.hid (HB0.out.trans (hb34.mono HB0.out.size))
    have r34 := HR.out _ HB34.out
    have e0 := r34.cell 0; have e1 := r34.cell 1
    clear hb34 r34
    clear hW1
    go_wp2_with fail
    refine (HST.out _ HB34.out).mono ?_
    rintro e w35 ⟨rfl, hb35⟩
    have HB35 := Lib.hid (HB34.out.trans (hb35.mono HB34.out.size))
    have r35 := HR.out _ HB35.out
    have e0 := r35.cell 0; have e1 := r35.cell 1
    clear hb35 r35
    go_wp2_with fail
    refine (HPL.out _ HB35.out).mono ?_
    rintro e w36 ⟨rfl, hb36⟩
    have HB36 := Lib.hid (HB35.out.trans (hb36.mono HB35.out.size))
    have r36 := HR.out _ HB36.out
    have e0 := r36.cell 0; have e1 := r36.cell 1
    clear hb36 r36
    go_wp2_with fail
    refine (HVL.out _ HB36.out).mono ?_
    rintro e w37 ⟨rfl, hb37⟩
    have HB37 := Lib.hid (HB36.out.trans (hb37.mono HB36.out.size))
    have r37 := HR.out _ HB37.out
    have e0 := r37.cell 0; have e1 := r37.cell 1
    clear hb37 r37
    go_wp2_with fail
    refine (HRS.out _ HB37.out).mono ?_
    rintro e w38 ⟨rfl, hb38⟩
    have HB38 := Lib.hid (HB37.out.trans (hb38.mono HB37.out.size))
    have r38 := HR.out _ HB38.out
    have e0 := r38.cell 0; have e1 := r38.cell 1
    clear hb38 r38
    go_wp2_with fail
    refine (HKN.out _ HB38.out).mono ?_
    rintro e w39 ⟨rfl, hb39⟩
    have HB39 := Lib.hid (HB38.out.trans (hb39.mono HB38.out.size))
    have r39 := HR.out _ HB39.out
    have e0 := r39.cell 0; have e1 := r39.cell 1
    clear hb39 r39
    go_wp2
    go_ret
    exact ⟨rfl, HB1.out.trans (HB39.out.mono HB1.out.size)⟩

set_option maxRecDepth 100000 in
set_option maxHeartbeats 4000000 in
theorem places_all (A A2 : Option Addr) (c c2 : Nat) (p : Pl) (r k : Int) (w : World) (hP : PlAt w w.heap.size A c A2 c2 p) (hfew : fewB p = true) (hv : Vld p) (hri : railIn p r = true) (m : Nat) (hm : segN p r = m) (hm2 : m ≤ 40) (hk0 : 0 ≤ k) (hk1 : k < (m : Int) + 1) :
    Calls Tryz.prog 3 #[.agg #[.slice A p.nodes.length c, .slice A2 p.rails.length c2], .int .i64 r, .int .i64 k] w fun e w' => e = .returned (.bool true) ∧ Below w.heap.size w w' := by
  have hrm := hP.rm; have hrc := hP.rc
  have hb1 := (Below.refl _ w).alloc (Nat.le_refl _) (.cells #[.slice A p.nodes.length c, .slice A2 p.rails.length c2] 25)
  have q1 := Rw.new w #[.slice A p.nodes.length c, .slice A2 p.rails.length c2] 25
  have hz1 : (w.alloc (.cells #[.slice A p.nodes.length c, .slice A2 p.rails.length c2] 25)).heap.size = w.heap.size + 1 := by simp
  obtain ⟨W1, hW1⟩ : ∃ z, w.alloc (.cells #[.slice A p.nodes.length c, .slice A2 p.rails.length c2] 25) = z := ⟨_, rfl⟩
  rw [hW1] at hb1 q1 hz1
  have HB1 := Lib.hid hb1
  have HB0 := Lib.hid (Below.refl W1.heap.size W1)
  have HR := Lib.hid (show ∀ wx, Below W1.heap.size W1 wx → Rw wx w.heap.size 25 #[.slice A p.nodes.length c, .slice A2 p.rails.length c2] from fun wx h => q1.below h (by omega))
  have HPB := Lib.hid (show ∀ wx, Below W1.heap.size W1 wx → PlAt wx wx.heap.size A c A2 c2 p from fun wx h => ((hP.below hb1).below (h.mono hb1.size)).more (Nat.le_trans hb1.size h.size))
  have HKN := Lib.hid (show ∀ wx, Below W1.heap.size W1 wx → Calls Tryz.prog 16 #[] wx fun e w' => e = .returned (.bool true) ∧ Below wx.heap.size wx w' from fun wx _ => known_any wx)
  have e0 := q1.cell 0; have e1 := q1.cell 1

  have HFW := Lib.hid (show ∀ wx, Below W1.heap.size W1 wx → Calls Tryz.prog 15 #[.agg #[.slice A p.nodes.length c, .slice A2 p.rails.length c2]] wx fun e w' => e = .returned (.bool true) ∧ Below wx.heap.size wx w' from fun wx h => by have := few_any A A2 c c2 p wx (HPB.out wx h); rwa [hfew] at this)
  have HVL := Lib.hid (show ∀ wx, Below W1.heap.size W1 wx → Calls Tryz.prog 19 #[.agg #[.slice A p.nodes.length c, .slice A2 p.rails.length c2]] wx fun e w' => e = .returned (.bool true) ∧ Below wx.heap.size wx w' from fun wx h => (Valid_any A A2 c c2 p wx (HPB.out wx h)).mono (by rintro e w' ⟨⟨b, rfl, hb⟩, h2⟩; rw [hb.2 hv]; exact ⟨rfl, h2⟩))
  have hri2 := of_decide_eq_true hri
  obtain ⟨rn, rfl⟩ := Int.eq_ofNat_of_zero_le hri2.1
  have hrl : rn < p.rails.length := by omega
  have hm3 : p.rails[rn].shape.length + 1 = m + 1 := by rw [← hm, segN_eq hrl]
  obtain ⟨kn, rfl⟩ := Int.eq_ofNat_of_zero_le hk0
  have hL := Vld.rl hv hrl
  obtain ⟨L, hLL⟩ : ∃ z, lineOf p p.rails[rn] = z := ⟨_, rfl⟩
  rw [hLL] at hL
  have hlen := hL.len
  have hkn : kn + 1 < L.length := by omega
  have HST := Lib.hid (show ∀ wx, Below W1.heap.size W1 wx → Calls Tryz.prog 17 #[.agg #[.slice A p.nodes.length c, .slice A2 p.rails.length c2], .int .i64 (rn : Int)] wx fun e w' => e = .returned (.tuple #[.int .i64 ((m + 1 : Nat) : Int), .int .i64 0]) ∧ Below wx.heap.size wx w' from fun wx h => (Strips_any A A2 c c2 p (rn : Int) wx (HPB.out wx h)).mono (by rintro e w' ⟨h1 | h1, h2⟩; exact ⟨by rw [h1.2.2, hm], h2⟩; exact absurd ⟨hv, hri⟩ h1.1))
  have HRS := Lib.hid (show ∀ wx, Below W1.heap.size W1 wx → Calls Tryz.prog 20 #[.agg #[.slice A p.nodes.length c, .slice A2 p.rails.length c2], .int .i64 (rn : Int)] wx fun e w' => e = .returned (.int .i64 ((m + 1 : Nat) : Int)) ∧ Below wx.heap.size wx w' from fun wx h => rStrips_any A A2 c c2 p rn (m + 1) wx (HPB.out wx h) hrl hm3 (by omega))
  have HPL := Lib.hid (show ∀ wx, Below W1.heap.size W1 wx → Calls Tryz.prog 18 #[.agg #[.slice A p.nodes.length c, .slice A2 p.rails.length c2], .agg #[.int .i64 (rn : Int), .int .i64 (kn : Int)]] wx fun e w' => e = .returned (.tuple #[.int .i64 ((lenTo L kn : Nat) : Int), .int .i64 ((lenTo L (kn + 1) : Nat) : Int), .int .i64 0]) ∧ Below wx.heap.size wx w' from fun wx h => Place_yes A A2 c c2 p rn kn L wx (HPB.out wx h) hv hL hkn)
  have HRP := Lib.hid (show ∀ wx, Below W1.heap.size W1 wx → Calls Tryz.prog 21 #[.agg #[.slice A p.nodes.length c, .slice A2 p.rails.length c2], .agg #[.int .i64 (rn : Int), .int .i64 (kn : Int)]] wx fun e w' => e = .returned (.tuple #[.int .i64 ((lenTo L kn : Nat) : Int), .int .i64 ((lenTo L (kn + 1) : Nat) : Int)]) ∧ Below wx.heap.size wx w' from fun wx h => rPlace_any A A2 c c2 p rn kn L wx (HPB.out wx h) hL hkn)
  obtain ⟨n, hn⟩ : ∃ z, m + 1 = z := ⟨_, rfl⟩
  rw [hn] at HST HRS
  have HLE := Lib.hid (show ∀ wx, Below W1.heap.size W1 wx → Calls Tryz.prog 22 #[.agg #[.slice A p.nodes.length c, .slice A2 p.rails.length c2], .int .i64 (rn : Int)] wx fun e w' => e = .returned (.tuple #[.int .i64 ((lenTo L n : Nat) : Int), .int .i64 0]) ∧ Below wx.heap.size wx w' from fun wx h => (Length_any A A2 c c2 p rn wx (HPB.out wx h)).mono (by rintro e w' ⟨h1 | h1, h2⟩; exact ⟨by rw [h1.2.2, lenAt_eq hL, show L.length - 1 = n by omega], h2⟩; rcases h1.1 with h3 | h3; exact absurd hv h3; rw [hri] at h3; cases h3))
  have HPJ := Lib.hid (show ∀ wx, Below W1.heap.size W1 wx → ∀ j : Nat, j < n → Calls Tryz.prog 18 #[.agg #[.slice A p.nodes.length c, .slice A2 p.rails.length c2], .agg #[.int .i64 (rn : Int), .int .i64 (j : Int)]] wx fun e w' => e = .returned (.tuple #[.int .i64 ((lenTo L j : Nat) : Int), .int .i64 ((lenTo L (j + 1) : Nat) : Int), .int .i64 0]) ∧ Below wx.heap.size wx w' from fun wx h j hj => Place_yes A A2 c c2 p rn j L wx (HPB.out wx h) hv hL (by omega))
  have HST2 := Lib.hid (show ∀ j : Nat, j < n → ((lenTo L j : Nat) : Int) < ((lenTo L (j + 1) : Nat) : Int) from fun j hj => by have := far_step hL.hR hL.hok (k := j) (by omega); omega)
  have g1 : (rn : Int) < (p.rails.length : Int) := by omega
  have g0 : (0 : Int) ≤ (rn : Int) := by omega
  have g2 : ¬ (kn : Int) < 0 := by omega
  have g3 : (kn : Int) < (n : Int) := by omega
  have hn60 : n ≤ 60 := by omega
  obtain ⟨fk, hfk⟩ : ∃ z, ((lenTo L kn : Nat) : Int) = z := ⟨_, rfl⟩
  obtain ⟨tk, htk⟩ : ∃ z, ((lenTo L (kn + 1) : Nat) : Int) = z := ⟨_, rfl⟩
  rw [hfk, htk] at HPL HRP
  clear hb1 q1 hz1 hP hri hri2 hm hm3 hrl hk0 hk1 hL hLL hlen hkn hn hfk htk
  go_enter Tryz.func3, Tryz.ntmps3
  go_wp2_with fail
  refine (HFW.out _ HB0.out).mono ?_
  rintro e w40 ⟨rfl, hb40⟩
  have HB40 := Lib.hid (HB0.out.trans (hb40.mono HB0.out.size))
  have r40 := HR.out _ HB40.out
  have e0 := r40.cell 0; have e1 := r40.cell 1
  clear hb40 r40
  clear hW1
  go_wp2_with fail
  refine (HST.out _ HB40.out).mono ?_
  rintro e w41 ⟨rfl, hb41⟩
  have HB41 := Lib.hid (HB40.out.trans (hb41.mono HB40.out.size))
  have r41 := HR.out _ HB41.out
  have e0 := r41.cell 0; have e1 := r41.cell 1
  clear hb41 r41
  go_wp2_with fail
  refine (HPL.out _ HB41.out).mono ?_
  rintro e w42 ⟨rfl, hb42⟩
  have HB42 := Lib.hid (HB41.out.trans (hb42.mono HB41.out.size))
  have r42 := HR.out _ HB42.out
  have e0 := r42.cell 0; have e1 := r42.cell 1
  clear hb42 r42
  go_wp2_with fail
  refine (HVL.out _ HB42.out).mono ?_
  rintro e w43 ⟨rfl, hb43⟩
  have HB43 := Lib.hid (HB42.out.trans (hb43.mono HB42.out.size))
  have r43 := HR.out _ HB43.out
  have e0 := r43.cell 0; have e1 := r43.cell 1
  clear hb43 r43
  go_wp2_with fail
  refine (HRS.out _ HB43.out).mono ?_
  rintro e w44 ⟨rfl, hb44⟩
  have HB44 := Lib.hid (HB43.out.trans (hb44.mono HB43.out.size))
  have r44 := HR.out _ HB44.out
  have e0 := r44.cell 0; have e1 := r44.cell 1
  clear hb44 r44
  go_wp2_with fail
  refine (HRP.out _ HB44.out).mono ?_
  rintro e w45 ⟨rfl, hb45⟩
  have HB45 := Lib.hid (HB44.out.trans (hb45.mono HB44.out.size))
  have r45 := HR.out _ HB45.out
  have e0 := r45.cell 0; have e1 := r45.cell 1
  clear hb45 r45
  clear g2 g3
  go_wp2
  go_loopw [14, 15] (fun s14 s15 wr => ∃ j : Nat, j ≤ n ∧ s14 = .int .i64 ((lenTo L j : Nat) : Int) ∧ s15 = .int .i64 (j : Int) ∧ Below W1.heap.size W1 wr) (fun _ s15 _ => n - (intOf s15).toNat)
  case atStart => exact ⟨0, by omega, rfl, rfl, HB45.out⟩
  case round =>
    obtain ⟨j, hj, rfl, rfl, hb⟩ := hrel
    have HB := Lib.hid hb
    have rr := HR.out _ hb
    have e0 := rr.cell 0; have e1 := rr.cell 1
    clear hb rr
    by_cases hjn : j < n
    · have HJN := Lib.hid hjn
      have g3 : (j : Int) < (n : Int) := by omega
      have HC := Lib.hid (HPJ.out _ HB.out j hjn)
      have hst := HST2.out j hjn
      obtain ⟨lj, hlj⟩ : ∃ z, ((lenTo L j : Nat) : Int) = z := ⟨_, rfl⟩
      obtain ⟨lk, hlk⟩ : ∃ z, ((lenTo L (j + 1) : Nat) : Int) = z := ⟨_, rfl⟩
      have HLK := Lib.hid hlk
      rw [hlj] at HC hst ⊢
      rw [hlk] at HC hst
      clear hlj hlk
      go_wp2_with fail
      refine (HC.out).mono ?_
      rintro e wz ⟨rfl, hb⟩
      have HBZ := Lib.hid (HB.out.trans (hb.mono HB.out.size))
      clear hb
      go_wp2
      go_roundw
      case rel => exact ⟨j + 1, by have := HJN.out; omega, by rw [HLK.out], by go_num, HBZ.out⟩
      case measure => have := HJN.out; simp [intOf]; omega
    · obtain rfl : j = n := by omega
      go_wp2_with fail
      refine (HLE.out _ HB.out).mono ?_
      rintro e w46 ⟨rfl, hb46⟩
      have HB46 := Lib.hid (HB.out.trans (hb46.mono HB.out.size))
      have r46 := HR.out _ HB46.out
      have e0 := r46.cell 0; have e1 := r46.cell 1
      clear hb46 r46
      go_wp2_with fail
      refine (HKN.out _ HB46.out).mono ?_
      rintro e w47 ⟨rfl, hb47⟩
      have HB47 := Lib.hid (HB46.out.trans (hb47.mono HB46.out.size))
      have r47 := HR.out _ HB47.out
      have e0 := r47.cell 0; have e1 := r47.cell 1
      clear hb47 r47
      go_wp2
      go_ret
      exact ⟨rfl, HB1.out.trans (HB47.out.mono HB1.out.size)⟩

theorem SweepPlaces_any (A A2 : Option Addr) (c c2 : Nat) (p : Pl) (r k : Int) (w : World) (hP : PlAt w w.heap.size A c A2 c2 p) :
    Calls Tryz.prog 3 #[.agg #[.slice A p.nodes.length c, .slice A2 p.rails.length c2], .int .i64 r, .int .i64 k] w fun e w' => e = .returned (.bool true) ∧ Below w.heap.size w w' := by
  cases hfew : fewB p with
  | false => exact places_few A A2 c c2 p r k w hP hfew
  | true =>
    by_cases hv : Vld p
    · cases hri : railIn p r with
      | false => exact places_norail A A2 c c2 p r k w hP hfew hv hri
      | true =>
        have hri2 := of_decide_eq_true hri
        obtain ⟨rn, rfl⟩ := Int.eq_ofNat_of_zero_le hri2.1
        have hrl : rn < p.rails.length := by omega
        have hm2 : segN p (rn : Int) ≤ 40 := by rw [segN_eq hrl]; exact (Vld.rl hv hrl).hs
        by_cases hk0 : 0 ≤ k
        · by_cases hk1 : k < ((segN p (rn : Int) : Nat) : Int) + 1
          · exact places_all A A2 c c2 p rn k w hP hfew hv hri _ rfl hm2 hk0 hk1
          · exact places_noseg A A2 c c2 p rn k w hP hfew hv hri _ rfl hm2 (.inr (by omega))
        · exact places_noseg A A2 c c2 p rn k w hP hfew hv hri _ rfl hm2 (.inl (by omega))
    · exact places_invalid A A2 c c2 p r k w hP hfew hv
end Go.Proofs.YtekambdnmaompaaGreat.SW
