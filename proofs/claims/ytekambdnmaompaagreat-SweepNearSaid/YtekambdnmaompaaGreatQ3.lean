/- The law SweepNear in general. -/
import Derived.Test.YtekambdnmaompaaGreatJ7
import Derived.Test.YtekambdnmaompaaGreatQ1
namespace Go.Proofs.YtekambdnmaompaaGreat.SW
set_option linter.unusedVariables false
set_option linter.unusedSimpArgs false
open Go.RowKit


set_option maxRecDepth 100000 in
set_option maxHeartbeats 4000000 in
theorem near_few (A A2 : Option Addr) (c c2 : Nat) (p : Pl) (r k r2 k2 d : Int) (w : World) (hP : PlAt w w.heap.size A c A2 c2 p) (hfew : fewB p = false) :
    Calls Tryz.prog 4 #[.agg #[.slice A p.nodes.length c, .slice A2 p.rails.length c2], .agg #[.int .i64 r, .int .i64 k], .agg #[.int .i64 r2, .int .i64 k2], .int .i64 d] w fun e w' => e = .returned (.bool true) ∧ Below w.heap.size w w' := by
  have hrm := hP.rm; have hrc := hP.rc
  have hb1 := (((Below.refl _ w).alloc (Nat.le_refl _) (.cells #[.slice A p.nodes.length c, .slice A2 p.rails.length c2] 25)).alloc (by simp) (.cells #[.int .i64 r, .int .i64 k] 34)).alloc (by simp; omega) (.cells #[.int .i64 r2, .int .i64 k2] 34)
  obtain ⟨q1, q2, q3⟩ := rows3 w #[.slice A p.nodes.length c, .slice A2 p.rails.length c2] #[.int .i64 r, .int .i64 k] #[.int .i64 r2, .int .i64 k2] 25 34 34
  have hz1 : (((w.alloc (.cells #[.slice A p.nodes.length c, .slice A2 p.rails.length c2] 25)).alloc (.cells #[.int .i64 r, .int .i64 k] 34)).alloc (.cells #[.int .i64 r2, .int .i64 k2] 34)).heap.size = w.heap.size + 3 := by simp
  obtain ⟨W1, hW1⟩ : ∃ z, ((w.alloc (.cells #[.slice A p.nodes.length c, .slice A2 p.rails.length c2] 25)).alloc (.cells #[.int .i64 r, .int .i64 k] 34)).alloc (.cells #[.int .i64 r2, .int .i64 k2] 34) = z := ⟨_, rfl⟩
  rw [hW1] at hb1 q1 q2 q3 hz1
  have HB1 := Lib.hid hb1
  have HB0 := Lib.hid (Below.refl W1.heap.size W1)
  have HR := Lib.hid (show ∀ wx, Below W1.heap.size W1 wx → Rw wx w.heap.size 25 #[.slice A p.nodes.length c, .slice A2 p.rails.length c2] ∧ Rw wx (w.heap.size + 1) 34 #[.int .i64 r, .int .i64 k] ∧ Rw wx (w.heap.size + 1 + 1) 34 #[.int .i64 r2, .int .i64 k2] from fun wx h => ⟨q1.below h (by omega), q2.below h (by omega), q3.below h (by omega)⟩)
  have HPB := Lib.hid (show ∀ wx, Below W1.heap.size W1 wx → PlAt wx wx.heap.size A c A2 c2 p from fun wx h => ((hP.below hb1).below (h.mono hb1.size)).more (Nat.le_trans hb1.size h.size))
  have HKN := Lib.hid (show ∀ wx, Below W1.heap.size W1 wx → Calls Tryz.prog 16 #[] wx fun e w' => e = .returned (.bool true) ∧ Below wx.heap.size wx w' from fun wx _ => known_any wx)
  have e0 := q1.cell 0; have e1 := q1.cell 1; have e2 := q2.cell 0; have e3 := q2.cell 1; have e4 := q3.cell 0; have e5 := q3.cell 1
  have HFW := Lib.hid (show ∀ wx, Below W1.heap.size W1 wx → Calls Tryz.prog 15 #[.agg #[.slice A p.nodes.length c, .slice A2 p.rails.length c2]] wx fun e w' => e = .returned (.bool false) ∧ Below wx.heap.size wx w' from fun wx h => by have := few_any A A2 c c2 p wx (HPB.out wx h); rwa [hfew] at this)
  clear hb1 q1 q2 q3 hz1 hP
  go_enter Tryz.func4, Tryz.ntmps4
  go_wp2_with fail
  refine (HFW.out _ HB0.out).mono ?_
  rintro e w11 ⟨rfl, hb11⟩
  have HB11 := Lib.hid (HB0.out.trans (hb11.mono HB0.out.size))
  obtain ⟨r11a, r11b, r11c⟩ := HR.out _ HB11.out
  have e0 := r11a.cell 0; have e1 := r11a.cell 1; have e2 := r11b.cell 0; have e3 := r11b.cell 1; have e4 := r11c.cell 0; have e5 := r11c.cell 1
  clear hb11 r11a r11b r11c
  clear hW1
  go_wp2_with fail
  refine (HKN.out _ HB11.out).mono ?_
  rintro e w12 ⟨rfl, hb12⟩
  have HB12 := Lib.hid (HB11.out.trans (hb12.mono HB11.out.size))
  obtain ⟨r12a, r12b, r12c⟩ := HR.out _ HB12.out
  have e0 := r12a.cell 0; have e1 := r12a.cell 1; have e2 := r12b.cell 0; have e3 := r12b.cell 1; have e4 := r12c.cell 0; have e5 := r12c.cell 1
  clear hb12 r12a r12b r12c
  go_wp2
  go_ret
  exact ⟨rfl, HB1.out.trans (HB12.out.mono HB1.out.size)⟩

set_option maxRecDepth 100000 in
set_option maxHeartbeats 4000000 in
theorem near_n1 (A A2 : Option Addr) (c c2 : Nat) (p : Pl) (r k r2 k2 d : Int) (w : World) (hP : PlAt w w.heap.size A c A2 c2 p) (hfew : fewB p = true) (hno : ¬ (Vld p ∧ stripB p r k = true ∧ stripB p r2 k2 = true)) (hv : ¬ Vld p) :
    Calls Tryz.prog 4 #[.agg #[.slice A p.nodes.length c, .slice A2 p.rails.length c2], .agg #[.int .i64 r, .int .i64 k], .agg #[.int .i64 r2, .int .i64 k2], .int .i64 d] w fun e w' => e = .returned (.bool true) ∧ Below w.heap.size w w' := by
  have hrm := hP.rm; have hrc := hP.rc
  have hb1 := (((Below.refl _ w).alloc (Nat.le_refl _) (.cells #[.slice A p.nodes.length c, .slice A2 p.rails.length c2] 25)).alloc (by simp) (.cells #[.int .i64 r, .int .i64 k] 34)).alloc (by simp; omega) (.cells #[.int .i64 r2, .int .i64 k2] 34)
  obtain ⟨q1, q2, q3⟩ := rows3 w #[.slice A p.nodes.length c, .slice A2 p.rails.length c2] #[.int .i64 r, .int .i64 k] #[.int .i64 r2, .int .i64 k2] 25 34 34
  have hz1 : (((w.alloc (.cells #[.slice A p.nodes.length c, .slice A2 p.rails.length c2] 25)).alloc (.cells #[.int .i64 r, .int .i64 k] 34)).alloc (.cells #[.int .i64 r2, .int .i64 k2] 34)).heap.size = w.heap.size + 3 := by simp
  obtain ⟨W1, hW1⟩ : ∃ z, ((w.alloc (.cells #[.slice A p.nodes.length c, .slice A2 p.rails.length c2] 25)).alloc (.cells #[.int .i64 r, .int .i64 k] 34)).alloc (.cells #[.int .i64 r2, .int .i64 k2] 34) = z := ⟨_, rfl⟩
  rw [hW1] at hb1 q1 q2 q3 hz1
  have HB1 := Lib.hid hb1
  have HB0 := Lib.hid (Below.refl W1.heap.size W1)
  have HR := Lib.hid (show ∀ wx, Below W1.heap.size W1 wx → Rw wx w.heap.size 25 #[.slice A p.nodes.length c, .slice A2 p.rails.length c2] ∧ Rw wx (w.heap.size + 1) 34 #[.int .i64 r, .int .i64 k] ∧ Rw wx (w.heap.size + 1 + 1) 34 #[.int .i64 r2, .int .i64 k2] from fun wx h => ⟨q1.below h (by omega), q2.below h (by omega), q3.below h (by omega)⟩)
  have HPB := Lib.hid (show ∀ wx, Below W1.heap.size W1 wx → PlAt wx wx.heap.size A c A2 c2 p from fun wx h => ((hP.below hb1).below (h.mono hb1.size)).more (Nat.le_trans hb1.size h.size))
  have HKN := Lib.hid (show ∀ wx, Below W1.heap.size W1 wx → Calls Tryz.prog 16 #[] wx fun e w' => e = .returned (.bool true) ∧ Below wx.heap.size wx w' from fun wx _ => known_any wx)
  have e0 := q1.cell 0; have e1 := q1.cell 1; have e2 := q2.cell 0; have e3 := q2.cell 1; have e4 := q3.cell 0; have e5 := q3.cell 1
  have HFW := Lib.hid (show ∀ wx, Below W1.heap.size W1 wx → Calls Tryz.prog 15 #[.agg #[.slice A p.nodes.length c, .slice A2 p.rails.length c2]] wx fun e w' => e = .returned (.bool true) ∧ Below wx.heap.size wx w' from fun wx h => by have := few_any A A2 c c2 p wx (HPB.out wx h); rwa [hfew] at this)
  have HVL := Lib.hid (show ∀ wx, Below W1.heap.size W1 wx → Calls Tryz.prog 19 #[.agg #[.slice A p.nodes.length c, .slice A2 p.rails.length c2]] wx fun e w' => e = .returned (.bool false) ∧ Below wx.heap.size wx w' from fun wx h => (Valid_any A A2 c c2 p wx (HPB.out wx h)).mono (by rintro e w' ⟨⟨b, rfl, hb⟩, h2⟩; cases b; exact ⟨rfl, h2⟩; exact absurd (hb.1 rfl) hv))
  have HWI := Lib.hid (show ∀ wx, Below W1.heap.size W1 wx → Calls Tryz.prog 23 #[.agg #[.slice A p.nodes.length c, .slice A2 p.rails.length c2], .agg #[.int .i64 r, .int .i64 k], .agg #[.int .i64 r2, .int .i64 k2], .int .i64 d] wx fun e w' => e = .returned (.tuple #[.bool false, .int .i64 2]) ∧ Below wx.heap.size wx w' from fun wx h => Within_no A A2 c c2 p r k r2 k2 d wx (HPB.out wx h) hno)
  have HGP := Lib.hid (show ∀ wx, Below W1.heap.size W1 wx → Calls Tryz.prog 24 #[.agg #[.slice A p.nodes.length c, .slice A2 p.rails.length c2], .agg #[.int .i64 r, .int .i64 k], .agg #[.int .i64 r2, .int .i64 k2]] wx fun e w' => e = .returned (.tuple #[.int .i64 0, .int .i64 2]) ∧ Below wx.heap.size wx w' from fun wx h => Gap_no A A2 c c2 p r k r2 k2 wx (HPB.out wx h) hno)
  clear hb1 q1 q2 q3 hz1 hP
  go_enter Tryz.func4, Tryz.ntmps4
  go_wp2_with fail
  refine (HFW.out _ HB0.out).mono ?_
  rintro e w13 ⟨rfl, hb13⟩
  have HB13 := Lib.hid (HB0.out.trans (hb13.mono HB0.out.size))
  obtain ⟨r13a, r13b, r13c⟩ := HR.out _ HB13.out
  have e0 := r13a.cell 0; have e1 := r13a.cell 1; have e2 := r13b.cell 0; have e3 := r13b.cell 1; have e4 := r13c.cell 0; have e5 := r13c.cell 1
  clear hb13 r13a r13b r13c
  clear hW1
  go_wp2_with fail
  refine (HWI.out _ HB13.out).mono ?_
  rintro e w14 ⟨rfl, hb14⟩
  have HB14 := Lib.hid (HB13.out.trans (hb14.mono HB13.out.size))
  obtain ⟨r14a, r14b, r14c⟩ := HR.out _ HB14.out
  have e0 := r14a.cell 0; have e1 := r14a.cell 1; have e2 := r14b.cell 0; have e3 := r14b.cell 1; have e4 := r14c.cell 0; have e5 := r14c.cell 1
  clear hb14 r14a r14b r14c
  go_wp2_with fail
  refine (HGP.out _ HB14.out).mono ?_
  rintro e w15 ⟨rfl, hb15⟩
  have HB15 := Lib.hid (HB14.out.trans (hb15.mono HB14.out.size))
  obtain ⟨r15a, r15b, r15c⟩ := HR.out _ HB15.out
  have e0 := r15a.cell 0; have e1 := r15a.cell 1; have e2 := r15b.cell 0; have e3 := r15b.cell 1; have e4 := r15c.cell 0; have e5 := r15c.cell 1
  clear hb15 r15a r15b r15c
  go_wp2_with fail
  refine (HVL.out _ HB15.out).mono ?_
  rintro e w16 ⟨rfl, hb16⟩
  have HB16 := Lib.hid (HB15.out.trans (hb16.mono HB15.out.size))
  obtain ⟨r16a, r16b, r16c⟩ := HR.out _ HB16.out
  have e0 := r16a.cell 0; have e1 := r16a.cell 1; have e2 := r16b.cell 0; have e3 := r16b.cell 1; have e4 := r16c.cell 0; have e5 := r16c.cell 1
  clear hb16 r16a r16b r16c
  go_wp2_with fail
  refine (HKN.out _ HB16.out).mono ?_
  rintro e w17 ⟨rfl, hb17⟩
  have HB17 := Lib.hid (HB16.out.trans (hb17.mono HB16.out.size))
  obtain ⟨r17a, r17b, r17c⟩ := HR.out _ HB17.out
  have e0 := r17a.cell 0; have e1 := r17a.cell 1; have e2 := r17b.cell 0; have e3 := r17b.cell 1; have e4 := r17c.cell 0; have e5 := r17c.cell 1
  clear hb17 r17a r17b r17c
  go_wp2
  go_ret
  exact ⟨rfl, HB1.out.trans (HB17.out.mono HB1.out.size)⟩

set_option maxRecDepth 100000 in
set_option maxHeartbeats 4000000 in
theorem near_n2 (A A2 : Option Addr) (c c2 : Nat) (p : Pl) (r k r2 k2 d : Int) (w : World) (hP : PlAt w w.heap.size A c A2 c2 p) (hfew : fewB p = true) (hno : ¬ (Vld p ∧ stripB p r k = true ∧ stripB p r2 k2 = true)) (hv : Vld p) (hs1 : stripB p r k = false) :
    Calls Tryz.prog 4 #[.agg #[.slice A p.nodes.length c, .slice A2 p.rails.length c2], .agg #[.int .i64 r, .int .i64 k], .agg #[.int .i64 r2, .int .i64 k2], .int .i64 d] w fun e w' => e = .returned (.bool true) ∧ Below w.heap.size w w' := by
  have hrm := hP.rm; have hrc := hP.rc
  have hb1 := (((Below.refl _ w).alloc (Nat.le_refl _) (.cells #[.slice A p.nodes.length c, .slice A2 p.rails.length c2] 25)).alloc (by simp) (.cells #[.int .i64 r, .int .i64 k] 34)).alloc (by simp; omega) (.cells #[.int .i64 r2, .int .i64 k2] 34)
  obtain ⟨q1, q2, q3⟩ := rows3 w #[.slice A p.nodes.length c, .slice A2 p.rails.length c2] #[.int .i64 r, .int .i64 k] #[.int .i64 r2, .int .i64 k2] 25 34 34
  have hz1 : (((w.alloc (.cells #[.slice A p.nodes.length c, .slice A2 p.rails.length c2] 25)).alloc (.cells #[.int .i64 r, .int .i64 k] 34)).alloc (.cells #[.int .i64 r2, .int .i64 k2] 34)).heap.size = w.heap.size + 3 := by simp
  obtain ⟨W1, hW1⟩ : ∃ z, ((w.alloc (.cells #[.slice A p.nodes.length c, .slice A2 p.rails.length c2] 25)).alloc (.cells #[.int .i64 r, .int .i64 k] 34)).alloc (.cells #[.int .i64 r2, .int .i64 k2] 34) = z := ⟨_, rfl⟩
  rw [hW1] at hb1 q1 q2 q3 hz1
  have HB1 := Lib.hid hb1
  have HB0 := Lib.hid (Below.refl W1.heap.size W1)
  have HR := Lib.hid (show ∀ wx, Below W1.heap.size W1 wx → Rw wx w.heap.size 25 #[.slice A p.nodes.length c, .slice A2 p.rails.length c2] ∧ Rw wx (w.heap.size + 1) 34 #[.int .i64 r, .int .i64 k] ∧ Rw wx (w.heap.size + 1 + 1) 34 #[.int .i64 r2, .int .i64 k2] from fun wx h => ⟨q1.below h (by omega), q2.below h (by omega), q3.below h (by omega)⟩)
  have HPB := Lib.hid (show ∀ wx, Below W1.heap.size W1 wx → PlAt wx wx.heap.size A c A2 c2 p from fun wx h => ((hP.below hb1).below (h.mono hb1.size)).more (Nat.le_trans hb1.size h.size))
  have HKN := Lib.hid (show ∀ wx, Below W1.heap.size W1 wx → Calls Tryz.prog 16 #[] wx fun e w' => e = .returned (.bool true) ∧ Below wx.heap.size wx w' from fun wx _ => known_any wx)
  have e0 := q1.cell 0; have e1 := q1.cell 1; have e2 := q2.cell 0; have e3 := q2.cell 1; have e4 := q3.cell 0; have e5 := q3.cell 1
  have HFW := Lib.hid (show ∀ wx, Below W1.heap.size W1 wx → Calls Tryz.prog 15 #[.agg #[.slice A p.nodes.length c, .slice A2 p.rails.length c2]] wx fun e w' => e = .returned (.bool true) ∧ Below wx.heap.size wx w' from fun wx h => by have := few_any A A2 c c2 p wx (HPB.out wx h); rwa [hfew] at this)
  have HVL := Lib.hid (show ∀ wx, Below W1.heap.size W1 wx → Calls Tryz.prog 19 #[.agg #[.slice A p.nodes.length c, .slice A2 p.rails.length c2]] wx fun e w' => e = .returned (.bool true) ∧ Below wx.heap.size wx w' from fun wx h => (Valid_any A A2 c c2 p wx (HPB.out wx h)).mono (by rintro e w' ⟨⟨b, rfl, hb⟩, h2⟩; rw [hb.2 hv]; exact ⟨rfl, h2⟩))
  have HWI := Lib.hid (show ∀ wx, Below W1.heap.size W1 wx → Calls Tryz.prog 23 #[.agg #[.slice A p.nodes.length c, .slice A2 p.rails.length c2], .agg #[.int .i64 r, .int .i64 k], .agg #[.int .i64 r2, .int .i64 k2], .int .i64 d] wx fun e w' => e = .returned (.tuple #[.bool false, .int .i64 2]) ∧ Below wx.heap.size wx w' from fun wx h => Within_no A A2 c c2 p r k r2 k2 d wx (HPB.out wx h) hno)
  have HGP := Lib.hid (show ∀ wx, Below W1.heap.size W1 wx → Calls Tryz.prog 24 #[.agg #[.slice A p.nodes.length c, .slice A2 p.rails.length c2], .agg #[.int .i64 r, .int .i64 k], .agg #[.int .i64 r2, .int .i64 k2]] wx fun e w' => e = .returned (.tuple #[.int .i64 0, .int .i64 2]) ∧ Below wx.heap.size wx w' from fun wx h => Gap_no A A2 c c2 p r k r2 k2 wx (HPB.out wx h) hno)
  have HS1 := Lib.hid (show ∀ wx, Below W1.heap.size W1 wx → Calls Tryz.prog 25 #[.agg #[.slice A p.nodes.length c, .slice A2 p.rails.length c2], .agg #[.int .i64 r, .int .i64 k]] wx fun e w' => e = .returned (.bool false) ∧ Below wx.heap.size wx w' from fun wx h => by have := rStrip_any A A2 c c2 p r k wx (HPB.out wx h) hv; rwa [hs1] at this)
  clear hb1 q1 q2 q3 hz1 hP
  go_enter Tryz.func4, Tryz.ntmps4
  go_wp2_with fail
  refine (HFW.out _ HB0.out).mono ?_
  rintro e w18 ⟨rfl, hb18⟩
  have HB18 := Lib.hid (HB0.out.trans (hb18.mono HB0.out.size))
  obtain ⟨r18a, r18b, r18c⟩ := HR.out _ HB18.out
  have e0 := r18a.cell 0; have e1 := r18a.cell 1; have e2 := r18b.cell 0; have e3 := r18b.cell 1; have e4 := r18c.cell 0; have e5 := r18c.cell 1
  clear hb18 r18a r18b r18c
  clear hW1
  go_wp2_with fail
  refine (HWI.out _ HB18.out).mono ?_
  rintro e w19 ⟨rfl, hb19⟩
  have HB19 := Lib.hid (HB18.out.trans (hb19.mono HB18.out.size))
  obtain ⟨r19a, r19b, r19c⟩ := HR.out _ HB19.out
  have e0 := r19a.cell 0; have e1 := r19a.cell 1; have e2 := r19b.cell 0; have e3 := r19b.cell 1; have e4 := r19c.cell 0; have e5 := r19c.cell 1
  clear hb19 r19a r19b r19c
  go_wp2_with fail
  refine (HGP.out _ HB19.out).mono ?_
  rintro e w20 ⟨rfl, hb20⟩
  have HB20 := Lib.hid (HB19.out.trans (hb20.mono HB19.out.size))
  obtain ⟨r20a, r20b, r20c⟩ := HR.out _ HB20.out
  have e0 := r20a.cell 0; have e1 := r20a.cell 1; have e2 := r20b.cell 0; have e3 := r20b.cell 1; have e4 := r20c.cell 0; have e5 := r20c.cell 1
  clear hb20 r20a r20b r20c
  go_wp2_with fail
  refine (HVL.out _ HB20.out).mono ?_
  rintro e w21 ⟨rfl, hb21⟩
  have HB21 := Lib.hid (HB20.out.trans (hb21.mono HB20.out.size))
  obtain ⟨r21a, r21b, r21c⟩ := HR.out _ HB21.out
  have e0 := r21a.cell 0; have e1 := r21a.cell 1; have e2 := r21b.cell 0; have e3 := r21b.cell 1; have e4 := r21c.cell 0; have e5 := r21c.cell 1
  clear hb21 r21a r21b r21c
  go_wp2_with fail
  refine (HS1.out _ HB21.out).mono ?_
  rintro e w22 ⟨rfl, hb22⟩
  have HB22 := Lib.hid (HB21.out.trans (hb22.mono HB21.out.size))
  obtain ⟨r22a, r22b, r22c⟩ := HR.out _ HB22.out
  have e0 := r22a.cell 0; have e1 := r22a.cell 1; have e2 := r22b.cell 0; have e3 := r22b.cell 1; have e4 := r22c.cell 0; have e5 := r22c.cell 1
  clear hb22 r22a r22b r22c
  go_wp2_with fail
  refine (HKN.out _ HB22.out).mono ?_
  rintro e w23 ⟨rfl, hb23⟩
  have HB23 := Lib.hid (HB22.out.trans (hb23.mono HB22.out.size))
  obtain ⟨r23a, r23b, r23c⟩ := HR.out _ HB23.out
  have e0 := r23a.cell 0; have e1 := r23a.cell 1; have e2 := r23b.cell 0; have e3 := r23b.cell 1; have e4 := r23c.cell 0; have e5 := r23c.cell 1
  clear hb23 r23a r23b r23c
  go_wp2
  go_ret
  exact ⟨rfl, HB1.out.trans (HB23.out.mono HB1.out.size)⟩

set_option maxRecDepth 100000 in
set_option maxHeartbeats 4000000 in
theorem near_n3 (A A2 : Option Addr) (c c2 : Nat) (p : Pl) (r k r2 k2 d : Int) (w : World) (hP : PlAt w w.heap.size A c A2 c2 p) (hfew : fewB p = true) (hno : ¬ (Vld p ∧ stripB p r k = true ∧ stripB p r2 k2 = true)) (hv : Vld p) (hs1 : stripB p r k = true) (hs2 : stripB p r2 k2 = false) :
    Calls Tryz.prog 4 #[.agg #[.slice A p.nodes.length c, .slice A2 p.rails.length c2], .agg #[.int .i64 r, .int .i64 k], .agg #[.int .i64 r2, .int .i64 k2], .int .i64 d] w fun e w' => e = .returned (.bool true) ∧ Below w.heap.size w w' := by
  have hrm := hP.rm; have hrc := hP.rc
  have hb1 := (((Below.refl _ w).alloc (Nat.le_refl _) (.cells #[.slice A p.nodes.length c, .slice A2 p.rails.length c2] 25)).alloc (by simp) (.cells #[.int .i64 r, .int .i64 k] 34)).alloc (by simp; omega) (.cells #[.int .i64 r2, .int .i64 k2] 34)
  obtain ⟨q1, q2, q3⟩ := rows3 w #[.slice A p.nodes.length c, .slice A2 p.rails.length c2] #[.int .i64 r, .int .i64 k] #[.int .i64 r2, .int .i64 k2] 25 34 34
  have hz1 : (((w.alloc (.cells #[.slice A p.nodes.length c, .slice A2 p.rails.length c2] 25)).alloc (.cells #[.int .i64 r, .int .i64 k] 34)).alloc (.cells #[.int .i64 r2, .int .i64 k2] 34)).heap.size = w.heap.size + 3 := by simp
  obtain ⟨W1, hW1⟩ : ∃ z, ((w.alloc (.cells #[.slice A p.nodes.length c, .slice A2 p.rails.length c2] 25)).alloc (.cells #[.int .i64 r, .int .i64 k] 34)).alloc (.cells #[.int .i64 r2, .int .i64 k2] 34) = z := ⟨_, rfl⟩
  rw [hW1] at hb1 q1 q2 q3 hz1
  have HB1 := Lib.hid hb1
  have HB0 := Lib.hid (Below.refl W1.heap.size W1)
  have HR := Lib.hid (show ∀ wx, Below W1.heap.size W1 wx → Rw wx w.heap.size 25 #[.slice A p.nodes.length c, .slice A2 p.rails.length c2] ∧ Rw wx (w.heap.size + 1) 34 #[.int .i64 r, .int .i64 k] ∧ Rw wx (w.heap.size + 1 + 1) 34 #[.int .i64 r2, .int .i64 k2] from fun wx h => ⟨q1.below h (by omega), q2.below h (by omega), q3.below h (by omega)⟩)
  have HPB := Lib.hid (show ∀ wx, Below W1.heap.size W1 wx → PlAt wx wx.heap.size A c A2 c2 p from fun wx h => ((hP.below hb1).below (h.mono hb1.size)).more (Nat.le_trans hb1.size h.size))
  have HKN := Lib.hid (show ∀ wx, Below W1.heap.size W1 wx → Calls Tryz.prog 16 #[] wx fun e w' => e = .returned (.bool true) ∧ Below wx.heap.size wx w' from fun wx _ => known_any wx)
  have e0 := q1.cell 0; have e1 := q1.cell 1; have e2 := q2.cell 0; have e3 := q2.cell 1; have e4 := q3.cell 0; have e5 := q3.cell 1
  have HFW := Lib.hid (show ∀ wx, Below W1.heap.size W1 wx → Calls Tryz.prog 15 #[.agg #[.slice A p.nodes.length c, .slice A2 p.rails.length c2]] wx fun e w' => e = .returned (.bool true) ∧ Below wx.heap.size wx w' from fun wx h => by have := few_any A A2 c c2 p wx (HPB.out wx h); rwa [hfew] at this)
  have HVL := Lib.hid (show ∀ wx, Below W1.heap.size W1 wx → Calls Tryz.prog 19 #[.agg #[.slice A p.nodes.length c, .slice A2 p.rails.length c2]] wx fun e w' => e = .returned (.bool true) ∧ Below wx.heap.size wx w' from fun wx h => (Valid_any A A2 c c2 p wx (HPB.out wx h)).mono (by rintro e w' ⟨⟨b, rfl, hb⟩, h2⟩; rw [hb.2 hv]; exact ⟨rfl, h2⟩))
  have HWI := Lib.hid (show ∀ wx, Below W1.heap.size W1 wx → Calls Tryz.prog 23 #[.agg #[.slice A p.nodes.length c, .slice A2 p.rails.length c2], .agg #[.int .i64 r, .int .i64 k], .agg #[.int .i64 r2, .int .i64 k2], .int .i64 d] wx fun e w' => e = .returned (.tuple #[.bool false, .int .i64 2]) ∧ Below wx.heap.size wx w' from fun wx h => Within_no A A2 c c2 p r k r2 k2 d wx (HPB.out wx h) hno)
  have HGP := Lib.hid (show ∀ wx, Below W1.heap.size W1 wx → Calls Tryz.prog 24 #[.agg #[.slice A p.nodes.length c, .slice A2 p.rails.length c2], .agg #[.int .i64 r, .int .i64 k], .agg #[.int .i64 r2, .int .i64 k2]] wx fun e w' => e = .returned (.tuple #[.int .i64 0, .int .i64 2]) ∧ Below wx.heap.size wx w' from fun wx h => Gap_no A A2 c c2 p r k r2 k2 wx (HPB.out wx h) hno)
  have HS1 := Lib.hid (show ∀ wx, Below W1.heap.size W1 wx → Calls Tryz.prog 25 #[.agg #[.slice A p.nodes.length c, .slice A2 p.rails.length c2], .agg #[.int .i64 r, .int .i64 k]] wx fun e w' => e = .returned (.bool true) ∧ Below wx.heap.size wx w' from fun wx h => by have := rStrip_any A A2 c c2 p r k wx (HPB.out wx h) hv; rwa [hs1] at this)
  have HS2 := Lib.hid (show ∀ wx, Below W1.heap.size W1 wx → Calls Tryz.prog 25 #[.agg #[.slice A p.nodes.length c, .slice A2 p.rails.length c2], .agg #[.int .i64 r2, .int .i64 k2]] wx fun e w' => e = .returned (.bool false) ∧ Below wx.heap.size wx w' from fun wx h => by have := rStrip_any A A2 c c2 p r2 k2 wx (HPB.out wx h) hv; rwa [hs2] at this)
  clear hb1 q1 q2 q3 hz1 hP
  go_enter Tryz.func4, Tryz.ntmps4
  go_wp2_with fail
  refine (HFW.out _ HB0.out).mono ?_
  rintro e w24 ⟨rfl, hb24⟩
  have HB24 := Lib.hid (HB0.out.trans (hb24.mono HB0.out.size))
  obtain ⟨r24a, r24b, r24c⟩ := HR.out _ HB24.out
  have e0 := r24a.cell 0; have e1 := r24a.cell 1; have e2 := r24b.cell 0; have e3 := r24b.cell 1; have e4 := r24c.cell 0; have e5 := r24c.cell 1
  clear hb24 r24a r24b r24c
  clear hW1
  go_wp2_with fail
  refine (HWI.out _ HB24.out).mono ?_
  rintro e w25 ⟨rfl, hb25⟩
  have HB25 := Lib.hid (HB24.out.trans (hb25.mono HB24.out.size))
  obtain ⟨r25a, r25b, r25c⟩ := HR.out _ HB25.out
  have e0 := r25a.cell 0; have e1 := r25a.cell 1; have e2 := r25b.cell 0; have e3 := r25b.cell 1; have e4 := r25c.cell 0; have e5 := r25c.cell 1
  clear hb25 r25a r25b r25c
  go_wp2_with fail
  refine (HGP.out _ HB25.out).mono ?_
  rintro e w26 ⟨rfl, hb26⟩
  have HB26 := Lib.hid (HB25.out.trans (hb26.mono HB25.out.size))
  obtain ⟨r26a, r26b, r26c⟩ := HR.out _ HB26.out
  have e0 := r26a.cell 0; have e1 := r26a.cell 1; have e2 := r26b.cell 0; have e3 := r26b.cell 1; have e4 := r26c.cell 0; have e5 := r26c.cell 1
  clear hb26 r26a r26b r26c
  go_wp2_with fail
  refine (HVL.out _ HB26.out).mono ?_
  rintro e w27 ⟨rfl, hb27⟩
  have HB27 := Lib.hid (HB26.out.trans (hb27.mono HB26.out.size))
  obtain ⟨r27a, r27b, r27c⟩ := HR.out _ HB27.out
  have e0 := r27a.cell 0; have e1 := r27a.cell 1; have e2 := r27b.cell 0; have e3 := r27b.cell 1; have e4 := r27c.cell 0; have e5 := r27c.cell 1
  clear hb27 r27a r27b r27c
  go_wp2_with fail
  refine (HS1.out _ HB27.out).mono ?_
  rintro e w28 ⟨rfl, hb28⟩
  have HB28 := Lib.hid (HB27.out.trans (hb28.mono HB27.out.size))
  obtain ⟨r28a, r28b, r28c⟩ := HR.out _ HB28.out
  have e0 := r28a.cell 0; have e1 := r28a.cell 1; have e2 := r28b.cell 0; have e3 := r28b.cell 1; have e4 := r28c.cell 0; have e5 := r28c.cell 1
  clear hb28 r28a r28b r28c
  go_wp2_with fail
  refine (HS2.out _ HB28.out).mono ?_
  rintro e w29 ⟨rfl, hb29⟩
  have HB29 := Lib.hid (HB28.out.trans (hb29.mono HB28.out.size))
  obtain ⟨r29a, r29b, r29c⟩ := HR.out _ HB29.out
  have e0 := r29a.cell 0; have e1 := r29a.cell 1; have e2 := r29b.cell 0; have e3 := r29b.cell 1; have e4 := r29c.cell 0; have e5 := r29c.cell 1
  clear hb29 r29a r29b r29c
  go_wp2_with fail
  refine (HKN.out _ HB29.out).mono ?_
  rintro e w30 ⟨rfl, hb30⟩
  have HB30 := Lib.hid (HB29.out.trans (hb30.mono HB29.out.size))
  obtain ⟨r30a, r30b, r30c⟩ := HR.out _ HB30.out
  have e0 := r30a.cell 0; have e1 := r30a.cell 1; have e2 := r30b.cell 0; have e3 := r30b.cell 1; have e4 := r30c.cell 0; have e5 := r30c.cell 1
  clear hb30 r30a r30b r30c
  go_wp2
  go_ret
  exact ⟨rfl, HB1.out.trans (HB30.out.mono HB1.out.size)⟩

set_option maxRecDepth 100000 in
set_option maxHeartbeats 4000000 in
theorem near_f1 (A A2 : Option Addr) (c c2 : Nat) (p : Pl) (r k r2 k2 d : Int) (w : World) (hP : PlAt w w.heap.size A c A2 c2 p) (hfew : fewB p = true) (hv : Vld p) (hs1 : stripB p r k = true) (hs2 : stripB p r2 k2 = true) (hd : d < 0) :
    Calls Tryz.prog 4 #[.agg #[.slice A p.nodes.length c, .slice A2 p.rails.length c2], .agg #[.int .i64 r, .int .i64 k], .agg #[.int .i64 r2, .int .i64 k2], .int .i64 d] w fun e w' => e = .returned (.bool true) ∧ Below w.heap.size w w' := by
  have hrm := hP.rm; have hrc := hP.rc
  have hb1 := (((Below.refl _ w).alloc (Nat.le_refl _) (.cells #[.slice A p.nodes.length c, .slice A2 p.rails.length c2] 25)).alloc (by simp) (.cells #[.int .i64 r, .int .i64 k] 34)).alloc (by simp; omega) (.cells #[.int .i64 r2, .int .i64 k2] 34)
  obtain ⟨q1, q2, q3⟩ := rows3 w #[.slice A p.nodes.length c, .slice A2 p.rails.length c2] #[.int .i64 r, .int .i64 k] #[.int .i64 r2, .int .i64 k2] 25 34 34
  have hz1 : (((w.alloc (.cells #[.slice A p.nodes.length c, .slice A2 p.rails.length c2] 25)).alloc (.cells #[.int .i64 r, .int .i64 k] 34)).alloc (.cells #[.int .i64 r2, .int .i64 k2] 34)).heap.size = w.heap.size + 3 := by simp
  obtain ⟨W1, hW1⟩ : ∃ z, ((w.alloc (.cells #[.slice A p.nodes.length c, .slice A2 p.rails.length c2] 25)).alloc (.cells #[.int .i64 r, .int .i64 k] 34)).alloc (.cells #[.int .i64 r2, .int .i64 k2] 34) = z := ⟨_, rfl⟩
  rw [hW1] at hb1 q1 q2 q3 hz1
  have HB1 := Lib.hid hb1
  have HB0 := Lib.hid (Below.refl W1.heap.size W1)
  have HR := Lib.hid (show ∀ wx, Below W1.heap.size W1 wx → Rw wx w.heap.size 25 #[.slice A p.nodes.length c, .slice A2 p.rails.length c2] ∧ Rw wx (w.heap.size + 1) 34 #[.int .i64 r, .int .i64 k] ∧ Rw wx (w.heap.size + 1 + 1) 34 #[.int .i64 r2, .int .i64 k2] from fun wx h => ⟨q1.below h (by omega), q2.below h (by omega), q3.below h (by omega)⟩)
  have HPB := Lib.hid (show ∀ wx, Below W1.heap.size W1 wx → PlAt wx wx.heap.size A c A2 c2 p from fun wx h => ((hP.below hb1).below (h.mono hb1.size)).more (Nat.le_trans hb1.size h.size))
  have HKN := Lib.hid (show ∀ wx, Below W1.heap.size W1 wx → Calls Tryz.prog 16 #[] wx fun e w' => e = .returned (.bool true) ∧ Below wx.heap.size wx w' from fun wx _ => known_any wx)
  have e0 := q1.cell 0; have e1 := q1.cell 1; have e2 := q2.cell 0; have e3 := q2.cell 1; have e4 := q3.cell 0; have e5 := q3.cell 1
  have HFW := Lib.hid (show ∀ wx, Below W1.heap.size W1 wx → Calls Tryz.prog 15 #[.agg #[.slice A p.nodes.length c, .slice A2 p.rails.length c2]] wx fun e w' => e = .returned (.bool true) ∧ Below wx.heap.size wx w' from fun wx h => by have := few_any A A2 c c2 p wx (HPB.out wx h); rwa [hfew] at this)
  have HVL := Lib.hid (show ∀ wx, Below W1.heap.size W1 wx → Calls Tryz.prog 19 #[.agg #[.slice A p.nodes.length c, .slice A2 p.rails.length c2]] wx fun e w' => e = .returned (.bool true) ∧ Below wx.heap.size wx w' from fun wx h => (Valid_any A A2 c c2 p wx (HPB.out wx h)).mono (by rintro e w' ⟨⟨b, rfl, hb⟩, h2⟩; rw [hb.2 hv]; exact ⟨rfl, h2⟩))
  have HS1 := Lib.hid (show ∀ wx, Below W1.heap.size W1 wx → Calls Tryz.prog 25 #[.agg #[.slice A p.nodes.length c, .slice A2 p.rails.length c2], .agg #[.int .i64 r, .int .i64 k]] wx fun e w' => e = .returned (.bool true) ∧ Below wx.heap.size wx w' from fun wx h => by have := rStrip_any A A2 c c2 p r k wx (HPB.out wx h) hv; rwa [hs1] at this)
  have HS2 := Lib.hid (show ∀ wx, Below W1.heap.size W1 wx → Calls Tryz.prog 25 #[.agg #[.slice A p.nodes.length c, .slice A2 p.rails.length c2], .agg #[.int .i64 r2, .int .i64 k2]] wx fun e w' => e = .returned (.bool true) ∧ Below wx.heap.size wx w' from fun wx h => by have := rStrip_any A A2 c c2 p r2 k2 wx (HPB.out wx h) hv; rwa [hs2] at this)
  obtain ⟨rn, kn, L, er, ek, hL, hkn⟩ := strip_nat hv hs1
  obtain ⟨rn2, kn2, L2, er2, ek2, hL2, hkn2⟩ := strip_nat hv hs2
  have o1 := stripAt_ok (r := rn) hL.hR hL.hok hkn
  have o2 := stripAt_ok (r := rn2) hL2.hR hL2.hok hkn2
  obtain ⟨g, hg⟩ : ∃ z, gapW (stripAt rn L kn) (stripAt rn2 L2 kn2) = z := ⟨_, rfl⟩
  have HGP := Lib.hid (show ∀ wx, Below W1.heap.size W1 wx → Calls Tryz.prog 24 #[.agg #[.slice A p.nodes.length c, .slice A2 p.rails.length c2], .agg #[.int .i64 r, .int .i64 k], .agg #[.int .i64 r2, .int .i64 k2]] wx fun e w' => e = .returned (.tuple #[.int .i64 (g : Int), .int .i64 0]) ∧ Below wx.heap.size wx w' from fun wx h => by have := Gap_yes A A2 c c2 p rn kn rn2 kn2 L L2 wx (HPB.out wx h) hv hL hkn hL2 hkn2; rw [hg] at this; rw [er, ek, er2, ek2]; exact this)
  have HRG := Lib.hid (show ∀ wx, Below W1.heap.size W1 wx → Calls Tryz.prog 26 #[.agg #[.slice A p.nodes.length c, .slice A2 p.rails.length c2], .agg #[.int .i64 r, .int .i64 k], .agg #[.int .i64 r2, .int .i64 k2]] wx fun e w' => e = .returned (.int .i64 (g : Int)) ∧ Below wx.heap.size wx w' from fun wx h => by rw [er, ek, er2, ek2]; exact (rGap_any A A2 c c2 p rn kn rn2 kn2 L L2 wx (HPB.out wx h) hL hkn hL2 hkn2).mono (by rintro e w' ⟨⟨n, rfl, hi⟩, h2⟩; rw [← hg, ← near_gap o1 o2 hi]; exact ⟨rfl, h2⟩))
  have HWI := Lib.hid (show ∀ wx, Below W1.heap.size W1 wx → Calls Tryz.prog 23 #[.agg #[.slice A p.nodes.length c, .slice A2 p.rails.length c2], .agg #[.int .i64 r, .int .i64 k], .agg #[.int .i64 r2, .int .i64 k2], .int .i64 d] wx fun e w' => e = .returned (.tuple #[.bool false, .int .i64 2]) ∧ Below wx.heap.size wx w' from fun wx h => by rw [er, ek, er2, ek2]; exact Within_far A A2 c c2 p rn kn rn2 kn2 L L2 d wx (HPB.out wx h) hv hL hkn hL2 hkn2 (.inl hd))
  clear er ek er2 ek2 hL hL2 hkn hkn2 o1 o2 hg
  clear hb1 q1 q2 q3 hz1 hP
  go_enter Tryz.func4, Tryz.ntmps4
  go_wp2_with fail
  refine (HFW.out _ HB0.out).mono ?_
  rintro e w31 ⟨rfl, hb31⟩
  have HB31 := Lib.hid (HB0.out.trans (hb31.mono HB0.out.size))
  obtain ⟨r31a, r31b, r31c⟩ := HR.out _ HB31.out
  have e0 := r31a.cell 0; have e1 := r31a.cell 1; have e2 := r31b.cell 0; have e3 := r31b.cell 1; have e4 := r31c.cell 0; have e5 := r31c.cell 1
  clear hb31 r31a r31b r31c
  clear hW1
  go_wp2_with fail
  refine (HWI.out _ HB31.out).mono ?_
  rintro e w32 ⟨rfl, hb32⟩
  have HB32 := Lib.hid (HB31.out.trans (hb32.mono HB31.out.size))
  obtain ⟨r32a, r32b, r32c⟩ := HR.out _ HB32.out
  have e0 := r32a.cell 0; have e1 := r32a.cell 1; have e2 := r32b.cell 0; have e3 := r32b.cell 1; have e4 := r32c.cell 0; have e5 := r32c.cell 1
  clear hb32 r32a r32b r32c
  go_wp2_with fail
  refine (HGP.out _ HB32.out).mono ?_
  rintro e w33 ⟨rfl, hb33⟩
  have HB33 := Lib.hid (HB32.out.trans (hb33.mono HB32.out.size))
  obtain ⟨r33a, r33b, r33c⟩ := HR.out _ HB33.out
  have e0 := r33a.cell 0; have e1 := r33a.cell 1; have e2 := r33b.cell 0; have e3 := r33b.cell 1; have e4 := r33c.cell 0; have e5 := r33c.cell 1
  clear hb33 r33a r33b r33c
  go_wp2_with fail
  refine (HVL.out _ HB33.out).mono ?_
  rintro e w34 ⟨rfl, hb34⟩
  have HB34 := Lib.hid (HB33.out.trans (hb34.mono HB33.out.size))
  obtain ⟨r34a, r34b, r34c⟩ := HR.out _ HB34.out
  have e0 := r34a.cell 0; have e1 := r34a.cell 1; have e2 := r34b.cell 0; have e3 := r34b.cell 1; have e4 := r34c.cell 0; have e5 := r34c.cell 1
  clear hb34 r34a r34b r34c
  go_wp2_with fail
  refine (HS1.out _ HB34.out).mono ?_
  rintro e w35 ⟨rfl, hb35⟩
  have HB35 := Lib.hid (HB34.out.trans (hb35.mono HB34.out.size))
  obtain ⟨r35a, r35b, r35c⟩ := HR.out _ HB35.out
  have e0 := r35a.cell 0; have e1 := r35a.cell 1; have e2 := r35b.cell 0; have e3 := r35b.cell 1; have e4 := r35c.cell 0; have e5 := r35c.cell 1
  clear hb35 r35a r35b r35c
  go_wp2_with fail
  refine (HS2.out _ HB35.out).mono ?_
  rintro e w36 ⟨rfl, hb36⟩
  have HB36 := Lib.hid (HB35.out.trans (hb36.mono HB35.out.size))
  obtain ⟨r36a, r36b, r36c⟩ := HR.out _ HB36.out
  have e0 := r36a.cell 0; have e1 := r36a.cell 1; have e2 := r36b.cell 0; have e3 := r36b.cell 1; have e4 := r36c.cell 0; have e5 := r36c.cell 1
  clear hb36 r36a r36b r36c
  go_wp2_with fail
  refine (HRG.out _ HB36.out).mono ?_
  rintro e w37 ⟨rfl, hb37⟩
  have HB37 := Lib.hid (HB36.out.trans (hb37.mono HB36.out.size))
  obtain ⟨r37a, r37b, r37c⟩ := HR.out _ HB37.out
  have e0 := r37a.cell 0; have e1 := r37a.cell 1; have e2 := r37b.cell 0; have e3 := r37b.cell 1; have e4 := r37c.cell 0; have e5 := r37c.cell 1
  clear hb37 r37a r37b r37c
  go_wp2_with fail
  refine (HKN.out _ HB37.out).mono ?_
  rintro e w38 ⟨rfl, hb38⟩
  have HB38 := Lib.hid (HB37.out.trans (hb38.mono HB37.out.size))
  obtain ⟨r38a, r38b, r38c⟩ := HR.out _ HB38.out
  have e0 := r38a.cell 0; have e1 := r38a.cell 1; have e2 := r38b.cell 0; have e3 := r38b.cell 1; have e4 := r38c.cell 0; have e5 := r38c.cell 1
  clear hb38 r38a r38b r38c
  go_wp2
  go_ret
  exact ⟨rfl, HB1.out.trans (HB38.out.mono HB1.out.size)⟩

set_option maxRecDepth 100000 in
set_option maxHeartbeats 4000000 in
theorem near_f2 (A A2 : Option Addr) (c c2 : Nat) (p : Pl) (r k r2 k2 d : Int) (w : World) (hP : PlAt w w.heap.size A c A2 c2 p) (hfew : fewB p = true) (hv : Vld p) (hs1 : stripB p r k = true) (hs2 : stripB p r2 k2 = true) (hd : 10000 < d) :
    Calls Tryz.prog 4 #[.agg #[.slice A p.nodes.length c, .slice A2 p.rails.length c2], .agg #[.int .i64 r, .int .i64 k], .agg #[.int .i64 r2, .int .i64 k2], .int .i64 d] w fun e w' => e = .returned (.bool true) ∧ Below w.heap.size w w' := by
  have hrm := hP.rm; have hrc := hP.rc
  have hb1 := (((Below.refl _ w).alloc (Nat.le_refl _) (.cells #[.slice A p.nodes.length c, .slice A2 p.rails.length c2] 25)).alloc (by simp) (.cells #[.int .i64 r, .int .i64 k] 34)).alloc (by simp; omega) (.cells #[.int .i64 r2, .int .i64 k2] 34)
  obtain ⟨q1, q2, q3⟩ := rows3 w #[.slice A p.nodes.length c, .slice A2 p.rails.length c2] #[.int .i64 r, .int .i64 k] #[.int .i64 r2, .int .i64 k2] 25 34 34
  have hz1 : (((w.alloc (.cells #[.slice A p.nodes.length c, .slice A2 p.rails.length c2] 25)).alloc (.cells #[.int .i64 r, .int .i64 k] 34)).alloc (.cells #[.int .i64 r2, .int .i64 k2] 34)).heap.size = w.heap.size + 3 := by simp
  obtain ⟨W1, hW1⟩ : ∃ z, ((w.alloc (.cells #[.slice A p.nodes.length c, .slice A2 p.rails.length c2] 25)).alloc (.cells #[.int .i64 r, .int .i64 k] 34)).alloc (.cells #[.int .i64 r2, .int .i64 k2] 34) = z := ⟨_, rfl⟩
  rw [hW1] at hb1 q1 q2 q3 hz1
  have HB1 := Lib.hid hb1
  have HB0 := Lib.hid (Below.refl W1.heap.size W1)
  have HR := Lib.hid (show ∀ wx, Below W1.heap.size W1 wx → Rw wx w.heap.size 25 #[.slice A p.nodes.length c, .slice A2 p.rails.length c2] ∧ Rw wx (w.heap.size + 1) 34 #[.int .i64 r, .int .i64 k] ∧ Rw wx (w.heap.size + 1 + 1) 34 #[.int .i64 r2, .int .i64 k2] from fun wx h => ⟨q1.below h (by omega), q2.below h (by omega), q3.below h (by omega)⟩)
  have HPB := Lib.hid (show ∀ wx, Below W1.heap.size W1 wx → PlAt wx wx.heap.size A c A2 c2 p from fun wx h => ((hP.below hb1).below (h.mono hb1.size)).more (Nat.le_trans hb1.size h.size))
  have HKN := Lib.hid (show ∀ wx, Below W1.heap.size W1 wx → Calls Tryz.prog 16 #[] wx fun e w' => e = .returned (.bool true) ∧ Below wx.heap.size wx w' from fun wx _ => known_any wx)
  have e0 := q1.cell 0; have e1 := q1.cell 1; have e2 := q2.cell 0; have e3 := q2.cell 1; have e4 := q3.cell 0; have e5 := q3.cell 1
  have HFW := Lib.hid (show ∀ wx, Below W1.heap.size W1 wx → Calls Tryz.prog 15 #[.agg #[.slice A p.nodes.length c, .slice A2 p.rails.length c2]] wx fun e w' => e = .returned (.bool true) ∧ Below wx.heap.size wx w' from fun wx h => by have := few_any A A2 c c2 p wx (HPB.out wx h); rwa [hfew] at this)
  have HVL := Lib.hid (show ∀ wx, Below W1.heap.size W1 wx → Calls Tryz.prog 19 #[.agg #[.slice A p.nodes.length c, .slice A2 p.rails.length c2]] wx fun e w' => e = .returned (.bool true) ∧ Below wx.heap.size wx w' from fun wx h => (Valid_any A A2 c c2 p wx (HPB.out wx h)).mono (by rintro e w' ⟨⟨b, rfl, hb⟩, h2⟩; rw [hb.2 hv]; exact ⟨rfl, h2⟩))
  have HS1 := Lib.hid (show ∀ wx, Below W1.heap.size W1 wx → Calls Tryz.prog 25 #[.agg #[.slice A p.nodes.length c, .slice A2 p.rails.length c2], .agg #[.int .i64 r, .int .i64 k]] wx fun e w' => e = .returned (.bool true) ∧ Below wx.heap.size wx w' from fun wx h => by have := rStrip_any A A2 c c2 p r k wx (HPB.out wx h) hv; rwa [hs1] at this)
  have HS2 := Lib.hid (show ∀ wx, Below W1.heap.size W1 wx → Calls Tryz.prog 25 #[.agg #[.slice A p.nodes.length c, .slice A2 p.rails.length c2], .agg #[.int .i64 r2, .int .i64 k2]] wx fun e w' => e = .returned (.bool true) ∧ Below wx.heap.size wx w' from fun wx h => by have := rStrip_any A A2 c c2 p r2 k2 wx (HPB.out wx h) hv; rwa [hs2] at this)
  obtain ⟨rn, kn, L, er, ek, hL, hkn⟩ := strip_nat hv hs1
  obtain ⟨rn2, kn2, L2, er2, ek2, hL2, hkn2⟩ := strip_nat hv hs2
  have o1 := stripAt_ok (r := rn) hL.hR hL.hok hkn
  have o2 := stripAt_ok (r := rn2) hL2.hR hL2.hok hkn2
  obtain ⟨g, hg⟩ : ∃ z, gapW (stripAt rn L kn) (stripAt rn2 L2 kn2) = z := ⟨_, rfl⟩
  have HGP := Lib.hid (show ∀ wx, Below W1.heap.size W1 wx → Calls Tryz.prog 24 #[.agg #[.slice A p.nodes.length c, .slice A2 p.rails.length c2], .agg #[.int .i64 r, .int .i64 k], .agg #[.int .i64 r2, .int .i64 k2]] wx fun e w' => e = .returned (.tuple #[.int .i64 (g : Int), .int .i64 0]) ∧ Below wx.heap.size wx w' from fun wx h => by have := Gap_yes A A2 c c2 p rn kn rn2 kn2 L L2 wx (HPB.out wx h) hv hL hkn hL2 hkn2; rw [hg] at this; rw [er, ek, er2, ek2]; exact this)
  have HRG := Lib.hid (show ∀ wx, Below W1.heap.size W1 wx → Calls Tryz.prog 26 #[.agg #[.slice A p.nodes.length c, .slice A2 p.rails.length c2], .agg #[.int .i64 r, .int .i64 k], .agg #[.int .i64 r2, .int .i64 k2]] wx fun e w' => e = .returned (.int .i64 (g : Int)) ∧ Below wx.heap.size wx w' from fun wx h => by rw [er, ek, er2, ek2]; exact (rGap_any A A2 c c2 p rn kn rn2 kn2 L L2 wx (HPB.out wx h) hL hkn hL2 hkn2).mono (by rintro e w' ⟨⟨n, rfl, hi⟩, h2⟩; rw [← hg, ← near_gap o1 o2 hi]; exact ⟨rfl, h2⟩))
  have HWI := Lib.hid (show ∀ wx, Below W1.heap.size W1 wx → Calls Tryz.prog 23 #[.agg #[.slice A p.nodes.length c, .slice A2 p.rails.length c2], .agg #[.int .i64 r, .int .i64 k], .agg #[.int .i64 r2, .int .i64 k2], .int .i64 d] wx fun e w' => e = .returned (.tuple #[.bool false, .int .i64 2]) ∧ Below wx.heap.size wx w' from fun wx h => by rw [er, ek, er2, ek2]; exact Within_far A A2 c c2 p rn kn rn2 kn2 L L2 d wx (HPB.out wx h) hv hL hkn hL2 hkn2 (.inr hd))
  clear er ek er2 ek2 hL hL2 hkn hkn2 o1 o2 hg
  have hd2 : ¬ d < 0 := by omega
  clear hb1 q1 q2 q3 hz1 hP
  go_enter Tryz.func4, Tryz.ntmps4
  go_wp2_with fail
  refine (HFW.out _ HB0.out).mono ?_
  rintro e w39 ⟨rfl, hb39⟩
  have HB39 := Lib.hid (HB0.out.trans (hb39.mono HB0.out.size))
  obtain ⟨r39a, r39b, r39c⟩ := HR.out _ HB39.out
  have e0 := r39a.cell 0; have e1 := r39a.cell 1; have e2 := r39b.cell 0; have e3 := r39b.cell 1; have e4 := r39c.cell 0; have e5 := r39c.cell 1
  clear hb39 r39a r39b r39c
  clear hW1
  go_wp2_with fail
  refine (HWI.out _ HB39.out).mono ?_
  rintro e w40 ⟨rfl, hb40⟩
  have HB40 := Lib.hid (HB39.out.trans (hb40.mono HB39.out.size))
  obtain ⟨r40a, r40b, r40c⟩ := HR.out _ HB40.out
  have e0 := r40a.cell 0; have e1 := r40a.cell 1; have e2 := r40b.cell 0; have e3 := r40b.cell 1; have e4 := r40c.cell 0; have e5 := r40c.cell 1
  clear hb40 r40a r40b r40c
  go_wp2_with fail
  refine (HGP.out _ HB40.out).mono ?_
  rintro e w41 ⟨rfl, hb41⟩
  have HB41 := Lib.hid (HB40.out.trans (hb41.mono HB40.out.size))
  obtain ⟨r41a, r41b, r41c⟩ := HR.out _ HB41.out
  have e0 := r41a.cell 0; have e1 := r41a.cell 1; have e2 := r41b.cell 0; have e3 := r41b.cell 1; have e4 := r41c.cell 0; have e5 := r41c.cell 1
  clear hb41 r41a r41b r41c
  go_wp2_with fail
  refine (HVL.out _ HB41.out).mono ?_
  rintro e w42 ⟨rfl, hb42⟩
  have HB42 := Lib.hid (HB41.out.trans (hb42.mono HB41.out.size))
  obtain ⟨r42a, r42b, r42c⟩ := HR.out _ HB42.out
  have e0 := r42a.cell 0; have e1 := r42a.cell 1; have e2 := r42b.cell 0; have e3 := r42b.cell 1; have e4 := r42c.cell 0; have e5 := r42c.cell 1
  clear hb42 r42a r42b r42c
  go_wp2_with fail
  refine (HS1.out _ HB42.out).mono ?_
  rintro e w43 ⟨rfl, hb43⟩
  have HB43 := Lib.hid (HB42.out.trans (hb43.mono HB42.out.size))
  obtain ⟨r43a, r43b, r43c⟩ := HR.out _ HB43.out
  have e0 := r43a.cell 0; have e1 := r43a.cell 1; have e2 := r43b.cell 0; have e3 := r43b.cell 1; have e4 := r43c.cell 0; have e5 := r43c.cell 1
  clear hb43 r43a r43b r43c
  go_wp2_with fail
  refine (HS2.out _ HB43.out).mono ?_
  rintro e w44 ⟨rfl, hb44⟩
  have HB44 := Lib.hid (HB43.out.trans (hb44.mono HB43.out.size))
  obtain ⟨r44a, r44b, r44c⟩ := HR.out _ HB44.out
  have e0 := r44a.cell 0; have e1 := r44a.cell 1; have e2 := r44b.cell 0; have e3 := r44b.cell 1; have e4 := r44c.cell 0; have e5 := r44c.cell 1
  clear hb44 r44a r44b r44c
  go_wp2_with fail
  refine (HRG.out _ HB44.out).mono ?_
  rintro e w45 ⟨rfl, hb45⟩
  have HB45 := Lib.hid (HB44.out.trans (hb45.mono HB44.out.size))
  obtain ⟨r45a, r45b, r45c⟩ := HR.out _ HB45.out
  have e0 := r45a.cell 0; have e1 := r45a.cell 1; have e2 := r45b.cell 0; have e3 := r45b.cell 1; have e4 := r45c.cell 0; have e5 := r45c.cell 1
  clear hb45 r45a r45b r45c
  go_wp2_with fail
  refine (HKN.out _ HB45.out).mono ?_
  rintro e w46 ⟨rfl, hb46⟩
  have HB46 := Lib.hid (HB45.out.trans (hb46.mono HB45.out.size))
  obtain ⟨r46a, r46b, r46c⟩ := HR.out _ HB46.out
  have e0 := r46a.cell 0; have e1 := r46a.cell 1; have e2 := r46b.cell 0; have e3 := r46b.cell 1; have e4 := r46c.cell 0; have e5 := r46c.cell 1
  clear hb46 r46a r46b r46c
  go_wp2
  go_ret
  exact ⟨rfl, HB1.out.trans (HB46.out.mono HB1.out.size)⟩

set_option maxRecDepth 100000 in
set_option maxHeartbeats 4000000 in
theorem near_yes (A A2 : Option Addr) (c c2 : Nat) (p : Pl) (r k r2 k2 d : Int) (w : World) (hP : PlAt w w.heap.size A c A2 c2 p) (hfew : fewB p = true) (hv : Vld p) (hs1 : stripB p r k = true) (hs2 : stripB p r2 k2 = true) (hd0 : 0 ≤ d) (hd1 : d ≤ 10000) :
    Calls Tryz.prog 4 #[.agg #[.slice A p.nodes.length c, .slice A2 p.rails.length c2], .agg #[.int .i64 r, .int .i64 k], .agg #[.int .i64 r2, .int .i64 k2], .int .i64 d] w fun e w' => e = .returned (.bool true) ∧ Below w.heap.size w w' := by
  have hrm := hP.rm; have hrc := hP.rc
  have hb1 := (((Below.refl _ w).alloc (Nat.le_refl _) (.cells #[.slice A p.nodes.length c, .slice A2 p.rails.length c2] 25)).alloc (by simp) (.cells #[.int .i64 r, .int .i64 k] 34)).alloc (by simp; omega) (.cells #[.int .i64 r2, .int .i64 k2] 34)
  obtain ⟨q1, q2, q3⟩ := rows3 w #[.slice A p.nodes.length c, .slice A2 p.rails.length c2] #[.int .i64 r, .int .i64 k] #[.int .i64 r2, .int .i64 k2] 25 34 34
  have hz1 : (((w.alloc (.cells #[.slice A p.nodes.length c, .slice A2 p.rails.length c2] 25)).alloc (.cells #[.int .i64 r, .int .i64 k] 34)).alloc (.cells #[.int .i64 r2, .int .i64 k2] 34)).heap.size = w.heap.size + 3 := by simp
  obtain ⟨W1, hW1⟩ : ∃ z, ((w.alloc (.cells #[.slice A p.nodes.length c, .slice A2 p.rails.length c2] 25)).alloc (.cells #[.int .i64 r, .int .i64 k] 34)).alloc (.cells #[.int .i64 r2, .int .i64 k2] 34) = z := ⟨_, rfl⟩
  rw [hW1] at hb1 q1 q2 q3 hz1
  have HB1 := Lib.hid hb1
  have HB0 := Lib.hid (Below.refl W1.heap.size W1)
  have HR := Lib.hid (show ∀ wx, Below W1.heap.size W1 wx → Rw wx w.heap.size 25 #[.slice A p.nodes.length c, .slice A2 p.rails.length c2] ∧ Rw wx (w.heap.size + 1) 34 #[.int .i64 r, .int .i64 k] ∧ Rw wx (w.heap.size + 1 + 1) 34 #[.int .i64 r2, .int .i64 k2] from fun wx h => ⟨q1.below h (by omega), q2.below h (by omega), q3.below h (by omega)⟩)
  have HPB := Lib.hid (show ∀ wx, Below W1.heap.size W1 wx → PlAt wx wx.heap.size A c A2 c2 p from fun wx h => ((hP.below hb1).below (h.mono hb1.size)).more (Nat.le_trans hb1.size h.size))
  have HKN := Lib.hid (show ∀ wx, Below W1.heap.size W1 wx → Calls Tryz.prog 16 #[] wx fun e w' => e = .returned (.bool true) ∧ Below wx.heap.size wx w' from fun wx _ => known_any wx)
  have e0 := q1.cell 0; have e1 := q1.cell 1; have e2 := q2.cell 0; have e3 := q2.cell 1; have e4 := q3.cell 0; have e5 := q3.cell 1
  have HFW := Lib.hid (show ∀ wx, Below W1.heap.size W1 wx → Calls Tryz.prog 15 #[.agg #[.slice A p.nodes.length c, .slice A2 p.rails.length c2]] wx fun e w' => e = .returned (.bool true) ∧ Below wx.heap.size wx w' from fun wx h => by have := few_any A A2 c c2 p wx (HPB.out wx h); rwa [hfew] at this)
  have HVL := Lib.hid (show ∀ wx, Below W1.heap.size W1 wx → Calls Tryz.prog 19 #[.agg #[.slice A p.nodes.length c, .slice A2 p.rails.length c2]] wx fun e w' => e = .returned (.bool true) ∧ Below wx.heap.size wx w' from fun wx h => (Valid_any A A2 c c2 p wx (HPB.out wx h)).mono (by rintro e w' ⟨⟨b, rfl, hb⟩, h2⟩; rw [hb.2 hv]; exact ⟨rfl, h2⟩))
  have HS1 := Lib.hid (show ∀ wx, Below W1.heap.size W1 wx → Calls Tryz.prog 25 #[.agg #[.slice A p.nodes.length c, .slice A2 p.rails.length c2], .agg #[.int .i64 r, .int .i64 k]] wx fun e w' => e = .returned (.bool true) ∧ Below wx.heap.size wx w' from fun wx h => by have := rStrip_any A A2 c c2 p r k wx (HPB.out wx h) hv; rwa [hs1] at this)
  have HS2 := Lib.hid (show ∀ wx, Below W1.heap.size W1 wx → Calls Tryz.prog 25 #[.agg #[.slice A p.nodes.length c, .slice A2 p.rails.length c2], .agg #[.int .i64 r2, .int .i64 k2]] wx fun e w' => e = .returned (.bool true) ∧ Below wx.heap.size wx w' from fun wx h => by have := rStrip_any A A2 c c2 p r2 k2 wx (HPB.out wx h) hv; rwa [hs2] at this)
  obtain ⟨rn, kn, L, er, ek, hL, hkn⟩ := strip_nat hv hs1
  obtain ⟨rn2, kn2, L2, er2, ek2, hL2, hkn2⟩ := strip_nat hv hs2
  have o1 := stripAt_ok (r := rn) hL.hR hL.hok hkn
  have o2 := stripAt_ok (r := rn2) hL2.hR hL2.hok hkn2
  obtain ⟨g, hg⟩ : ∃ z, gapW (stripAt rn L kn) (stripAt rn2 L2 kn2) = z := ⟨_, rfl⟩
  obtain ⟨b, hbb⟩ : ∃ z, sidesB (stripAt rn L kn) (stripAt rn2 L2 kn2) d = z := ⟨_, rfl⟩
  have HGP := Lib.hid (show ∀ wx, Below W1.heap.size W1 wx → Calls Tryz.prog 24 #[.agg #[.slice A p.nodes.length c, .slice A2 p.rails.length c2], .agg #[.int .i64 r, .int .i64 k], .agg #[.int .i64 r2, .int .i64 k2]] wx fun e w' => e = .returned (.tuple #[.int .i64 (g : Int), .int .i64 0]) ∧ Below wx.heap.size wx w' from fun wx h => by have := Gap_yes A A2 c c2 p rn kn rn2 kn2 L L2 wx (HPB.out wx h) hv hL hkn hL2 hkn2; rw [hg] at this; rw [er, ek, er2, ek2]; exact this)
  have HRG := Lib.hid (show ∀ wx, Below W1.heap.size W1 wx → Calls Tryz.prog 26 #[.agg #[.slice A p.nodes.length c, .slice A2 p.rails.length c2], .agg #[.int .i64 r, .int .i64 k], .agg #[.int .i64 r2, .int .i64 k2]] wx fun e w' => e = .returned (.int .i64 (g : Int)) ∧ Below wx.heap.size wx w' from fun wx h => by rw [er, ek, er2, ek2]; exact (rGap_any A A2 c c2 p rn kn rn2 kn2 L L2 wx (HPB.out wx h) hL hkn hL2 hkn2).mono (by rintro e w' ⟨⟨n, rfl, hi⟩, h2⟩; rw [← hg, ← near_gap o1 o2 hi]; exact ⟨rfl, h2⟩))
  have HWI := Lib.hid (show ∀ wx, Below W1.heap.size W1 wx → Calls Tryz.prog 23 #[.agg #[.slice A p.nodes.length c, .slice A2 p.rails.length c2], .agg #[.int .i64 r, .int .i64 k], .agg #[.int .i64 r2, .int .i64 k2], .int .i64 d] wx fun e w' => e = .returned (.tuple #[.bool b, .int .i64 0]) ∧ Below wx.heap.size wx w' from fun wx h => by have := Within_yes A A2 c c2 p rn kn rn2 kn2 L L2 d wx (HPB.out wx h) hv hL hkn hL2 hkn2 hd0 hd1; rw [hbb] at this; rw [er, ek, er2, ek2]; exact this)
  have HRW := Lib.hid (show ∀ wx, Below W1.heap.size W1 wx → Calls Tryz.prog 27 #[.agg #[.slice A p.nodes.length c, .slice A2 p.rails.length c2], .agg #[.int .i64 r, .int .i64 k], .agg #[.int .i64 r2, .int .i64 k2], .int .i64 d] wx fun e w' => e = .returned (.bool b) ∧ Below wx.heap.size wx w' from fun wx h => by rw [er, ek, er2, ek2, ← hbb, ← near_sides o1 o2]; exact rWithin_any A A2 c c2 p rn kn rn2 kn2 L L2 d wx (HPB.out wx h) hL hkn hL2 hkn2 hd0 (by omega))
  clear er ek er2 ek2 hL hL2 hkn hkn2 o1 o2 hg
  clear hbb
  have hd2 : ¬ d < 0 := by omega
  have hd3 : ¬ 10000 < d := by omega
  clear hb1 q1 q2 q3 hz1 hP
  go_enter Tryz.func4, Tryz.ntmps4
  go_wp2_with fail
  refine (HFW.out _ HB0.out).mono ?_
  rintro e w47 ⟨rfl, hb47⟩
  have HB47 := Lib.hid (HB0.out.trans (hb47.mono HB0.out.size))
  obtain ⟨r47a, r47b, r47c⟩ := HR.out _ HB47.out
  have e0 := r47a.cell 0; have e1 := r47a.cell 1; have e2 := r47b.cell 0; have e3 := r47b.cell 1; have e4 := r47c.cell 0; have e5 := r47c.cell 1
  clear hb47 r47a r47b r47c
  clear hW1
  go_wp2_with fail
  refine (HWI.out _ HB47.out).mono ?_
  rintro e w48 ⟨rfl, hb48⟩
  have HB48 := Lib.hid (HB47.out.trans (hb48.mono HB47.out.size))
  obtain ⟨r48a, r48b, r48c⟩ := HR.out _ HB48.out
  have e0 := r48a.cell 0; have e1 := r48a.cell 1; have e2 := r48b.cell 0; have e3 := r48b.cell 1; have e4 := r48c.cell 0; have e5 := r48c.cell 1
  clear hb48 r48a r48b r48c
  go_wp2_with fail
  refine (HGP.out _ HB48.out).mono ?_
  rintro e w49 ⟨rfl, hb49⟩
  have HB49 := Lib.hid (HB48.out.trans (hb49.mono HB48.out.size))
  obtain ⟨r49a, r49b, r49c⟩ := HR.out _ HB49.out
  have e0 := r49a.cell 0; have e1 := r49a.cell 1; have e2 := r49b.cell 0; have e3 := r49b.cell 1; have e4 := r49c.cell 0; have e5 := r49c.cell 1
  clear hb49 r49a r49b r49c
  go_wp2_with fail
  refine (HVL.out _ HB49.out).mono ?_
  rintro e w50 ⟨rfl, hb50⟩
  have HB50 := Lib.hid (HB49.out.trans (hb50.mono HB49.out.size))
  obtain ⟨r50a, r50b, r50c⟩ := HR.out _ HB50.out
  have e0 := r50a.cell 0; have e1 := r50a.cell 1; have e2 := r50b.cell 0; have e3 := r50b.cell 1; have e4 := r50c.cell 0; have e5 := r50c.cell 1
  clear hb50 r50a r50b r50c
  go_wp2_with fail
  refine (HS1.out _ HB50.out).mono ?_
  rintro e w51 ⟨rfl, hb51⟩
  have HB51 := Lib.hid (HB50.out.trans (hb51.mono HB50.out.size))
  obtain ⟨r51a, r51b, r51c⟩ := HR.out _ HB51.out
  have e0 := r51a.cell 0; have e1 := r51a.cell 1; have e2 := r51b.cell 0; have e3 := r51b.cell 1; have e4 := r51c.cell 0; have e5 := r51c.cell 1
  clear hb51 r51a r51b r51c
  go_wp2_with fail
  refine (HS2.out _ HB51.out).mono ?_
  rintro e w52 ⟨rfl, hb52⟩
  have HB52 := Lib.hid (HB51.out.trans (hb52.mono HB51.out.size))
  obtain ⟨r52a, r52b, r52c⟩ := HR.out _ HB52.out
  have e0 := r52a.cell 0; have e1 := r52a.cell 1; have e2 := r52b.cell 0; have e3 := r52b.cell 1; have e4 := r52c.cell 0; have e5 := r52c.cell 1
  clear hb52 r52a r52b r52c
  go_wp2_with fail
  refine (HRG.out _ HB52.out).mono ?_
  rintro e w53 ⟨rfl, hb53⟩
  have HB53 := Lib.hid (HB52.out.trans (hb53.mono HB52.out.size))
  obtain ⟨r53a, r53b, r53c⟩ := HR.out _ HB53.out
  have e0 := r53a.cell 0; have e1 := r53a.cell 1; have e2 := r53b.cell 0; have e3 := r53b.cell 1; have e4 := r53c.cell 0; have e5 := r53c.cell 1
  clear hb53 r53a r53b r53c
  go_wp2_with fail
  refine (HRW.out _ HB53.out).mono ?_
  rintro e w54 ⟨rfl, hb54⟩
  have HB54 := Lib.hid (HB53.out.trans (hb54.mono HB53.out.size))
  obtain ⟨r54a, r54b, r54c⟩ := HR.out _ HB54.out
  have e0 := r54a.cell 0; have e1 := r54a.cell 1; have e2 := r54b.cell 0; have e3 := r54b.cell 1; have e4 := r54c.cell 0; have e5 := r54c.cell 1
  clear hb54 r54a r54b r54c
  go_wp2_with fail
  refine (HKN.out _ HB54.out).mono ?_
  rintro e w55 ⟨rfl, hb55⟩
  have HB55 := Lib.hid (HB54.out.trans (hb55.mono HB54.out.size))
  obtain ⟨r55a, r55b, r55c⟩ := HR.out _ HB55.out
  have e0 := r55a.cell 0; have e1 := r55a.cell 1; have e2 := r55b.cell 0; have e3 := r55b.cell 1; have e4 := r55c.cell 0; have e5 := r55c.cell 1
  clear hb55 r55a r55b r55c
  go_wp2
  go_ret
  exact ⟨rfl, HB1.out.trans (HB55.out.mono HB1.out.size)⟩

theorem SweepNear_any (A A2 : Option Addr) (c c2 : Nat) (p : Pl) (r k r2 k2 d : Int) (w : World) (hP : PlAt w w.heap.size A c A2 c2 p) :
    Calls Tryz.prog 4 #[.agg #[.slice A p.nodes.length c, .slice A2 p.rails.length c2], .agg #[.int .i64 r, .int .i64 k], .agg #[.int .i64 r2, .int .i64 k2], .int .i64 d] w fun e w' => e = .returned (.bool true) ∧ Below w.heap.size w w' := by
  cases hfew : fewB p with
  | false => exact near_few A A2 c c2 p r k r2 k2 d w hP hfew
  | true =>
    by_cases hv : Vld p
    · cases hs1 : stripB p r k with
      | false => exact near_n2 A A2 c c2 p r k r2 k2 d w hP hfew (fun h => by rw [hs1] at h; cases h.2.1) hv hs1
      | true =>
        cases hs2 : stripB p r2 k2 with
        | false => exact near_n3 A A2 c c2 p r k r2 k2 d w hP hfew (fun h => by rw [hs2] at h; cases h.2.2) hv hs1 hs2
        | true =>
          by_cases hd0 : d < 0
          · exact near_f1 A A2 c c2 p r k r2 k2 d w hP hfew hv hs1 hs2 hd0
          · by_cases hd1 : 10000 < d
            · exact near_f2 A A2 c c2 p r k r2 k2 d w hP hfew hv hs1 hs2 hd1
            · exact near_yes A A2 c c2 p r k r2 k2 d w hP hfew hv hs1 hs2 (by omega) (by omega)
    · exact near_n1 A A2 c c2 p r k r2 k2 d w hP hfew (fun h => hv h.1) hv
end Go.Proofs.YtekambdnmaompaaGreat.SW
