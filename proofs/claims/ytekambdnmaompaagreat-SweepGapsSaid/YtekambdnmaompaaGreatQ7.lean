/- The law SweepGaps in general. -/
import Derived.Test.YtekambdnmaompaaGreatJ7
import Derived.Test.YtekambdnmaompaaGreatQ1
namespace Go.Proofs.YtekambdnmaompaaGreat.SW
set_option linter.unusedVariables false
set_option linter.unusedSimpArgs false
open Go.RowKit


set_option maxRecDepth 100000 in
set_option maxHeartbeats 4000000 in
theorem gaps_few (A A2 : Option Addr) (c c2 : Nat) (p : Pl) (r k r2 k2 d : Int) (w : World) (hP : PlAt w w.heap.size A c A2 c2 p) (hfew : fewB p = false) :
    Calls Tryz.prog 5 #[.agg #[.slice A p.nodes.length c, .slice A2 p.rails.length c2], .agg #[.int .i64 r, .int .i64 k], .agg #[.int .i64 r2, .int .i64 k2], .int .i64 d] w fun e w' => e = .returned (.bool true) ∧ Below w.heap.size w w' := by
  have hrm := hP.rm; have hrc := hP.rc
  have hb1 := (((Below.refl _ w).alloc (Nat.le_refl _) (.cells #[.slice A p.nodes.length c, .slice A2 p.rails.length c2] 25)).alloc (by simp) (.cells #[.int .i64 r, .int .i64 k] 34)).alloc (by simp; omega) (.cells #[.int .i64 r2, .int .i64 k2] 34)
  obtain ⟨q1, q2, q3⟩ := rows3 w #[.slice A p.nodes.length c, .slice A2 p.rails.length c2] #[.int .i64 r, .int .i64 k] #[.int .i64 r2, .int .i64 k2] 25 34 34
  have hz1 : (((w.alloc (.cells #[.slice A p.nodes.length c, .slice A2 p.rails.length c2] 25)).alloc (.cells #[.int .i64 r, .int .i64 k] 34)).alloc (.cells #[.int .i64 r2, .int .i64 k2] 34)).heap.size = w.heap.size + 3 := by simp
  obtain ⟨W1, hW1⟩ : ∃ z, ((w.alloc (.cells #[.slice A p.nodes.length c, .slice A2 p.rails.length c2] 25)).alloc (.cells #[.int .i64 r, .int .i64 k] 34)).alloc (.cells #[.int .i64 r2, .int .i64 k2] 34) = z := ⟨_, rfl⟩
  rw [hW1] at hb1 q1 q2 q3 hz1
  have HB1 := Lib.hid hb1
  have HB0 := Lib.hid (Below.refl W1.heap.size W1)
  have HR := Lib.hid (show ∀ wx, Below W1.heap.size W1 wx → Rw wx w.heap.size 25 #[.slice A p.nodes.length c, .slice A2 p.rails.length c2] ∧ Rw wx (w.heap.size + 1) 34 #[.int .i64 r, .int .i64 k] ∧ Rw wx (w.heap.size + 1 + 1) 34 #[.int .i64 r2, .int .i64 k2] from fun wx h => ⟨q1.below h (by omega), q2.below h (by omega), q3.below h (by omega)⟩)
  have HPB := Lib.hid (show ∀ wx, Below W1.heap.size W1 wx → PlAt wx wx.heap.size A c A2 c2 p from fun wx h => ((hP.below hb1).below (h.mono hb1.size)).more (Nat.le_trans hb1.size h.size))
  have HKN := Lib.hid (show ∀ wx, Below W1.heap.size W1 wx → Calls Tryz.prog 16 #[] wx fun e w' => e = .returned (.bool true) ∧ Below wx.heap.size wx w' from fun wx _ => known_any wx)
  have e0 := q1.cell 0; have e1 := q1.cell 1; have e2 := q2.cell 0; have e3 := q2.cell 1; have e4 := q3.cell 0; have e5 := q3.cell 1
  have HFW := Lib.hid (show ∀ wx, Below W1.heap.size W1 wx → Calls Tryz.prog 15 #[.agg #[.slice A p.nodes.length c, .slice A2 p.rails.length c2]] wx fun e w' => e = .returned (.bool false) ∧ Below wx.heap.size wx w' from fun wx h => by have := few_any A A2 c c2 p wx (HPB.out wx h); rwa [hfew] at this)
  clear hb1 q1 q2 q3 hz1 hP
  go_enter Tryz.func5, Tryz.ntmps5
  go_wp2_with fail
  refine (HFW.out _ HB0.out).mono ?_
  rintro e w11 ⟨rfl, hb11⟩
  have HB11 := Lib.hid (HB0.out.trans (hb11.mono HB0.out.size))
  obtain ⟨r11a, r11b, r11c⟩ := HR.out _ HB11.out
  have e0 := r11a.cell 0; have e1 := r11a.cell 1; have e2 := r11b.cell 0; have e3 := r11b.cell 1; have e4 := r11c.cell 0; have e5 := r11c.cell 1
  clear hb11 r11a r11b r11c
  clear hW1
  go_wp2_with fail
  refine (HKN.out _ HB11.out).mono ?_
  rintro e w12 ⟨rfl, hb12⟩
  have HB12 := Lib.hid (HB11.out.trans (hb12.mono HB11.out.size))
  obtain ⟨r12a, r12b, r12c⟩ := HR.out _ HB12.out
  have e0 := r12a.cell 0; have e1 := r12a.cell 1; have e2 := r12b.cell 0; have e3 := r12b.cell 1; have e4 := r12c.cell 0; have e5 := r12c.cell 1
  clear hb12 r12a r12b r12c
  go_wp2
  go_ret
  exact ⟨rfl, HB1.out.trans (HB12.out.mono HB1.out.size)⟩

set_option maxRecDepth 100000 in
set_option maxHeartbeats 4000000 in
theorem gaps_n1 (A A2 : Option Addr) (c c2 : Nat) (p : Pl) (r k r2 k2 d : Int) (w : World) (hP : PlAt w w.heap.size A c A2 c2 p) (hfew : fewB p = true) (hv : ¬ Vld p) :
    Calls Tryz.prog 5 #[.agg #[.slice A p.nodes.length c, .slice A2 p.rails.length c2], .agg #[.int .i64 r, .int .i64 k], .agg #[.int .i64 r2, .int .i64 k2], .int .i64 d] w fun e w' => e = .returned (.bool true) ∧ Below w.heap.size w w' := by
  have hrm := hP.rm; have hrc := hP.rc
  have hb1 := (((Below.refl _ w).alloc (Nat.le_refl _) (.cells #[.slice A p.nodes.length c, .slice A2 p.rails.length c2] 25)).alloc (by simp) (.cells #[.int .i64 r, .int .i64 k] 34)).alloc (by simp; omega) (.cells #[.int .i64 r2, .int .i64 k2] 34)
  obtain ⟨q1, q2, q3⟩ := rows3 w #[.slice A p.nodes.length c, .slice A2 p.rails.length c2] #[.int .i64 r, .int .i64 k] #[.int .i64 r2, .int .i64 k2] 25 34 34
  have hz1 : (((w.alloc (.cells #[.slice A p.nodes.length c, .slice A2 p.rails.length c2] 25)).alloc (.cells #[.int .i64 r, .int .i64 k] 34)).alloc (.cells #[.int .i64 r2, .int .i64 k2] 34)).heap.size = w.heap.size + 3 := by simp
  obtain ⟨W1, hW1⟩ : ∃ z, ((w.alloc (.cells #[.slice A p.nodes.length c, .slice A2 p.rails.length c2] 25)).alloc (.cells #[.int .i64 r, .int .i64 k] 34)).alloc (.cells #[.int .i64 r2, .int .i64 k2] 34) = z := ⟨_, rfl⟩
  rw [hW1] at hb1 q1 q2 q3 hz1
  have HB1 := Lib.hid hb1
  have HB0 := Lib.hid (Below.refl W1.heap.size W1)
  have HR := Lib.hid (show ∀ wx, Below W1.heap.size W1 wx → Rw wx w.heap.size 25 #[.slice A p.nodes.length c, .slice A2 p.rails.length c2] ∧ Rw wx (w.heap.size + 1) 34 #[.int .i64 r, .int .i64 k] ∧ Rw wx (w.heap.size + 1 + 1) 34 #[.int .i64 r2, .int .i64 k2] from fun wx h => ⟨q1.below h (by omega), q2.below h (by omega), q3.below h (by omega)⟩)
  have HPB := Lib.hid (show ∀ wx, Below W1.heap.size W1 wx → PlAt wx wx.heap.size A c A2 c2 p from fun wx h => ((hP.below hb1).below (h.mono hb1.size)).more (Nat.le_trans hb1.size h.size))
  have HKN := Lib.hid (show ∀ wx, Below W1.heap.size W1 wx → Calls Tryz.prog 16 #[] wx fun e w' => e = .returned (.bool true) ∧ Below wx.heap.size wx w' from fun wx _ => known_any wx)
  have e0 := q1.cell 0; have e1 := q1.cell 1; have e2 := q2.cell 0; have e3 := q2.cell 1; have e4 := q3.cell 0; have e5 := q3.cell 1
  have HFW := Lib.hid (show ∀ wx, Below W1.heap.size W1 wx → Calls Tryz.prog 15 #[.agg #[.slice A p.nodes.length c, .slice A2 p.rails.length c2]] wx fun e w' => e = .returned (.bool true) ∧ Below wx.heap.size wx w' from fun wx h => by have := few_any A A2 c c2 p wx (HPB.out wx h); rwa [hfew] at this)
  have HVL := Lib.hid (show ∀ wx, Below W1.heap.size W1 wx → Calls Tryz.prog 19 #[.agg #[.slice A p.nodes.length c, .slice A2 p.rails.length c2]] wx fun e w' => e = .returned (.bool false) ∧ Below wx.heap.size wx w' from fun wx h => (Valid_any A A2 c c2 p wx (HPB.out wx h)).mono (by rintro e w' ⟨⟨b, rfl, hb⟩, h2⟩; cases b; exact ⟨rfl, h2⟩; exact absurd (hb.1 rfl) hv))
  clear hb1 q1 q2 q3 hz1 hP
  go_enter Tryz.func5, Tryz.ntmps5
  go_wp2_with fail
  refine (HFW.out _ HB0.out).mono ?_
  rintro e w13 ⟨rfl, hb13⟩
  have HB13 := Lib.hid (HB0.out.trans (hb13.mono HB0.out.size))
  obtain ⟨r13a, r13b, r13c⟩ := HR.out _ HB13.out
  have e0 := r13a.cell 0; have e1 := r13a.cell 1; have e2 := r13b.cell 0; have e3 := r13b.cell 1; have e4 := r13c.cell 0; have e5 := r13c.cell 1
  clear hb13 r13a r13b r13c
  clear hW1
  go_wp2_with fail
  refine (HVL.out _ HB13.out).mono ?_
  rintro e w14 ⟨rfl, hb14⟩
  have HB14 := Lib.hid (HB13.out.trans (hb14.mono HB13.out.size))
  obtain ⟨r14a, r14b, r14c⟩ := HR.out _ HB14.out
  have e0 := r14a.cell 0; have e1 := r14a.cell 1; have e2 := r14b.cell 0; have e3 := r14b.cell 1; have e4 := r14c.cell 0; have e5 := r14c.cell 1
  clear hb14 r14a r14b r14c
  go_wp2_with fail
  refine (HKN.out _ HB14.out).mono ?_
  rintro e w15 ⟨rfl, hb15⟩
  have HB15 := Lib.hid (HB14.out.trans (hb15.mono HB14.out.size))
  obtain ⟨r15a, r15b, r15c⟩ := HR.out _ HB15.out
  have e0 := r15a.cell 0; have e1 := r15a.cell 1; have e2 := r15b.cell 0; have e3 := r15b.cell 1; have e4 := r15c.cell 0; have e5 := r15c.cell 1
  clear hb15 r15a r15b r15c
  go_wp2
  go_ret
  exact ⟨rfl, HB1.out.trans (HB15.out.mono HB1.out.size)⟩

set_option maxRecDepth 100000 in
set_option maxHeartbeats 4000000 in
theorem gaps_n2 (A A2 : Option Addr) (c c2 : Nat) (p : Pl) (r k r2 k2 d : Int) (w : World) (hP : PlAt w w.heap.size A c A2 c2 p) (hfew : fewB p = true) (hv : Vld p) (hs1 : stripB p r k = false) :
    Calls Tryz.prog 5 #[.agg #[.slice A p.nodes.length c, .slice A2 p.rails.length c2], .agg #[.int .i64 r, .int .i64 k], .agg #[.int .i64 r2, .int .i64 k2], .int .i64 d] w fun e w' => e = .returned (.bool true) ∧ Below w.heap.size w w' := by
  have hrm := hP.rm; have hrc := hP.rc
  have hb1 := (((Below.refl _ w).alloc (Nat.le_refl _) (.cells #[.slice A p.nodes.length c, .slice A2 p.rails.length c2] 25)).alloc (by simp) (.cells #[.int .i64 r, .int .i64 k] 34)).alloc (by simp; omega) (.cells #[.int .i64 r2, .int .i64 k2] 34)
  obtain ⟨q1, q2, q3⟩ := rows3 w #[.slice A p.nodes.length c, .slice A2 p.rails.length c2] #[.int .i64 r, .int .i64 k] #[.int .i64 r2, .int .i64 k2] 25 34 34
  have hz1 : (((w.alloc (.cells #[.slice A p.nodes.length c, .slice A2 p.rails.length c2] 25)).alloc (.cells #[.int .i64 r, .int .i64 k] 34)).alloc (.cells #[.int .i64 r2, .int .i64 k2] 34)).heap.size = w.heap.size + 3 := by simp
  obtain ⟨W1, hW1⟩ : ∃ z, ((w.alloc (.cells #[.slice A p.nodes.length c, .slice A2 p.rails.length c2] 25)).alloc (.cells #[.int .i64 r, .int .i64 k] 34)).alloc (.cells #[.int .i64 r2, .int .i64 k2] 34) = z := ⟨_, rfl⟩
  rw [hW1] at hb1 q1 q2 q3 hz1
  have HB1 := Lib.hid hb1
  have HB0 := Lib.hid (Below.refl W1.heap.size W1)
  have HR := Lib.hid (show ∀ wx, Below W1.heap.size W1 wx → Rw wx w.heap.size 25 #[.slice A p.nodes.length c, .slice A2 p.rails.length c2] ∧ Rw wx (w.heap.size + 1) 34 #[.int .i64 r, .int .i64 k] ∧ Rw wx (w.heap.size + 1 + 1) 34 #[.int .i64 r2, .int .i64 k2] from fun wx h => ⟨q1.below h (by omega), q2.below h (by omega), q3.below h (by omega)⟩)
  have HPB := Lib.hid (show ∀ wx, Below W1.heap.size W1 wx → PlAt wx wx.heap.size A c A2 c2 p from fun wx h => ((hP.below hb1).below (h.mono hb1.size)).more (Nat.le_trans hb1.size h.size))
  have HKN := Lib.hid (show ∀ wx, Below W1.heap.size W1 wx → Calls Tryz.prog 16 #[] wx fun e w' => e = .returned (.bool true) ∧ Below wx.heap.size wx w' from fun wx _ => known_any wx)
  have e0 := q1.cell 0; have e1 := q1.cell 1; have e2 := q2.cell 0; have e3 := q2.cell 1; have e4 := q3.cell 0; have e5 := q3.cell 1
  have HFW := Lib.hid (show ∀ wx, Below W1.heap.size W1 wx → Calls Tryz.prog 15 #[.agg #[.slice A p.nodes.length c, .slice A2 p.rails.length c2]] wx fun e w' => e = .returned (.bool true) ∧ Below wx.heap.size wx w' from fun wx h => by have := few_any A A2 c c2 p wx (HPB.out wx h); rwa [hfew] at this)
  have HVL := Lib.hid (show ∀ wx, Below W1.heap.size W1 wx → Calls Tryz.prog 19 #[.agg #[.slice A p.nodes.length c, .slice A2 p.rails.length c2]] wx fun e w' => e = .returned (.bool true) ∧ Below wx.heap.size wx w' from fun wx h => (Valid_any A A2 c c2 p wx (HPB.out wx h)).mono (by rintro e w' ⟨⟨b, rfl, hb⟩, h2⟩; rw [hb.2 hv]; exact ⟨rfl, h2⟩))
  have HS1 := Lib.hid (show ∀ wx, Below W1.heap.size W1 wx → Calls Tryz.prog 25 #[.agg #[.slice A p.nodes.length c, .slice A2 p.rails.length c2], .agg #[.int .i64 r, .int .i64 k]] wx fun e w' => e = .returned (.bool false) ∧ Below wx.heap.size wx w' from fun wx h => by have := rStrip_any A A2 c c2 p r k wx (HPB.out wx h) hv; rwa [hs1] at this)
  clear hb1 q1 q2 q3 hz1 hP
  go_enter Tryz.func5, Tryz.ntmps5
  go_wp2_with fail
  refine (HFW.out _ HB0.out).mono ?_
  rintro e w16 ⟨rfl, hb16⟩
  have HB16 := Lib.hid (HB0.out.trans (hb16.mono HB0.out.size))
  obtain ⟨r16a, r16b, r16c⟩ := HR.out _ HB16.out
  have e0 := r16a.cell 0; have e1 := r16a.cell 1; have e2 := r16b.cell 0; have e3 := r16b.cell 1; have e4 := r16c.cell 0; have e5 := r16c.cell 1
  clear hb16 r16a r16b r16c
  clear hW1
  go_wp2_with fail
  refine (HVL.out _ HB16.out).mono ?_
  rintro e w17 ⟨rfl, hb17⟩
  have HB17 := Lib.hid (HB16.out.trans (hb17.mono HB16.out.size))
  obtain ⟨r17a, r17b, r17c⟩ := HR.out _ HB17.out
  have e0 := r17a.cell 0; have e1 := r17a.cell 1; have e2 := r17b.cell 0; have e3 := r17b.cell 1; have e4 := r17c.cell 0; have e5 := r17c.cell 1
  clear hb17 r17a r17b r17c
  go_wp2_with fail
  refine (HS1.out _ HB17.out).mono ?_
  rintro e w18 ⟨rfl, hb18⟩
  have HB18 := Lib.hid (HB17.out.trans (hb18.mono HB17.out.size))
  obtain ⟨r18a, r18b, r18c⟩ := HR.out _ HB18.out
  have e0 := r18a.cell 0; have e1 := r18a.cell 1; have e2 := r18b.cell 0; have e3 := r18b.cell 1; have e4 := r18c.cell 0; have e5 := r18c.cell 1
  clear hb18 r18a r18b r18c
  go_wp2_with fail
  refine (HKN.out _ HB18.out).mono ?_
  rintro e w19 ⟨rfl, hb19⟩
  have HB19 := Lib.hid (HB18.out.trans (hb19.mono HB18.out.size))
  obtain ⟨r19a, r19b, r19c⟩ := HR.out _ HB19.out
  have e0 := r19a.cell 0; have e1 := r19a.cell 1; have e2 := r19b.cell 0; have e3 := r19b.cell 1; have e4 := r19c.cell 0; have e5 := r19c.cell 1
  clear hb19 r19a r19b r19c
  go_wp2
  go_ret
  exact ⟨rfl, HB1.out.trans (HB19.out.mono HB1.out.size)⟩

set_option maxRecDepth 100000 in
set_option maxHeartbeats 4000000 in
theorem gaps_n3 (A A2 : Option Addr) (c c2 : Nat) (p : Pl) (r k r2 k2 d : Int) (w : World) (hP : PlAt w w.heap.size A c A2 c2 p) (hfew : fewB p = true) (hv : Vld p) (hs1 : stripB p r k = true) (hs2 : stripB p r2 k2 = false) :
    Calls Tryz.prog 5 #[.agg #[.slice A p.nodes.length c, .slice A2 p.rails.length c2], .agg #[.int .i64 r, .int .i64 k], .agg #[.int .i64 r2, .int .i64 k2], .int .i64 d] w fun e w' => e = .returned (.bool true) ∧ Below w.heap.size w w' := by
  have hrm := hP.rm; have hrc := hP.rc
  have hb1 := (((Below.refl _ w).alloc (Nat.le_refl _) (.cells #[.slice A p.nodes.length c, .slice A2 p.rails.length c2] 25)).alloc (by simp) (.cells #[.int .i64 r, .int .i64 k] 34)).alloc (by simp; omega) (.cells #[.int .i64 r2, .int .i64 k2] 34)
  obtain ⟨q1, q2, q3⟩ := rows3 w #[.slice A p.nodes.length c, .slice A2 p.rails.length c2] #[.int .i64 r, .int .i64 k] #[.int .i64 r2, .int .i64 k2] 25 34 34
  have hz1 : (((w.alloc (.cells #[.slice A p.nodes.length c, .slice A2 p.rails.length c2] 25)).alloc (.cells #[.int .i64 r, .int .i64 k] 34)).alloc (.cells #[.int .i64 r2, .int .i64 k2] 34)).heap.size = w.heap.size + 3 := by simp
  obtain ⟨W1, hW1⟩ : ∃ z, ((w.alloc (.cells #[.slice A p.nodes.length c, .slice A2 p.rails.length c2] 25)).alloc (.cells #[.int .i64 r, .int .i64 k] 34)).alloc (.cells #[.int .i64 r2, .int .i64 k2] 34) = z := ⟨_, rfl⟩
  rw [hW1] at hb1 q1 q2 q3 hz1
  have HB1 := Lib.hid hb1
  have HB0 := Lib.hid (Below.refl W1.heap.size W1)
  have HR := Lib.hid (show ∀ wx, Below W1.heap.size W1 wx → Rw wx w.heap.size 25 #[.slice A p.nodes.length c, .slice A2 p.rails.length c2] ∧ Rw wx (w.heap.size + 1) 34 #[.int .i64 r, .int .i64 k] ∧ Rw wx (w.heap.size + 1 + 1) 34 #[.int .i64 r2, .int .i64 k2] from fun wx h => ⟨q1.below h (by omega), q2.below h (by omega), q3.below h (by omega)⟩)
  have HPB := Lib.hid (show ∀ wx, Below W1.heap.size W1 wx → PlAt wx wx.heap.size A c A2 c2 p from fun wx h => ((hP.below hb1).below (h.mono hb1.size)).more (Nat.le_trans hb1.size h.size))
  have HKN := Lib.hid (show ∀ wx, Below W1.heap.size W1 wx → Calls Tryz.prog 16 #[] wx fun e w' => e = .returned (.bool true) ∧ Below wx.heap.size wx w' from fun wx _ => known_any wx)
  have e0 := q1.cell 0; have e1 := q1.cell 1; have e2 := q2.cell 0; have e3 := q2.cell 1; have e4 := q3.cell 0; have e5 := q3.cell 1
  have HFW := Lib.hid (show ∀ wx, Below W1.heap.size W1 wx → Calls Tryz.prog 15 #[.agg #[.slice A p.nodes.length c, .slice A2 p.rails.length c2]] wx fun e w' => e = .returned (.bool true) ∧ Below wx.heap.size wx w' from fun wx h => by have := few_any A A2 c c2 p wx (HPB.out wx h); rwa [hfew] at this)
  have HVL := Lib.hid (show ∀ wx, Below W1.heap.size W1 wx → Calls Tryz.prog 19 #[.agg #[.slice A p.nodes.length c, .slice A2 p.rails.length c2]] wx fun e w' => e = .returned (.bool true) ∧ Below wx.heap.size wx w' from fun wx h => (Valid_any A A2 c c2 p wx (HPB.out wx h)).mono (by rintro e w' ⟨⟨b, rfl, hb⟩, h2⟩; rw [hb.2 hv]; exact ⟨rfl, h2⟩))
  have HS1 := Lib.hid (show ∀ wx, Below W1.heap.size W1 wx → Calls Tryz.prog 25 #[.agg #[.slice A p.nodes.length c, .slice A2 p.rails.length c2], .agg #[.int .i64 r, .int .i64 k]] wx fun e w' => e = .returned (.bool true) ∧ Below wx.heap.size wx w' from fun wx h => by have := rStrip_any A A2 c c2 p r k wx (HPB.out wx h) hv; rwa [hs1] at this)
  have HS2 := Lib.hid (show ∀ wx, Below W1.heap.size W1 wx → Calls Tryz.prog 25 #[.agg #[.slice A p.nodes.length c, .slice A2 p.rails.length c2], .agg #[.int .i64 r2, .int .i64 k2]] wx fun e w' => e = .returned (.bool false) ∧ Below wx.heap.size wx w' from fun wx h => by have := rStrip_any A A2 c c2 p r2 k2 wx (HPB.out wx h) hv; rwa [hs2] at this)
  clear hb1 q1 q2 q3 hz1 hP
  go_enter Tryz.func5, Tryz.ntmps5
  go_wp2_with fail
  refine (HFW.out _ HB0.out).mono ?_
  rintro e w20 ⟨rfl, hb20⟩
  have HB20 := Lib.hid (HB0.out.trans (hb20.mono HB0.out.size))
  obtain ⟨r20a, r20b, r20c⟩ := HR.out _ HB20.out
  have e0 := r20a.cell 0; have e1 := r20a.cell 1; have e2 := r20b.cell 0; have e3 := r20b.cell 1; have e4 := r20c.cell 0; have e5 := r20c.cell 1
  clear hb20 r20a r20b r20c
  clear hW1
  go_wp2_with fail
  refine (HVL.out _ HB20.out).mono ?_
  rintro e w21 ⟨rfl, hb21⟩
  have HB21 := Lib.hid (HB20.out.trans (hb21.mono HB20.out.size))
  obtain ⟨r21a, r21b, r21c⟩ := HR.out _ HB21.out
  have e0 := r21a.cell 0; have e1 := r21a.cell 1; have e2 := r21b.cell 0; have e3 := r21b.cell 1; have e4 := r21c.cell 0; have e5 := r21c.cell 1
  clear hb21 r21a r21b r21c
  go_wp2_with fail
  refine (HS1.out _ HB21.out).mono ?_
  rintro e w22 ⟨rfl, hb22⟩
  have HB22 := Lib.hid (HB21.out.trans (hb22.mono HB21.out.size))
  obtain ⟨r22a, r22b, r22c⟩ := HR.out _ HB22.out
  have e0 := r22a.cell 0; have e1 := r22a.cell 1; have e2 := r22b.cell 0; have e3 := r22b.cell 1; have e4 := r22c.cell 0; have e5 := r22c.cell 1
  clear hb22 r22a r22b r22c
  go_wp2_with fail
  refine (HS2.out _ HB22.out).mono ?_
  rintro e w23 ⟨rfl, hb23⟩
  have HB23 := Lib.hid (HB22.out.trans (hb23.mono HB22.out.size))
  obtain ⟨r23a, r23b, r23c⟩ := HR.out _ HB23.out
  have e0 := r23a.cell 0; have e1 := r23a.cell 1; have e2 := r23b.cell 0; have e3 := r23b.cell 1; have e4 := r23c.cell 0; have e5 := r23c.cell 1
  clear hb23 r23a r23b r23c
  go_wp2_with fail
  refine (HKN.out _ HB23.out).mono ?_
  rintro e w24 ⟨rfl, hb24⟩
  have HB24 := Lib.hid (HB23.out.trans (hb24.mono HB23.out.size))
  obtain ⟨r24a, r24b, r24c⟩ := HR.out _ HB24.out
  have e0 := r24a.cell 0; have e1 := r24a.cell 1; have e2 := r24b.cell 0; have e3 := r24b.cell 1; have e4 := r24c.cell 0; have e5 := r24c.cell 1
  clear hb24 r24a r24b r24c
  go_wp2
  go_ret
  exact ⟨rfl, HB1.out.trans (HB24.out.mono HB1.out.size)⟩

set_option maxRecDepth 100000 in
set_option maxHeartbeats 4000000 in
theorem gaps_f1 (A A2 : Option Addr) (c c2 : Nat) (p : Pl) (r k r2 k2 d : Int) (w : World) (hP : PlAt w w.heap.size A c A2 c2 p) (hfew : fewB p = true) (hv : Vld p) (hs1 : stripB p r k = true) (hs2 : stripB p r2 k2 = true) (hd : d < 0) :
    Calls Tryz.prog 5 #[.agg #[.slice A p.nodes.length c, .slice A2 p.rails.length c2], .agg #[.int .i64 r, .int .i64 k], .agg #[.int .i64 r2, .int .i64 k2], .int .i64 d] w fun e w' => e = .returned (.bool true) ∧ Below w.heap.size w w' := by
  have hrm := hP.rm; have hrc := hP.rc
  have hb1 := (((Below.refl _ w).alloc (Nat.le_refl _) (.cells #[.slice A p.nodes.length c, .slice A2 p.rails.length c2] 25)).alloc (by simp) (.cells #[.int .i64 r, .int .i64 k] 34)).alloc (by simp; omega) (.cells #[.int .i64 r2, .int .i64 k2] 34)
  obtain ⟨q1, q2, q3⟩ := rows3 w #[.slice A p.nodes.length c, .slice A2 p.rails.length c2] #[.int .i64 r, .int .i64 k] #[.int .i64 r2, .int .i64 k2] 25 34 34
  have hz1 : (((w.alloc (.cells #[.slice A p.nodes.length c, .slice A2 p.rails.length c2] 25)).alloc (.cells #[.int .i64 r, .int .i64 k] 34)).alloc (.cells #[.int .i64 r2, .int .i64 k2] 34)).heap.size = w.heap.size + 3 := by simp
  obtain ⟨W1, hW1⟩ : ∃ z, ((w.alloc (.cells #[.slice A p.nodes.length c, .slice A2 p.rails.length c2] 25)).alloc (.cells #[.int .i64 r, .int .i64 k] 34)).alloc (.cells #[.int .i64 r2, .int .i64 k2] 34) = z := ⟨_, rfl⟩
  rw [hW1] at hb1 q1 q2 q3 hz1
  have HB1 := Lib.hid hb1
  have HB0 := Lib.hid (Below.refl W1.heap.size W1)
  have HR := Lib.hid (show ∀ wx, Below W1.heap.size W1 wx → Rw wx w.heap.size 25 #[.slice A p.nodes.length c, .slice A2 p.rails.length c2] ∧ Rw wx (w.heap.size + 1) 34 #[.int .i64 r, .int .i64 k] ∧ Rw wx (w.heap.size + 1 + 1) 34 #[.int .i64 r2, .int .i64 k2] from fun wx h => ⟨q1.below h (by omega), q2.below h (by omega), q3.below h (by omega)⟩)
  have HPB := Lib.hid (show ∀ wx, Below W1.heap.size W1 wx → PlAt wx wx.heap.size A c A2 c2 p from fun wx h => ((hP.below hb1).below (h.mono hb1.size)).more (Nat.le_trans hb1.size h.size))
  have HKN := Lib.hid (show ∀ wx, Below W1.heap.size W1 wx → Calls Tryz.prog 16 #[] wx fun e w' => e = .returned (.bool true) ∧ Below wx.heap.size wx w' from fun wx _ => known_any wx)
  have e0 := q1.cell 0; have e1 := q1.cell 1; have e2 := q2.cell 0; have e3 := q2.cell 1; have e4 := q3.cell 0; have e5 := q3.cell 1
  have HFW := Lib.hid (show ∀ wx, Below W1.heap.size W1 wx → Calls Tryz.prog 15 #[.agg #[.slice A p.nodes.length c, .slice A2 p.rails.length c2]] wx fun e w' => e = .returned (.bool true) ∧ Below wx.heap.size wx w' from fun wx h => by have := few_any A A2 c c2 p wx (HPB.out wx h); rwa [hfew] at this)
  have HVL := Lib.hid (show ∀ wx, Below W1.heap.size W1 wx → Calls Tryz.prog 19 #[.agg #[.slice A p.nodes.length c, .slice A2 p.rails.length c2]] wx fun e w' => e = .returned (.bool true) ∧ Below wx.heap.size wx w' from fun wx h => (Valid_any A A2 c c2 p wx (HPB.out wx h)).mono (by rintro e w' ⟨⟨b, rfl, hb⟩, h2⟩; rw [hb.2 hv]; exact ⟨rfl, h2⟩))
  have HS1 := Lib.hid (show ∀ wx, Below W1.heap.size W1 wx → Calls Tryz.prog 25 #[.agg #[.slice A p.nodes.length c, .slice A2 p.rails.length c2], .agg #[.int .i64 r, .int .i64 k]] wx fun e w' => e = .returned (.bool true) ∧ Below wx.heap.size wx w' from fun wx h => by have := rStrip_any A A2 c c2 p r k wx (HPB.out wx h) hv; rwa [hs1] at this)
  have HS2 := Lib.hid (show ∀ wx, Below W1.heap.size W1 wx → Calls Tryz.prog 25 #[.agg #[.slice A p.nodes.length c, .slice A2 p.rails.length c2], .agg #[.int .i64 r2, .int .i64 k2]] wx fun e w' => e = .returned (.bool true) ∧ Below wx.heap.size wx w' from fun wx h => by have := rStrip_any A A2 c c2 p r2 k2 wx (HPB.out wx h) hv; rwa [hs2] at this)
  clear hb1 q1 q2 q3 hz1 hP
  go_enter Tryz.func5, Tryz.ntmps5
  go_wp2_with fail
  refine (HFW.out _ HB0.out).mono ?_
  rintro e w25 ⟨rfl, hb25⟩
  have HB25 := Lib.hid (HB0.out.trans (hb25.mono HB0.out.size))
  obtain ⟨r25a, r25b, r25c⟩ := HR.out _ HB25.out
  have e0 := r25a.cell 0; have e1 := r25a.cell 1; have e2 := r25b.cell 0; have e3 := r25b.cell 1; have e4 := r25c.cell 0; have e5 := r25c.cell 1
  clear hb25 r25a r25b r25c
  clear hW1
  go_wp2_with fail
  refine (HVL.out _ HB25.out).mono ?_
  rintro e w26 ⟨rfl, hb26⟩
  have HB26 := Lib.hid (HB25.out.trans (hb26.mono HB25.out.size))
  obtain ⟨r26a, r26b, r26c⟩ := HR.out _ HB26.out
  have e0 := r26a.cell 0; have e1 := r26a.cell 1; have e2 := r26b.cell 0; have e3 := r26b.cell 1; have e4 := r26c.cell 0; have e5 := r26c.cell 1
  clear hb26 r26a r26b r26c
  go_wp2_with fail
  refine (HS1.out _ HB26.out).mono ?_
  rintro e w27 ⟨rfl, hb27⟩
  have HB27 := Lib.hid (HB26.out.trans (hb27.mono HB26.out.size))
  obtain ⟨r27a, r27b, r27c⟩ := HR.out _ HB27.out
  have e0 := r27a.cell 0; have e1 := r27a.cell 1; have e2 := r27b.cell 0; have e3 := r27b.cell 1; have e4 := r27c.cell 0; have e5 := r27c.cell 1
  clear hb27 r27a r27b r27c
  go_wp2_with fail
  refine (HS2.out _ HB27.out).mono ?_
  rintro e w28 ⟨rfl, hb28⟩
  have HB28 := Lib.hid (HB27.out.trans (hb28.mono HB27.out.size))
  obtain ⟨r28a, r28b, r28c⟩ := HR.out _ HB28.out
  have e0 := r28a.cell 0; have e1 := r28a.cell 1; have e2 := r28b.cell 0; have e3 := r28b.cell 1; have e4 := r28c.cell 0; have e5 := r28c.cell 1
  clear hb28 r28a r28b r28c
  go_wp2_with fail
  refine (HKN.out _ HB28.out).mono ?_
  rintro e w29 ⟨rfl, hb29⟩
  have HB29 := Lib.hid (HB28.out.trans (hb29.mono HB28.out.size))
  obtain ⟨r29a, r29b, r29c⟩ := HR.out _ HB29.out
  have e0 := r29a.cell 0; have e1 := r29a.cell 1; have e2 := r29b.cell 0; have e3 := r29b.cell 1; have e4 := r29c.cell 0; have e5 := r29c.cell 1
  clear hb29 r29a r29b r29c
  go_wp2
  go_ret
  exact ⟨rfl, HB1.out.trans (HB29.out.mono HB1.out.size)⟩

set_option maxRecDepth 100000 in
set_option maxHeartbeats 4000000 in
theorem gaps_f2 (A A2 : Option Addr) (c c2 : Nat) (p : Pl) (r k r2 k2 d : Int) (w : World) (hP : PlAt w w.heap.size A c A2 c2 p) (hfew : fewB p = true) (hv : Vld p) (hs1 : stripB p r k = true) (hs2 : stripB p r2 k2 = true) (hd : 10000 ≤ d) :
    Calls Tryz.prog 5 #[.agg #[.slice A p.nodes.length c, .slice A2 p.rails.length c2], .agg #[.int .i64 r, .int .i64 k], .agg #[.int .i64 r2, .int .i64 k2], .int .i64 d] w fun e w' => e = .returned (.bool true) ∧ Below w.heap.size w w' := by
  have hrm := hP.rm; have hrc := hP.rc
  have hb1 := (((Below.refl _ w).alloc (Nat.le_refl _) (.cells #[.slice A p.nodes.length c, .slice A2 p.rails.length c2] 25)).alloc (by simp) (.cells #[.int .i64 r, .int .i64 k] 34)).alloc (by simp; omega) (.cells #[.int .i64 r2, .int .i64 k2] 34)
  obtain ⟨q1, q2, q3⟩ := rows3 w #[.slice A p.nodes.length c, .slice A2 p.rails.length c2] #[.int .i64 r, .int .i64 k] #[.int .i64 r2, .int .i64 k2] 25 34 34
  have hz1 : (((w.alloc (.cells #[.slice A p.nodes.length c, .slice A2 p.rails.length c2] 25)).alloc (.cells #[.int .i64 r, .int .i64 k] 34)).alloc (.cells #[.int .i64 r2, .int .i64 k2] 34)).heap.size = w.heap.size + 3 := by simp
  obtain ⟨W1, hW1⟩ : ∃ z, ((w.alloc (.cells #[.slice A p.nodes.length c, .slice A2 p.rails.length c2] 25)).alloc (.cells #[.int .i64 r, .int .i64 k] 34)).alloc (.cells #[.int .i64 r2, .int .i64 k2] 34) = z := ⟨_, rfl⟩
  rw [hW1] at hb1 q1 q2 q3 hz1
  have HB1 := Lib.hid hb1
  have HB0 := Lib.hid (Below.refl W1.heap.size W1)
  have HR := Lib.hid (show ∀ wx, Below W1.heap.size W1 wx → Rw wx w.heap.size 25 #[.slice A p.nodes.length c, .slice A2 p.rails.length c2] ∧ Rw wx (w.heap.size + 1) 34 #[.int .i64 r, .int .i64 k] ∧ Rw wx (w.heap.size + 1 + 1) 34 #[.int .i64 r2, .int .i64 k2] from fun wx h => ⟨q1.below h (by omega), q2.below h (by omega), q3.below h (by omega)⟩)
  have HPB := Lib.hid (show ∀ wx, Below W1.heap.size W1 wx → PlAt wx wx.heap.size A c A2 c2 p from fun wx h => ((hP.below hb1).below (h.mono hb1.size)).more (Nat.le_trans hb1.size h.size))
  have HKN := Lib.hid (show ∀ wx, Below W1.heap.size W1 wx → Calls Tryz.prog 16 #[] wx fun e w' => e = .returned (.bool true) ∧ Below wx.heap.size wx w' from fun wx _ => known_any wx)
  have e0 := q1.cell 0; have e1 := q1.cell 1; have e2 := q2.cell 0; have e3 := q2.cell 1; have e4 := q3.cell 0; have e5 := q3.cell 1
  have HFW := Lib.hid (show ∀ wx, Below W1.heap.size W1 wx → Calls Tryz.prog 15 #[.agg #[.slice A p.nodes.length c, .slice A2 p.rails.length c2]] wx fun e w' => e = .returned (.bool true) ∧ Below wx.heap.size wx w' from fun wx h => by have := few_any A A2 c c2 p wx (HPB.out wx h); rwa [hfew] at this)
  have HVL := Lib.hid (show ∀ wx, Below W1.heap.size W1 wx → Calls Tryz.prog 19 #[.agg #[.slice A p.nodes.length c, .slice A2 p.rails.length c2]] wx fun e w' => e = .returned (.bool true) ∧ Below wx.heap.size wx w' from fun wx h => (Valid_any A A2 c c2 p wx (HPB.out wx h)).mono (by rintro e w' ⟨⟨b, rfl, hb⟩, h2⟩; rw [hb.2 hv]; exact ⟨rfl, h2⟩))
  have HS1 := Lib.hid (show ∀ wx, Below W1.heap.size W1 wx → Calls Tryz.prog 25 #[.agg #[.slice A p.nodes.length c, .slice A2 p.rails.length c2], .agg #[.int .i64 r, .int .i64 k]] wx fun e w' => e = .returned (.bool true) ∧ Below wx.heap.size wx w' from fun wx h => by have := rStrip_any A A2 c c2 p r k wx (HPB.out wx h) hv; rwa [hs1] at this)
  have HS2 := Lib.hid (show ∀ wx, Below W1.heap.size W1 wx → Calls Tryz.prog 25 #[.agg #[.slice A p.nodes.length c, .slice A2 p.rails.length c2], .agg #[.int .i64 r2, .int .i64 k2]] wx fun e w' => e = .returned (.bool true) ∧ Below wx.heap.size wx w' from fun wx h => by have := rStrip_any A A2 c c2 p r2 k2 wx (HPB.out wx h) hv; rwa [hs2] at this)
  have hd2 : ¬ d < 0 := by omega
  clear hb1 q1 q2 q3 hz1 hP
  go_enter Tryz.func5, Tryz.ntmps5
  go_wp2_with fail
  refine (HFW.out _ HB0.out).mono ?_
  rintro e w30 ⟨rfl, hb30⟩
  have HB30 := Lib.hid (HB0.out.trans (hb30.mono HB0.out.size))
  obtain ⟨r30a, r30b, r30c⟩ := HR.out _ HB30.out
  have e0 := r30a.cell 0; have e1 := r30a.cell 1; have e2 := r30b.cell 0; have e3 := r30b.cell 1; have e4 := r30c.cell 0; have e5 := r30c.cell 1
  clear hb30 r30a r30b r30c
  clear hW1
  go_wp2_with fail
  refine (HVL.out _ HB30.out).mono ?_
  rintro e w31 ⟨rfl, hb31⟩
  have HB31 := Lib.hid (HB30.out.trans (hb31.mono HB30.out.size))
  obtain ⟨r31a, r31b, r31c⟩ := HR.out _ HB31.out
  have e0 := r31a.cell 0; have e1 := r31a.cell 1; have e2 := r31b.cell 0; have e3 := r31b.cell 1; have e4 := r31c.cell 0; have e5 := r31c.cell 1
  clear hb31 r31a r31b r31c
  go_wp2_with fail
  refine (HS1.out _ HB31.out).mono ?_
  rintro e w32 ⟨rfl, hb32⟩
  have HB32 := Lib.hid (HB31.out.trans (hb32.mono HB31.out.size))
  obtain ⟨r32a, r32b, r32c⟩ := HR.out _ HB32.out
  have e0 := r32a.cell 0; have e1 := r32a.cell 1; have e2 := r32b.cell 0; have e3 := r32b.cell 1; have e4 := r32c.cell 0; have e5 := r32c.cell 1
  clear hb32 r32a r32b r32c
  go_wp2_with fail
  refine (HS2.out _ HB32.out).mono ?_
  rintro e w33 ⟨rfl, hb33⟩
  have HB33 := Lib.hid (HB32.out.trans (hb33.mono HB32.out.size))
  obtain ⟨r33a, r33b, r33c⟩ := HR.out _ HB33.out
  have e0 := r33a.cell 0; have e1 := r33a.cell 1; have e2 := r33b.cell 0; have e3 := r33b.cell 1; have e4 := r33c.cell 0; have e5 := r33c.cell 1
  clear hb33 r33a r33b r33c
  go_wp2_with fail
  refine (HKN.out _ HB33.out).mono ?_
  rintro e w34 ⟨rfl, hb34⟩
  have HB34 := Lib.hid (HB33.out.trans (hb34.mono HB33.out.size))
  obtain ⟨r34a, r34b, r34c⟩ := HR.out _ HB34.out
  have e0 := r34a.cell 0; have e1 := r34a.cell 1; have e2 := r34b.cell 0; have e3 := r34b.cell 1; have e4 := r34c.cell 0; have e5 := r34c.cell 1
  clear hb34 r34a r34b r34c
  go_wp2
  go_ret
  exact ⟨rfl, HB1.out.trans (HB34.out.mono HB1.out.size)⟩

set_option maxRecDepth 100000 in
set_option maxHeartbeats 4000000 in
theorem gaps_y0t (A A2 : Option Addr) (c c2 : Nat) (p : Pl) (r k r2 k2 d : Int) (w : World) (hP : PlAt w w.heap.size A c A2 c2 p) (hfew : fewB p = true) (hv : Vld p) (hs1 : stripB p r k = true) (hs2 : stripB p r2 k2 = true) (hd0 : 0 ≤ d) (hd1 : d < 10000) (hcx : ∀ rn kn rn2 kn2 : Nat, ∀ L L2 : List S, r = rn → k = kn → r2 = rn2 → k2 = kn2 → RlOk p rn L → RlOk p rn2 L2 → sidesB (stripAt rn L kn) (stripAt rn2 L2 kn2) d = true ∧ gapW (stripAt rn L kn) (stripAt rn2 L2 kn2) = 0) :
    Calls Tryz.prog 5 #[.agg #[.slice A p.nodes.length c, .slice A2 p.rails.length c2], .agg #[.int .i64 r, .int .i64 k], .agg #[.int .i64 r2, .int .i64 k2], .int .i64 d] w fun e w' => e = .returned (.bool true) ∧ Below w.heap.size w w' := by
  have hrm := hP.rm; have hrc := hP.rc
  have hb1 := (((Below.refl _ w).alloc (Nat.le_refl _) (.cells #[.slice A p.nodes.length c, .slice A2 p.rails.length c2] 25)).alloc (by simp) (.cells #[.int .i64 r, .int .i64 k] 34)).alloc (by simp; omega) (.cells #[.int .i64 r2, .int .i64 k2] 34)
  obtain ⟨q1, q2, q3⟩ := rows3 w #[.slice A p.nodes.length c, .slice A2 p.rails.length c2] #[.int .i64 r, .int .i64 k] #[.int .i64 r2, .int .i64 k2] 25 34 34
  have hz1 : (((w.alloc (.cells #[.slice A p.nodes.length c, .slice A2 p.rails.length c2] 25)).alloc (.cells #[.int .i64 r, .int .i64 k] 34)).alloc (.cells #[.int .i64 r2, .int .i64 k2] 34)).heap.size = w.heap.size + 3 := by simp
  obtain ⟨W1, hW1⟩ : ∃ z, ((w.alloc (.cells #[.slice A p.nodes.length c, .slice A2 p.rails.length c2] 25)).alloc (.cells #[.int .i64 r, .int .i64 k] 34)).alloc (.cells #[.int .i64 r2, .int .i64 k2] 34) = z := ⟨_, rfl⟩
  rw [hW1] at hb1 q1 q2 q3 hz1
  have HB1 := Lib.hid hb1
  have HB0 := Lib.hid (Below.refl W1.heap.size W1)
  have HR := Lib.hid (show ∀ wx, Below W1.heap.size W1 wx → Rw wx w.heap.size 25 #[.slice A p.nodes.length c, .slice A2 p.rails.length c2] ∧ Rw wx (w.heap.size + 1) 34 #[.int .i64 r, .int .i64 k] ∧ Rw wx (w.heap.size + 1 + 1) 34 #[.int .i64 r2, .int .i64 k2] from fun wx h => ⟨q1.below h (by omega), q2.below h (by omega), q3.below h (by omega)⟩)
  have HPB := Lib.hid (show ∀ wx, Below W1.heap.size W1 wx → PlAt wx wx.heap.size A c A2 c2 p from fun wx h => ((hP.below hb1).below (h.mono hb1.size)).more (Nat.le_trans hb1.size h.size))
  have HKN := Lib.hid (show ∀ wx, Below W1.heap.size W1 wx → Calls Tryz.prog 16 #[] wx fun e w' => e = .returned (.bool true) ∧ Below wx.heap.size wx w' from fun wx _ => known_any wx)
  have e0 := q1.cell 0; have e1 := q1.cell 1; have e2 := q2.cell 0; have e3 := q2.cell 1; have e4 := q3.cell 0; have e5 := q3.cell 1
  have HFW := Lib.hid (show ∀ wx, Below W1.heap.size W1 wx → Calls Tryz.prog 15 #[.agg #[.slice A p.nodes.length c, .slice A2 p.rails.length c2]] wx fun e w' => e = .returned (.bool true) ∧ Below wx.heap.size wx w' from fun wx h => by have := few_any A A2 c c2 p wx (HPB.out wx h); rwa [hfew] at this)
  have HVL := Lib.hid (show ∀ wx, Below W1.heap.size W1 wx → Calls Tryz.prog 19 #[.agg #[.slice A p.nodes.length c, .slice A2 p.rails.length c2]] wx fun e w' => e = .returned (.bool true) ∧ Below wx.heap.size wx w' from fun wx h => (Valid_any A A2 c c2 p wx (HPB.out wx h)).mono (by rintro e w' ⟨⟨b, rfl, hb⟩, h2⟩; rw [hb.2 hv]; exact ⟨rfl, h2⟩))
  have HS1 := Lib.hid (show ∀ wx, Below W1.heap.size W1 wx → Calls Tryz.prog 25 #[.agg #[.slice A p.nodes.length c, .slice A2 p.rails.length c2], .agg #[.int .i64 r, .int .i64 k]] wx fun e w' => e = .returned (.bool true) ∧ Below wx.heap.size wx w' from fun wx h => by have := rStrip_any A A2 c c2 p r k wx (HPB.out wx h) hv; rwa [hs1] at this)
  have HS2 := Lib.hid (show ∀ wx, Below W1.heap.size W1 wx → Calls Tryz.prog 25 #[.agg #[.slice A p.nodes.length c, .slice A2 p.rails.length c2], .agg #[.int .i64 r2, .int .i64 k2]] wx fun e w' => e = .returned (.bool true) ∧ Below wx.heap.size wx w' from fun wx h => by have := rStrip_any A A2 c c2 p r2 k2 wx (HPB.out wx h) hv; rwa [hs2] at this)
  obtain ⟨rn, kn, L, er, ek, hL, hkn⟩ := strip_nat hv hs1
  obtain ⟨rn2, kn2, L2, er2, ek2, hL2, hkn2⟩ := strip_nat hv hs2
  have o1 := stripAt_ok (r := rn) hL.hR hL.hok hkn
  have o2 := stripAt_ok (r := rn2) hL2.hR hL2.hok hkn2
  have ll1 := hL.le; have ll2 := hL2.le
  have hgs := gap_symm o1 o2; have hgl := gap_le o1 o2
  have hgm : 0 < gapW (stripAt rn L kn) (stripAt rn2 L2 kn2) → _ := gap_less o1 o2
  have hgp : gapW (stripAt rn L kn) (stripAt rn2 L2 kn2) < 5000 → _ := gap_more o1 o2
  have hgr : r = r2 → k ≤ k2 + 1 → k2 ≤ k + 1 → gapW (stripAt rn L kn) (stripAt rn2 L2 kn2) = 0 := fun e h1 h2 => by
    obtain rfl : rn = rn2 := by omega
    exact gap_rail hL hL2 hkn hkn2 (by omega) (by omega)
  obtain ⟨x, hx⟩ : ∃ z, sidesB (stripAt rn L kn) (stripAt rn2 L2 kn2) d = z := ⟨_, rfl⟩
  obtain ⟨z, hz⟩ : ∃ z, sidesB (stripAt rn L kn) (stripAt rn2 L2 kn2) (d + 1) = z := ⟨_, rfl⟩
  have hxz : x = true → z = true := fun e => by rw [← hz]; exact sides_mono o1 o2 hd0 (by omega) (hx.trans e)
  obtain ⟨g, hg⟩ : ∃ z, gapW (stripAt rn L kn) (stripAt rn2 L2 kn2) = z := ⟨_, rfl⟩
  rw [hg] at hgl hgm hgp hgr
  obtain ⟨hc1, hc2⟩ := hcx rn kn rn2 kn2 L L2 er ek er2 ek2 hL hL2
  rw [hx] at hc1
  rw [hg] at hc2
  have HX := Lib.hid hx
  subst hc1
  obtain rfl : z = true := hxz rfl
  have HGP := Lib.hid (show ∀ wx, Below W1.heap.size W1 wx → Calls Tryz.prog 24 #[.agg #[.slice A p.nodes.length c, .slice A2 p.rails.length c2], .agg #[.int .i64 r, .int .i64 k], .agg #[.int .i64 r2, .int .i64 k2]] wx fun e w' => e = .returned (.tuple #[.int .i64 (g : Int), .int .i64 0]) ∧ Below wx.heap.size wx w' from fun wx h => by have := Gap_yes A A2 c c2 p rn kn rn2 kn2 L L2 wx (HPB.out wx h) hv hL hkn hL2 hkn2; rw [hg] at this; rw [er, ek, er2, ek2]; exact this)
  have HGQ := Lib.hid (show ∀ wx, Below W1.heap.size W1 wx → Calls Tryz.prog 24 #[.agg #[.slice A p.nodes.length c, .slice A2 p.rails.length c2], .agg #[.int .i64 r2, .int .i64 k2], .agg #[.int .i64 r, .int .i64 k]] wx fun e w' => e = .returned (.tuple #[.int .i64 (g : Int), .int .i64 0]) ∧ Below wx.heap.size wx w' from fun wx h => by have := Gap_yes A A2 c c2 p rn2 kn2 rn kn L2 L wx (HPB.out wx h) hv hL2 hkn2 hL hkn; rw [← hgs, hg] at this; rw [er, ek, er2, ek2]; exact this)
  have HWA := Lib.hid (show ∀ wx, Below W1.heap.size W1 wx → Calls Tryz.prog 23 #[.agg #[.slice A p.nodes.length c, .slice A2 p.rails.length c2], .agg #[.int .i64 r, .int .i64 k], .agg #[.int .i64 r2, .int .i64 k2], .int .i64 (d)] wx fun e w' => e = .returned (.tuple #[.bool true, .int .i64 0]) ∧ Below wx.heap.size wx w' from fun wx h => by have := Within_yes A A2 c c2 p rn kn rn2 kn2 L L2 (d) wx (HPB.out wx h) hv hL hkn hL2 hkn2 (by omega) (by omega); rw [HX.out] at this; rw [er, ek, er2, ek2]; exact this)
  have HWB := Lib.hid (show ∀ wx, Below W1.heap.size W1 wx → Calls Tryz.prog 23 #[.agg #[.slice A p.nodes.length c, .slice A2 p.rails.length c2], .agg #[.int .i64 r2, .int .i64 k2], .agg #[.int .i64 r, .int .i64 k], .int .i64 d] wx fun e w' => e = .returned (.tuple #[.bool true, .int .i64 0]) ∧ Below wx.heap.size wx w' from fun wx h => by have := Within_yes A A2 c c2 p rn2 kn2 rn kn L2 L d wx (HPB.out wx h) hv hL2 hkn2 hL hkn hd0 (by omega); rw [sides_symm, HX.out] at this; rw [er, ek, er2, ek2]; exact this)
  have HWC := Lib.hid (show ∀ wx, Below W1.heap.size W1 wx → Calls Tryz.prog 23 #[.agg #[.slice A p.nodes.length c, .slice A2 p.rails.length c2], .agg #[.int .i64 r, .int .i64 k], .agg #[.int .i64 r2, .int .i64 k2], .int .i64 (d + 1)] wx fun e w' => e = .returned (.tuple #[.bool true, .int .i64 0]) ∧ Below wx.heap.size wx w' from fun wx h => by have := Within_yes A A2 c c2 p rn kn rn2 kn2 L L2 (d + 1) wx (HPB.out wx h) hv hL hkn hL2 hkn2 (by omega) (by omega); rw [hz] at this; rw [er, ek, er2, ek2]; exact this)
  have HWP := Lib.hid (show ∀ wx, Below W1.heap.size W1 wx → Calls Tryz.prog 23 #[.agg #[.slice A p.nodes.length c, .slice A2 p.rails.length c2], .agg #[.int .i64 r, .int .i64 k], .agg #[.int .i64 r2, .int .i64 k2], .int .i64 ((g : Int) + 1)] wx fun e w' => e = .returned (.tuple #[.bool true, .int .i64 0]) ∧ Below wx.heap.size wx w' from fun wx h => by have := Within_yes A A2 c c2 p rn kn rn2 kn2 L L2 ((g : Int) + 1) wx (HPB.out wx h) hv hL hkn hL2 hkn2 (by omega) (by omega); rw [hgp (by omega)] at this; rw [er, ek, er2, ek2]; exact this)
  have hkb : 0 ≤ k ∧ k ≤ 41 := by omega
  have hkb2 : 0 ≤ k2 ∧ k2 ≤ 41 := by omega
  have HGR := Lib.hid hgr
  have HXZ := Lib.hid hxz
  have hd2 : ¬ d < 0 := by omega
  have hd3 : ¬ 10000 ≤ d := by omega
  have wd : IntKind.i64.wrap (d + 1) = d + 1 := by rw [IntKind.wrap_i64]; omega
  have wk1 : IntKind.i64.wrap (k - k2) = k - k2 := by rw [IntKind.wrap_i64]; omega
  have wk2 : IntKind.i64.wrap (k2 - k) = k2 - k := by rw [IntKind.wrap_i64]; omega
  clear hx HX er ek er2 ek2 hL hL2 hkn hkn2 o1 o2 hg hgs hz ll1 ll2 hgm hgp hgr hxz hcx
  subst hc2
  clear hb1 q1 q2 q3 hz1 hP
  go_enter Tryz.func5, Tryz.ntmps5
  go_wp2_with fail
  refine (HFW.out _ HB0.out).mono ?_
  rintro e w35 ⟨rfl, hb35⟩
  have HB35 := Lib.hid (HB0.out.trans (hb35.mono HB0.out.size))
  obtain ⟨r35a, r35b, r35c⟩ := HR.out _ HB35.out
  have e0 := r35a.cell 0; have e1 := r35a.cell 1; have e2 := r35b.cell 0; have e3 := r35b.cell 1; have e4 := r35c.cell 0; have e5 := r35c.cell 1
  clear hb35 r35a r35b r35c
  clear hW1
  go_wp2_with fail
  refine (HVL.out _ HB35.out).mono ?_
  rintro e w36 ⟨rfl, hb36⟩
  have HB36 := Lib.hid (HB35.out.trans (hb36.mono HB35.out.size))
  obtain ⟨r36a, r36b, r36c⟩ := HR.out _ HB36.out
  have e0 := r36a.cell 0; have e1 := r36a.cell 1; have e2 := r36b.cell 0; have e3 := r36b.cell 1; have e4 := r36c.cell 0; have e5 := r36c.cell 1
  clear hb36 r36a r36b r36c
  go_wp2_with fail
  refine (HS1.out _ HB36.out).mono ?_
  rintro e w37 ⟨rfl, hb37⟩
  have HB37 := Lib.hid (HB36.out.trans (hb37.mono HB36.out.size))
  obtain ⟨r37a, r37b, r37c⟩ := HR.out _ HB37.out
  have e0 := r37a.cell 0; have e1 := r37a.cell 1; have e2 := r37b.cell 0; have e3 := r37b.cell 1; have e4 := r37c.cell 0; have e5 := r37c.cell 1
  clear hb37 r37a r37b r37c
  go_wp2_with fail
  refine (HS2.out _ HB37.out).mono ?_
  rintro e w38 ⟨rfl, hb38⟩
  have HB38 := Lib.hid (HB37.out.trans (hb38.mono HB37.out.size))
  obtain ⟨r38a, r38b, r38c⟩ := HR.out _ HB38.out
  have e0 := r38a.cell 0; have e1 := r38a.cell 1; have e2 := r38b.cell 0; have e3 := r38b.cell 1; have e4 := r38c.cell 0; have e5 := r38c.cell 1
  clear hb38 r38a r38b r38c
  go_wp2_with fail
  refine (HGP.out _ HB38.out).mono ?_
  rintro e w39 ⟨rfl, hb39⟩
  have HB39 := Lib.hid (HB38.out.trans (hb39.mono HB38.out.size))
  obtain ⟨r39a, r39b, r39c⟩ := HR.out _ HB39.out
  have e0 := r39a.cell 0; have e1 := r39a.cell 1; have e2 := r39b.cell 0; have e3 := r39b.cell 1; have e4 := r39c.cell 0; have e5 := r39c.cell 1
  clear hb39 r39a r39b r39c
  go_wp2_with fail
  refine (HGQ.out _ HB39.out).mono ?_
  rintro e w40 ⟨rfl, hb40⟩
  have HB40 := Lib.hid (HB39.out.trans (hb40.mono HB39.out.size))
  obtain ⟨r40a, r40b, r40c⟩ := HR.out _ HB40.out
  have e0 := r40a.cell 0; have e1 := r40a.cell 1; have e2 := r40b.cell 0; have e3 := r40b.cell 1; have e4 := r40c.cell 0; have e5 := r40c.cell 1
  clear hb40 r40a r40b r40c
  go_wp2_with fail
  refine (HWA.out _ HB40.out).mono ?_
  rintro e w41 ⟨rfl, hb41⟩
  have HB41 := Lib.hid (HB40.out.trans (hb41.mono HB40.out.size))
  obtain ⟨r41a, r41b, r41c⟩ := HR.out _ HB41.out
  have e0 := r41a.cell 0; have e1 := r41a.cell 1; have e2 := r41b.cell 0; have e3 := r41b.cell 1; have e4 := r41c.cell 0; have e5 := r41c.cell 1
  clear hb41 r41a r41b r41c
  go_wp2_with fail
  refine (HWB.out _ HB41.out).mono ?_
  rintro e w42 ⟨rfl, hb42⟩
  have HB42 := Lib.hid (HB41.out.trans (hb42.mono HB41.out.size))
  obtain ⟨r42a, r42b, r42c⟩ := HR.out _ HB42.out
  have e0 := r42a.cell 0; have e1 := r42a.cell 1; have e2 := r42b.cell 0; have e3 := r42b.cell 1; have e4 := r42c.cell 0; have e5 := r42c.cell 1
  clear hb42 r42a r42b r42c
  go_wp2_with fail
  refine (HWC.out _ HB42.out).mono ?_
  rintro e w43 ⟨rfl, hb43⟩
  have HB43 := Lib.hid (HB42.out.trans (hb43.mono HB42.out.size))
  obtain ⟨r43a, r43b, r43c⟩ := HR.out _ HB43.out
  have e0 := r43a.cell 0; have e1 := r43a.cell 1; have e2 := r43b.cell 0; have e3 := r43b.cell 1; have e4 := r43c.cell 0; have e5 := r43c.cell 1
  clear hb43 r43a r43b r43c
  go_wp2_with fail
  refine (HWP.out _ HB43.out).mono ?_
  rintro e w44 ⟨rfl, hb44⟩
  have HB44 := Lib.hid (HB43.out.trans (hb44.mono HB43.out.size))
  obtain ⟨r44a, r44b, r44c⟩ := HR.out _ HB44.out
  have e0 := r44a.cell 0; have e1 := r44a.cell 1; have e2 := r44b.cell 0; have e3 := r44b.cell 1; have e4 := r44c.cell 0; have e5 := r44c.cell 1
  clear hb44 r44a r44b r44c
  by_cases hrr : r = r2
  · subst hrr
    by_cases hk1 : 1 < k - k2
    · clear HGR
      go_wp2_with fail
      refine (HKN.out _ HB44.out).mono ?_
      rintro e w45 ⟨rfl, hb45⟩
      have HB45 := Lib.hid (HB44.out.trans (hb45.mono HB44.out.size))
      obtain ⟨r45a, r45b, r45c⟩ := HR.out _ HB45.out
      have e0 := r45a.cell 0; have e1 := r45a.cell 1; have e2 := r45b.cell 0; have e3 := r45b.cell 1; have e4 := r45c.cell 0; have e5 := r45c.cell 1
      clear hb45 r45a r45b r45c
      go_wp2
      go_ret
      exact ⟨rfl, HB1.out.trans (HB45.out.mono HB1.out.size)⟩
    · by_cases hk2 : 1 < k2 - k
      · clear HGR
        go_wp2_with fail
        refine (HKN.out _ HB44.out).mono ?_
        rintro e w46 ⟨rfl, hb46⟩
        have HB46 := Lib.hid (HB44.out.trans (hb46.mono HB44.out.size))
        obtain ⟨r46a, r46b, r46c⟩ := HR.out _ HB46.out
        have e0 := r46a.cell 0; have e1 := r46a.cell 1; have e2 := r46b.cell 0; have e3 := r46b.cell 1; have e4 := r46c.cell 0; have e5 := r46c.cell 1
        clear hb46 r46a r46b r46c
        go_wp2
        go_ret
        exact ⟨rfl, HB1.out.trans (HB46.out.mono HB1.out.size)⟩
      · clear HGR
        go_wp2_with fail
        refine (HKN.out _ HB44.out).mono ?_
        rintro e w47 ⟨rfl, hb47⟩
        have HB47 := Lib.hid (HB44.out.trans (hb47.mono HB44.out.size))
        obtain ⟨r47a, r47b, r47c⟩ := HR.out _ HB47.out
        have e0 := r47a.cell 0; have e1 := r47a.cell 1; have e2 := r47b.cell 0; have e3 := r47b.cell 1; have e4 := r47c.cell 0; have e5 := r47c.cell 1
        clear hb47 r47a r47b r47c
        go_wp2
        go_ret
        exact ⟨rfl, HB1.out.trans (HB47.out.mono HB1.out.size)⟩
  · clear HGR
    go_wp2_with fail
    refine (HKN.out _ HB44.out).mono ?_
    rintro e w48 ⟨rfl, hb48⟩
    have HB48 := Lib.hid (HB44.out.trans (hb48.mono HB44.out.size))
    obtain ⟨r48a, r48b, r48c⟩ := HR.out _ HB48.out
    have e0 := r48a.cell 0; have e1 := r48a.cell 1; have e2 := r48b.cell 0; have e3 := r48b.cell 1; have e4 := r48c.cell 0; have e5 := r48c.cell 1
    clear hb48 r48a r48b r48c
    go_wp2
    go_ret
    exact ⟨rfl, HB1.out.trans (HB48.out.mono HB1.out.size)⟩

set_option maxRecDepth 100000 in
set_option maxHeartbeats 4000000 in
theorem gaps_y0f (A A2 : Option Addr) (c c2 : Nat) (p : Pl) (r k r2 k2 d : Int) (w : World) (hP : PlAt w w.heap.size A c A2 c2 p) (hfew : fewB p = true) (hv : Vld p) (hs1 : stripB p r k = true) (hs2 : stripB p r2 k2 = true) (hd0 : 0 ≤ d) (hd1 : d < 10000) (hcx : ∀ rn kn rn2 kn2 : Nat, ∀ L L2 : List S, r = rn → k = kn → r2 = rn2 → k2 = kn2 → RlOk p rn L → RlOk p rn2 L2 → sidesB (stripAt rn L kn) (stripAt rn2 L2 kn2) d = false ∧ gapW (stripAt rn L kn) (stripAt rn2 L2 kn2) = 0) :
    Calls Tryz.prog 5 #[.agg #[.slice A p.nodes.length c, .slice A2 p.rails.length c2], .agg #[.int .i64 r, .int .i64 k], .agg #[.int .i64 r2, .int .i64 k2], .int .i64 d] w fun e w' => e = .returned (.bool true) ∧ Below w.heap.size w w' := by
  have hrm := hP.rm; have hrc := hP.rc
  have hb1 := (((Below.refl _ w).alloc (Nat.le_refl _) (.cells #[.slice A p.nodes.length c, .slice A2 p.rails.length c2] 25)).alloc (by simp) (.cells #[.int .i64 r, .int .i64 k] 34)).alloc (by simp; omega) (.cells #[.int .i64 r2, .int .i64 k2] 34)
  obtain ⟨q1, q2, q3⟩ := rows3 w #[.slice A p.nodes.length c, .slice A2 p.rails.length c2] #[.int .i64 r, .int .i64 k] #[.int .i64 r2, .int .i64 k2] 25 34 34
  have hz1 : (((w.alloc (.cells #[.slice A p.nodes.length c, .slice A2 p.rails.length c2] 25)).alloc (.cells #[.int .i64 r, .int .i64 k] 34)).alloc (.cells #[.int .i64 r2, .int .i64 k2] 34)).heap.size = w.heap.size + 3 := by simp
  obtain ⟨W1, hW1⟩ : ∃ z, ((w.alloc (.cells #[.slice A p.nodes.length c, .slice A2 p.rails.length c2] 25)).alloc (.cells #[.int .i64 r, .int .i64 k] 34)).alloc (.cells #[.int .i64 r2, .int .i64 k2] 34) = z := ⟨_, rfl⟩
  rw [hW1] at hb1 q1 q2 q3 hz1
  have HB1 := Lib.hid hb1
  have HB0 := Lib.hid (Below.refl W1.heap.size W1)
  have HR := Lib.hid (show ∀ wx, Below W1.heap.size W1 wx → Rw wx w.heap.size 25 #[.slice A p.nodes.length c, .slice A2 p.rails.length c2] ∧ Rw wx (w.heap.size + 1) 34 #[.int .i64 r, .int .i64 k] ∧ Rw wx (w.heap.size + 1 + 1) 34 #[.int .i64 r2, .int .i64 k2] from fun wx h => ⟨q1.below h (by omega), q2.below h (by omega), q3.below h (by omega)⟩)
  have HPB := Lib.hid (show ∀ wx, Below W1.heap.size W1 wx → PlAt wx wx.heap.size A c A2 c2 p from fun wx h => ((hP.below hb1).below (h.mono hb1.size)).more (Nat.le_trans hb1.size h.size))
  have HKN := Lib.hid (show ∀ wx, Below W1.heap.size W1 wx → Calls Tryz.prog 16 #[] wx fun e w' => e = .returned (.bool true) ∧ Below wx.heap.size wx w' from fun wx _ => known_any wx)
  have e0 := q1.cell 0; have e1 := q1.cell 1; have e2 := q2.cell 0; have e3 := q2.cell 1; have e4 := q3.cell 0; have e5 := q3.cell 1
  have HFW := Lib.hid (show ∀ wx, Below W1.heap.size W1 wx → Calls Tryz.prog 15 #[.agg #[.slice A p.nodes.length c, .slice A2 p.rails.length c2]] wx fun e w' => e = .returned (.bool true) ∧ Below wx.heap.size wx w' from fun wx h => by have := few_any A A2 c c2 p wx (HPB.out wx h); rwa [hfew] at this)
  have HVL := Lib.hid (show ∀ wx, Below W1.heap.size W1 wx → Calls Tryz.prog 19 #[.agg #[.slice A p.nodes.length c, .slice A2 p.rails.length c2]] wx fun e w' => e = .returned (.bool true) ∧ Below wx.heap.size wx w' from fun wx h => (Valid_any A A2 c c2 p wx (HPB.out wx h)).mono (by rintro e w' ⟨⟨b, rfl, hb⟩, h2⟩; rw [hb.2 hv]; exact ⟨rfl, h2⟩))
  have HS1 := Lib.hid (show ∀ wx, Below W1.heap.size W1 wx → Calls Tryz.prog 25 #[.agg #[.slice A p.nodes.length c, .slice A2 p.rails.length c2], .agg #[.int .i64 r, .int .i64 k]] wx fun e w' => e = .returned (.bool true) ∧ Below wx.heap.size wx w' from fun wx h => by have := rStrip_any A A2 c c2 p r k wx (HPB.out wx h) hv; rwa [hs1] at this)
  have HS2 := Lib.hid (show ∀ wx, Below W1.heap.size W1 wx → Calls Tryz.prog 25 #[.agg #[.slice A p.nodes.length c, .slice A2 p.rails.length c2], .agg #[.int .i64 r2, .int .i64 k2]] wx fun e w' => e = .returned (.bool true) ∧ Below wx.heap.size wx w' from fun wx h => by have := rStrip_any A A2 c c2 p r2 k2 wx (HPB.out wx h) hv; rwa [hs2] at this)
  obtain ⟨rn, kn, L, er, ek, hL, hkn⟩ := strip_nat hv hs1
  obtain ⟨rn2, kn2, L2, er2, ek2, hL2, hkn2⟩ := strip_nat hv hs2
  have o1 := stripAt_ok (r := rn) hL.hR hL.hok hkn
  have o2 := stripAt_ok (r := rn2) hL2.hR hL2.hok hkn2
  have ll1 := hL.le; have ll2 := hL2.le
  have hgs := gap_symm o1 o2; have hgl := gap_le o1 o2
  have hgm : 0 < gapW (stripAt rn L kn) (stripAt rn2 L2 kn2) → _ := gap_less o1 o2
  have hgp : gapW (stripAt rn L kn) (stripAt rn2 L2 kn2) < 5000 → _ := gap_more o1 o2
  have hgr : r = r2 → k ≤ k2 + 1 → k2 ≤ k + 1 → gapW (stripAt rn L kn) (stripAt rn2 L2 kn2) = 0 := fun e h1 h2 => by
    obtain rfl : rn = rn2 := by omega
    exact gap_rail hL hL2 hkn hkn2 (by omega) (by omega)
  obtain ⟨x, hx⟩ : ∃ z, sidesB (stripAt rn L kn) (stripAt rn2 L2 kn2) d = z := ⟨_, rfl⟩
  obtain ⟨z, hz⟩ : ∃ z, sidesB (stripAt rn L kn) (stripAt rn2 L2 kn2) (d + 1) = z := ⟨_, rfl⟩
  have hxz : x = true → z = true := fun e => by rw [← hz]; exact sides_mono o1 o2 hd0 (by omega) (hx.trans e)
  obtain ⟨g, hg⟩ : ∃ z, gapW (stripAt rn L kn) (stripAt rn2 L2 kn2) = z := ⟨_, rfl⟩
  rw [hg] at hgl hgm hgp hgr
  obtain ⟨hc1, hc2⟩ := hcx rn kn rn2 kn2 L L2 er ek er2 ek2 hL hL2
  rw [hx] at hc1
  rw [hg] at hc2
  have HX := Lib.hid hx
  subst hc1
  have HGP := Lib.hid (show ∀ wx, Below W1.heap.size W1 wx → Calls Tryz.prog 24 #[.agg #[.slice A p.nodes.length c, .slice A2 p.rails.length c2], .agg #[.int .i64 r, .int .i64 k], .agg #[.int .i64 r2, .int .i64 k2]] wx fun e w' => e = .returned (.tuple #[.int .i64 (g : Int), .int .i64 0]) ∧ Below wx.heap.size wx w' from fun wx h => by have := Gap_yes A A2 c c2 p rn kn rn2 kn2 L L2 wx (HPB.out wx h) hv hL hkn hL2 hkn2; rw [hg] at this; rw [er, ek, er2, ek2]; exact this)
  have HGQ := Lib.hid (show ∀ wx, Below W1.heap.size W1 wx → Calls Tryz.prog 24 #[.agg #[.slice A p.nodes.length c, .slice A2 p.rails.length c2], .agg #[.int .i64 r2, .int .i64 k2], .agg #[.int .i64 r, .int .i64 k]] wx fun e w' => e = .returned (.tuple #[.int .i64 (g : Int), .int .i64 0]) ∧ Below wx.heap.size wx w' from fun wx h => by have := Gap_yes A A2 c c2 p rn2 kn2 rn kn L2 L wx (HPB.out wx h) hv hL2 hkn2 hL hkn; rw [← hgs, hg] at this; rw [er, ek, er2, ek2]; exact this)
  have HWA := Lib.hid (show ∀ wx, Below W1.heap.size W1 wx → Calls Tryz.prog 23 #[.agg #[.slice A p.nodes.length c, .slice A2 p.rails.length c2], .agg #[.int .i64 r, .int .i64 k], .agg #[.int .i64 r2, .int .i64 k2], .int .i64 (d)] wx fun e w' => e = .returned (.tuple #[.bool false, .int .i64 0]) ∧ Below wx.heap.size wx w' from fun wx h => by have := Within_yes A A2 c c2 p rn kn rn2 kn2 L L2 (d) wx (HPB.out wx h) hv hL hkn hL2 hkn2 (by omega) (by omega); rw [HX.out] at this; rw [er, ek, er2, ek2]; exact this)
  have HWB := Lib.hid (show ∀ wx, Below W1.heap.size W1 wx → Calls Tryz.prog 23 #[.agg #[.slice A p.nodes.length c, .slice A2 p.rails.length c2], .agg #[.int .i64 r2, .int .i64 k2], .agg #[.int .i64 r, .int .i64 k], .int .i64 d] wx fun e w' => e = .returned (.tuple #[.bool false, .int .i64 0]) ∧ Below wx.heap.size wx w' from fun wx h => by have := Within_yes A A2 c c2 p rn2 kn2 rn kn L2 L d wx (HPB.out wx h) hv hL2 hkn2 hL hkn hd0 (by omega); rw [sides_symm, HX.out] at this; rw [er, ek, er2, ek2]; exact this)
  have HWC := Lib.hid (show ∀ wx, Below W1.heap.size W1 wx → Calls Tryz.prog 23 #[.agg #[.slice A p.nodes.length c, .slice A2 p.rails.length c2], .agg #[.int .i64 r, .int .i64 k], .agg #[.int .i64 r2, .int .i64 k2], .int .i64 (d + 1)] wx fun e w' => e = .returned (.tuple #[.bool z, .int .i64 0]) ∧ Below wx.heap.size wx w' from fun wx h => by have := Within_yes A A2 c c2 p rn kn rn2 kn2 L L2 (d + 1) wx (HPB.out wx h) hv hL hkn hL2 hkn2 (by omega) (by omega); rw [hz] at this; rw [er, ek, er2, ek2]; exact this)
  have HWP := Lib.hid (show ∀ wx, Below W1.heap.size W1 wx → Calls Tryz.prog 23 #[.agg #[.slice A p.nodes.length c, .slice A2 p.rails.length c2], .agg #[.int .i64 r, .int .i64 k], .agg #[.int .i64 r2, .int .i64 k2], .int .i64 ((g : Int) + 1)] wx fun e w' => e = .returned (.tuple #[.bool true, .int .i64 0]) ∧ Below wx.heap.size wx w' from fun wx h => by have := Within_yes A A2 c c2 p rn kn rn2 kn2 L L2 ((g : Int) + 1) wx (HPB.out wx h) hv hL hkn hL2 hkn2 (by omega) (by omega); rw [hgp (by omega)] at this; rw [er, ek, er2, ek2]; exact this)
  have hkb : 0 ≤ k ∧ k ≤ 41 := by omega
  have hkb2 : 0 ≤ k2 ∧ k2 ≤ 41 := by omega
  have HGR := Lib.hid hgr
  have HXZ := Lib.hid hxz
  have hd2 : ¬ d < 0 := by omega
  have hd3 : ¬ 10000 ≤ d := by omega
  have wd : IntKind.i64.wrap (d + 1) = d + 1 := by rw [IntKind.wrap_i64]; omega
  have wk1 : IntKind.i64.wrap (k - k2) = k - k2 := by rw [IntKind.wrap_i64]; omega
  have wk2 : IntKind.i64.wrap (k2 - k) = k2 - k := by rw [IntKind.wrap_i64]; omega
  clear hx HX er ek er2 ek2 hL hL2 hkn hkn2 o1 o2 hg hgs hz ll1 ll2 hgm hgp hgr hxz hcx
  subst hc2
  clear hb1 q1 q2 q3 hz1 hP
  go_enter Tryz.func5, Tryz.ntmps5
  go_wp2_with fail
  refine (HFW.out _ HB0.out).mono ?_
  rintro e w49 ⟨rfl, hb49⟩
  have HB49 := Lib.hid (HB0.out.trans (hb49.mono HB0.out.size))
  obtain ⟨r49a, r49b, r49c⟩ := HR.out _ HB49.out
  have e0 := r49a.cell 0; have e1 := r49a.cell 1; have e2 := r49b.cell 0; have e3 := r49b.cell 1; have e4 := r49c.cell 0; have e5 := r49c.cell 1
  clear hb49 r49a r49b r49c
  clear hW1
  go_wp2_with fail
  refine (HVL.out _ HB49.out).mono ?_
  rintro e w50 ⟨rfl, hb50⟩
  have HB50 := Lib.hid (HB49.out.trans (hb50.mono HB49.out.size))
  obtain ⟨r50a, r50b, r50c⟩ := HR.out _ HB50.out
  have e0 := r50a.cell 0; have e1 := r50a.cell 1; have e2 := r50b.cell 0; have e3 := r50b.cell 1; have e4 := r50c.cell 0; have e5 := r50c.cell 1
  clear hb50 r50a r50b r50c
  go_wp2_with fail
  refine (HS1.out _ HB50.out).mono ?_
  rintro e w51 ⟨rfl, hb51⟩
  have HB51 := Lib.hid (HB50.out.trans (hb51.mono HB50.out.size))
  obtain ⟨r51a, r51b, r51c⟩ := HR.out _ HB51.out
  have e0 := r51a.cell 0; have e1 := r51a.cell 1; have e2 := r51b.cell 0; have e3 := r51b.cell 1; have e4 := r51c.cell 0; have e5 := r51c.cell 1
  clear hb51 r51a r51b r51c
  go_wp2_with fail
  refine (HS2.out _ HB51.out).mono ?_
  rintro e w52 ⟨rfl, hb52⟩
  have HB52 := Lib.hid (HB51.out.trans (hb52.mono HB51.out.size))
  obtain ⟨r52a, r52b, r52c⟩ := HR.out _ HB52.out
  have e0 := r52a.cell 0; have e1 := r52a.cell 1; have e2 := r52b.cell 0; have e3 := r52b.cell 1; have e4 := r52c.cell 0; have e5 := r52c.cell 1
  clear hb52 r52a r52b r52c
  go_wp2_with fail
  refine (HGP.out _ HB52.out).mono ?_
  rintro e w53 ⟨rfl, hb53⟩
  have HB53 := Lib.hid (HB52.out.trans (hb53.mono HB52.out.size))
  obtain ⟨r53a, r53b, r53c⟩ := HR.out _ HB53.out
  have e0 := r53a.cell 0; have e1 := r53a.cell 1; have e2 := r53b.cell 0; have e3 := r53b.cell 1; have e4 := r53c.cell 0; have e5 := r53c.cell 1
  clear hb53 r53a r53b r53c
  go_wp2_with fail
  refine (HGQ.out _ HB53.out).mono ?_
  rintro e w54 ⟨rfl, hb54⟩
  have HB54 := Lib.hid (HB53.out.trans (hb54.mono HB53.out.size))
  obtain ⟨r54a, r54b, r54c⟩ := HR.out _ HB54.out
  have e0 := r54a.cell 0; have e1 := r54a.cell 1; have e2 := r54b.cell 0; have e3 := r54b.cell 1; have e4 := r54c.cell 0; have e5 := r54c.cell 1
  clear hb54 r54a r54b r54c
  go_wp2_with fail
  refine (HWA.out _ HB54.out).mono ?_
  rintro e w55 ⟨rfl, hb55⟩
  have HB55 := Lib.hid (HB54.out.trans (hb55.mono HB54.out.size))
  obtain ⟨r55a, r55b, r55c⟩ := HR.out _ HB55.out
  have e0 := r55a.cell 0; have e1 := r55a.cell 1; have e2 := r55b.cell 0; have e3 := r55b.cell 1; have e4 := r55c.cell 0; have e5 := r55c.cell 1
  clear hb55 r55a r55b r55c
  go_wp2_with fail
  refine (HWB.out _ HB55.out).mono ?_
  rintro e w56 ⟨rfl, hb56⟩
  have HB56 := Lib.hid (HB55.out.trans (hb56.mono HB55.out.size))
  obtain ⟨r56a, r56b, r56c⟩ := HR.out _ HB56.out
  have e0 := r56a.cell 0; have e1 := r56a.cell 1; have e2 := r56b.cell 0; have e3 := r56b.cell 1; have e4 := r56c.cell 0; have e5 := r56c.cell 1
  clear hb56 r56a r56b r56c
  go_wp2_with fail
  refine (HWC.out _ HB56.out).mono ?_
  rintro e w57 ⟨rfl, hb57⟩
  have HB57 := Lib.hid (HB56.out.trans (hb57.mono HB56.out.size))
  obtain ⟨r57a, r57b, r57c⟩ := HR.out _ HB57.out
  have e0 := r57a.cell 0; have e1 := r57a.cell 1; have e2 := r57b.cell 0; have e3 := r57b.cell 1; have e4 := r57c.cell 0; have e5 := r57c.cell 1
  clear hb57 r57a r57b r57c
  go_wp2_with fail
  refine (HWP.out _ HB57.out).mono ?_
  rintro e w58 ⟨rfl, hb58⟩
  have HB58 := Lib.hid (HB57.out.trans (hb58.mono HB57.out.size))
  obtain ⟨r58a, r58b, r58c⟩ := HR.out _ HB58.out
  have e0 := r58a.cell 0; have e1 := r58a.cell 1; have e2 := r58b.cell 0; have e3 := r58b.cell 1; have e4 := r58c.cell 0; have e5 := r58c.cell 1
  clear hb58 r58a r58b r58c
  by_cases hrr : r = r2
  · subst hrr
    by_cases hk1 : 1 < k - k2
    · clear HGR
      go_wp2_with fail
      refine (HKN.out _ HB58.out).mono ?_
      rintro e w59 ⟨rfl, hb59⟩
      have HB59 := Lib.hid (HB58.out.trans (hb59.mono HB58.out.size))
      obtain ⟨r59a, r59b, r59c⟩ := HR.out _ HB59.out
      have e0 := r59a.cell 0; have e1 := r59a.cell 1; have e2 := r59b.cell 0; have e3 := r59b.cell 1; have e4 := r59c.cell 0; have e5 := r59c.cell 1
      clear hb59 r59a r59b r59c
      go_wp2
      go_ret
      exact ⟨rfl, HB1.out.trans (HB59.out.mono HB1.out.size)⟩
    · by_cases hk2 : 1 < k2 - k
      · clear HGR
        go_wp2_with fail
        refine (HKN.out _ HB58.out).mono ?_
        rintro e w60 ⟨rfl, hb60⟩
        have HB60 := Lib.hid (HB58.out.trans (hb60.mono HB58.out.size))
        obtain ⟨r60a, r60b, r60c⟩ := HR.out _ HB60.out
        have e0 := r60a.cell 0; have e1 := r60a.cell 1; have e2 := r60b.cell 0; have e3 := r60b.cell 1; have e4 := r60c.cell 0; have e5 := r60c.cell 1
        clear hb60 r60a r60b r60c
        go_wp2
        go_ret
        exact ⟨rfl, HB1.out.trans (HB60.out.mono HB1.out.size)⟩
      · clear HGR
        go_wp2_with fail
        refine (HKN.out _ HB58.out).mono ?_
        rintro e w61 ⟨rfl, hb61⟩
        have HB61 := Lib.hid (HB58.out.trans (hb61.mono HB58.out.size))
        obtain ⟨r61a, r61b, r61c⟩ := HR.out _ HB61.out
        have e0 := r61a.cell 0; have e1 := r61a.cell 1; have e2 := r61b.cell 0; have e3 := r61b.cell 1; have e4 := r61c.cell 0; have e5 := r61c.cell 1
        clear hb61 r61a r61b r61c
        go_wp2
        go_ret
        exact ⟨rfl, HB1.out.trans (HB61.out.mono HB1.out.size)⟩
  · clear HGR
    go_wp2_with fail
    refine (HKN.out _ HB58.out).mono ?_
    rintro e w62 ⟨rfl, hb62⟩
    have HB62 := Lib.hid (HB58.out.trans (hb62.mono HB58.out.size))
    obtain ⟨r62a, r62b, r62c⟩ := HR.out _ HB62.out
    have e0 := r62a.cell 0; have e1 := r62a.cell 1; have e2 := r62b.cell 0; have e3 := r62b.cell 1; have e4 := r62c.cell 0; have e5 := r62c.cell 1
    clear hb62 r62a r62b r62c
    go_wp2
    go_ret
    exact ⟨rfl, HB1.out.trans (HB62.out.mono HB1.out.size)⟩

set_option maxRecDepth 100000 in
set_option maxHeartbeats 4000000 in
theorem gaps_ymt (A A2 : Option Addr) (c c2 : Nat) (p : Pl) (r k r2 k2 d : Int) (w : World) (hP : PlAt w w.heap.size A c A2 c2 p) (hfew : fewB p = true) (hv : Vld p) (hs1 : stripB p r k = true) (hs2 : stripB p r2 k2 = true) (hd0 : 0 ≤ d) (hd1 : d < 10000) (hcx : ∀ rn kn rn2 kn2 : Nat, ∀ L L2 : List S, r = rn → k = kn → r2 = rn2 → k2 = kn2 → RlOk p rn L → RlOk p rn2 L2 → sidesB (stripAt rn L kn) (stripAt rn2 L2 kn2) d = true ∧ 0 < gapW (stripAt rn L kn) (stripAt rn2 L2 kn2) ∧ gapW (stripAt rn L kn) (stripAt rn2 L2 kn2) < 5000) :
    Calls Tryz.prog 5 #[.agg #[.slice A p.nodes.length c, .slice A2 p.rails.length c2], .agg #[.int .i64 r, .int .i64 k], .agg #[.int .i64 r2, .int .i64 k2], .int .i64 d] w fun e w' => e = .returned (.bool true) ∧ Below w.heap.size w w' := by
  have hrm := hP.rm; have hrc := hP.rc
  have hb1 := (((Below.refl _ w).alloc (Nat.le_refl _) (.cells #[.slice A p.nodes.length c, .slice A2 p.rails.length c2] 25)).alloc (by simp) (.cells #[.int .i64 r, .int .i64 k] 34)).alloc (by simp; omega) (.cells #[.int .i64 r2, .int .i64 k2] 34)
  obtain ⟨q1, q2, q3⟩ := rows3 w #[.slice A p.nodes.length c, .slice A2 p.rails.length c2] #[.int .i64 r, .int .i64 k] #[.int .i64 r2, .int .i64 k2] 25 34 34
  have hz1 : (((w.alloc (.cells #[.slice A p.nodes.length c, .slice A2 p.rails.length c2] 25)).alloc (.cells #[.int .i64 r, .int .i64 k] 34)).alloc (.cells #[.int .i64 r2, .int .i64 k2] 34)).heap.size = w.heap.size + 3 := by simp
  obtain ⟨W1, hW1⟩ : ∃ z, ((w.alloc (.cells #[.slice A p.nodes.length c, .slice A2 p.rails.length c2] 25)).alloc (.cells #[.int .i64 r, .int .i64 k] 34)).alloc (.cells #[.int .i64 r2, .int .i64 k2] 34) = z := ⟨_, rfl⟩
  rw [hW1] at hb1 q1 q2 q3 hz1
  have HB1 := Lib.hid hb1
  have HB0 := Lib.hid (Below.refl W1.heap.size W1)
  have HR := Lib.hid (show ∀ wx, Below W1.heap.size W1 wx → Rw wx w.heap.size 25 #[.slice A p.nodes.length c, .slice A2 p.rails.length c2] ∧ Rw wx (w.heap.size + 1) 34 #[.int .i64 r, .int .i64 k] ∧ Rw wx (w.heap.size + 1 + 1) 34 #[.int .i64 r2, .int .i64 k2] from fun wx h => ⟨q1.below h (by omega), q2.below h (by omega), q3.below h (by omega)⟩)
  have HPB := Lib.hid (show ∀ wx, Below W1.heap.size W1 wx → PlAt wx wx.heap.size A c A2 c2 p from fun wx h => ((hP.below hb1).below (h.mono hb1.size)).more (Nat.le_trans hb1.size h.size))
  have HKN := Lib.hid (show ∀ wx, Below W1.heap.size W1 wx → Calls Tryz.prog 16 #[] wx fun e w' => e = .returned (.bool true) ∧ Below wx.heap.size wx w' from fun wx _ => known_any wx)
  have e0 := q1.cell 0; have e1 := q1.cell 1; have e2 := q2.cell 0; have e3 := q2.cell 1; have e4 := q3.cell 0; have e5 := q3.cell 1
  have HFW := Lib.hid (show ∀ wx, Below W1.heap.size W1 wx → Calls Tryz.prog 15 #[.agg #[.slice A p.nodes.length c, .slice A2 p.rails.length c2]] wx fun e w' => e = .returned (.bool true) ∧ Below wx.heap.size wx w' from fun wx h => by have := few_any A A2 c c2 p wx (HPB.out wx h); rwa [hfew] at this)
  have HVL := Lib.hid (show ∀ wx, Below W1.heap.size W1 wx → Calls Tryz.prog 19 #[.agg #[.slice A p.nodes.length c, .slice A2 p.rails.length c2]] wx fun e w' => e = .returned (.bool true) ∧ Below wx.heap.size wx w' from fun wx h => (Valid_any A A2 c c2 p wx (HPB.out wx h)).mono (by rintro e w' ⟨⟨b, rfl, hb⟩, h2⟩; rw [hb.2 hv]; exact ⟨rfl, h2⟩))
  have HS1 := Lib.hid (show ∀ wx, Below W1.heap.size W1 wx → Calls Tryz.prog 25 #[.agg #[.slice A p.nodes.length c, .slice A2 p.rails.length c2], .agg #[.int .i64 r, .int .i64 k]] wx fun e w' => e = .returned (.bool true) ∧ Below wx.heap.size wx w' from fun wx h => by have := rStrip_any A A2 c c2 p r k wx (HPB.out wx h) hv; rwa [hs1] at this)
  have HS2 := Lib.hid (show ∀ wx, Below W1.heap.size W1 wx → Calls Tryz.prog 25 #[.agg #[.slice A p.nodes.length c, .slice A2 p.rails.length c2], .agg #[.int .i64 r2, .int .i64 k2]] wx fun e w' => e = .returned (.bool true) ∧ Below wx.heap.size wx w' from fun wx h => by have := rStrip_any A A2 c c2 p r2 k2 wx (HPB.out wx h) hv; rwa [hs2] at this)
  obtain ⟨rn, kn, L, er, ek, hL, hkn⟩ := strip_nat hv hs1
  obtain ⟨rn2, kn2, L2, er2, ek2, hL2, hkn2⟩ := strip_nat hv hs2
  have o1 := stripAt_ok (r := rn) hL.hR hL.hok hkn
  have o2 := stripAt_ok (r := rn2) hL2.hR hL2.hok hkn2
  have ll1 := hL.le; have ll2 := hL2.le
  have hgs := gap_symm o1 o2; have hgl := gap_le o1 o2
  have hgm : 0 < gapW (stripAt rn L kn) (stripAt rn2 L2 kn2) → _ := gap_less o1 o2
  have hgp : gapW (stripAt rn L kn) (stripAt rn2 L2 kn2) < 5000 → _ := gap_more o1 o2
  have hgr : r = r2 → k ≤ k2 + 1 → k2 ≤ k + 1 → gapW (stripAt rn L kn) (stripAt rn2 L2 kn2) = 0 := fun e h1 h2 => by
    obtain rfl : rn = rn2 := by omega
    exact gap_rail hL hL2 hkn hkn2 (by omega) (by omega)
  obtain ⟨x, hx⟩ : ∃ z, sidesB (stripAt rn L kn) (stripAt rn2 L2 kn2) d = z := ⟨_, rfl⟩
  obtain ⟨z, hz⟩ : ∃ z, sidesB (stripAt rn L kn) (stripAt rn2 L2 kn2) (d + 1) = z := ⟨_, rfl⟩
  have hxz : x = true → z = true := fun e => by rw [← hz]; exact sides_mono o1 o2 hd0 (by omega) (hx.trans e)
  obtain ⟨g, hg⟩ : ∃ z, gapW (stripAt rn L kn) (stripAt rn2 L2 kn2) = z := ⟨_, rfl⟩
  rw [hg] at hgl hgm hgp hgr
  obtain ⟨hc1, hc2⟩ := hcx rn kn rn2 kn2 L L2 er ek er2 ek2 hL hL2
  rw [hx] at hc1
  rw [hg] at hc2
  have HX := Lib.hid hx
  subst hc1
  obtain rfl : z = true := hxz rfl
  obtain ⟨hc2, hc3⟩ := hc2
  have HGP := Lib.hid (show ∀ wx, Below W1.heap.size W1 wx → Calls Tryz.prog 24 #[.agg #[.slice A p.nodes.length c, .slice A2 p.rails.length c2], .agg #[.int .i64 r, .int .i64 k], .agg #[.int .i64 r2, .int .i64 k2]] wx fun e w' => e = .returned (.tuple #[.int .i64 (g : Int), .int .i64 0]) ∧ Below wx.heap.size wx w' from fun wx h => by have := Gap_yes A A2 c c2 p rn kn rn2 kn2 L L2 wx (HPB.out wx h) hv hL hkn hL2 hkn2; rw [hg] at this; rw [er, ek, er2, ek2]; exact this)
  have HGQ := Lib.hid (show ∀ wx, Below W1.heap.size W1 wx → Calls Tryz.prog 24 #[.agg #[.slice A p.nodes.length c, .slice A2 p.rails.length c2], .agg #[.int .i64 r2, .int .i64 k2], .agg #[.int .i64 r, .int .i64 k]] wx fun e w' => e = .returned (.tuple #[.int .i64 (g : Int), .int .i64 0]) ∧ Below wx.heap.size wx w' from fun wx h => by have := Gap_yes A A2 c c2 p rn2 kn2 rn kn L2 L wx (HPB.out wx h) hv hL2 hkn2 hL hkn; rw [← hgs, hg] at this; rw [er, ek, er2, ek2]; exact this)
  have HWA := Lib.hid (show ∀ wx, Below W1.heap.size W1 wx → Calls Tryz.prog 23 #[.agg #[.slice A p.nodes.length c, .slice A2 p.rails.length c2], .agg #[.int .i64 r, .int .i64 k], .agg #[.int .i64 r2, .int .i64 k2], .int .i64 (d)] wx fun e w' => e = .returned (.tuple #[.bool true, .int .i64 0]) ∧ Below wx.heap.size wx w' from fun wx h => by have := Within_yes A A2 c c2 p rn kn rn2 kn2 L L2 (d) wx (HPB.out wx h) hv hL hkn hL2 hkn2 (by omega) (by omega); rw [HX.out] at this; rw [er, ek, er2, ek2]; exact this)
  have HWB := Lib.hid (show ∀ wx, Below W1.heap.size W1 wx → Calls Tryz.prog 23 #[.agg #[.slice A p.nodes.length c, .slice A2 p.rails.length c2], .agg #[.int .i64 r2, .int .i64 k2], .agg #[.int .i64 r, .int .i64 k], .int .i64 d] wx fun e w' => e = .returned (.tuple #[.bool true, .int .i64 0]) ∧ Below wx.heap.size wx w' from fun wx h => by have := Within_yes A A2 c c2 p rn2 kn2 rn kn L2 L d wx (HPB.out wx h) hv hL2 hkn2 hL hkn hd0 (by omega); rw [sides_symm, HX.out] at this; rw [er, ek, er2, ek2]; exact this)
  have HWC := Lib.hid (show ∀ wx, Below W1.heap.size W1 wx → Calls Tryz.prog 23 #[.agg #[.slice A p.nodes.length c, .slice A2 p.rails.length c2], .agg #[.int .i64 r, .int .i64 k], .agg #[.int .i64 r2, .int .i64 k2], .int .i64 (d + 1)] wx fun e w' => e = .returned (.tuple #[.bool true, .int .i64 0]) ∧ Below wx.heap.size wx w' from fun wx h => by have := Within_yes A A2 c c2 p rn kn rn2 kn2 L L2 (d + 1) wx (HPB.out wx h) hv hL hkn hL2 hkn2 (by omega) (by omega); rw [hz] at this; rw [er, ek, er2, ek2]; exact this)
  have HWM := Lib.hid (show ∀ wx, Below W1.heap.size W1 wx → Calls Tryz.prog 23 #[.agg #[.slice A p.nodes.length c, .slice A2 p.rails.length c2], .agg #[.int .i64 r, .int .i64 k], .agg #[.int .i64 r2, .int .i64 k2], .int .i64 ((g : Int) - 1)] wx fun e w' => e = .returned (.tuple #[.bool false, .int .i64 0]) ∧ Below wx.heap.size wx w' from fun wx h => by have := Within_yes A A2 c c2 p rn kn rn2 kn2 L L2 ((g : Int) - 1) wx (HPB.out wx h) hv hL hkn hL2 hkn2 (by omega) (by omega); rw [hgm (by omega)] at this; rw [er, ek, er2, ek2]; exact this)
  have HWP := Lib.hid (show ∀ wx, Below W1.heap.size W1 wx → Calls Tryz.prog 23 #[.agg #[.slice A p.nodes.length c, .slice A2 p.rails.length c2], .agg #[.int .i64 r, .int .i64 k], .agg #[.int .i64 r2, .int .i64 k2], .int .i64 ((g : Int) + 1)] wx fun e w' => e = .returned (.tuple #[.bool true, .int .i64 0]) ∧ Below wx.heap.size wx w' from fun wx h => by have := Within_yes A A2 c c2 p rn kn rn2 kn2 L L2 ((g : Int) + 1) wx (HPB.out wx h) hv hL hkn hL2 hkn2 (by omega) (by omega); rw [hgp (by omega)] at this; rw [er, ek, er2, ek2]; exact this)
  have hkb : 0 ≤ k ∧ k ≤ 41 := by omega
  have hkb2 : 0 ≤ k2 ∧ k2 ≤ 41 := by omega
  have HGR := Lib.hid hgr
  have HXZ := Lib.hid hxz
  have hd2 : ¬ d < 0 := by omega
  have hd3 : ¬ 10000 ≤ d := by omega
  have wd : IntKind.i64.wrap (d + 1) = d + 1 := by rw [IntKind.wrap_i64]; omega
  have wk1 : IntKind.i64.wrap (k - k2) = k - k2 := by rw [IntKind.wrap_i64]; omega
  have wk2 : IntKind.i64.wrap (k2 - k) = k2 - k := by rw [IntKind.wrap_i64]; omega
  clear hx HX er ek er2 ek2 hL hL2 hkn hkn2 o1 o2 hg hgs hz ll1 ll2 hgm hgp hgr hxz hcx
  obtain ⟨G, hG⟩ : ∃ z : Int, (g : Int) = z := ⟨_, rfl⟩
  rw [hG] at HGP HGQ HWM HWP
  have hG0 : 0 < G := by omega
  have hG1 : G < 5000 := by omega
  have hG2 : ¬ G < 0 := by omega
  have hG3 : ¬ 5000 < G := by omega
  have hG4 : ¬ G = 0 := by omega
  have wg1 : IntKind.i64.wrap (G - 1) = G - 1 := by rw [IntKind.wrap_i64]; omega
  have wg2 : IntKind.i64.wrap (G + 1) = G + 1 := by rw [IntKind.wrap_i64]; omega
  clear hb1 q1 q2 q3 hz1 hP
  go_enter Tryz.func5, Tryz.ntmps5
  go_wp2_with fail
  refine (HFW.out _ HB0.out).mono ?_
  rintro e w63 ⟨rfl, hb63⟩
  have HB63 := Lib.hid (HB0.out.trans (hb63.mono HB0.out.size))
  obtain ⟨r63a, r63b, r63c⟩ := HR.out _ HB63.out
  have e0 := r63a.cell 0; have e1 := r63a.cell 1; have e2 := r63b.cell 0; have e3 := r63b.cell 1; have e4 := r63c.cell 0; have e5 := r63c.cell 1
  clear hb63 r63a r63b r63c
  clear hW1
  go_wp2_with fail
  refine (HVL.out _ HB63.out).mono ?_
  rintro e w64 ⟨rfl, hb64⟩
  have HB64 := Lib.hid (HB63.out.trans (hb64.mono HB63.out.size))
  obtain ⟨r64a, r64b, r64c⟩ := HR.out _ HB64.out
  have e0 := r64a.cell 0; have e1 := r64a.cell 1; have e2 := r64b.cell 0; have e3 := r64b.cell 1; have e4 := r64c.cell 0; have e5 := r64c.cell 1
  clear hb64 r64a r64b r64c
  go_wp2_with fail
  refine (HS1.out _ HB64.out).mono ?_
  rintro e w65 ⟨rfl, hb65⟩
  have HB65 := Lib.hid (HB64.out.trans (hb65.mono HB64.out.size))
  obtain ⟨r65a, r65b, r65c⟩ := HR.out _ HB65.out
  have e0 := r65a.cell 0; have e1 := r65a.cell 1; have e2 := r65b.cell 0; have e3 := r65b.cell 1; have e4 := r65c.cell 0; have e5 := r65c.cell 1
  clear hb65 r65a r65b r65c
  go_wp2_with fail
  refine (HS2.out _ HB65.out).mono ?_
  rintro e w66 ⟨rfl, hb66⟩
  have HB66 := Lib.hid (HB65.out.trans (hb66.mono HB65.out.size))
  obtain ⟨r66a, r66b, r66c⟩ := HR.out _ HB66.out
  have e0 := r66a.cell 0; have e1 := r66a.cell 1; have e2 := r66b.cell 0; have e3 := r66b.cell 1; have e4 := r66c.cell 0; have e5 := r66c.cell 1
  clear hb66 r66a r66b r66c
  go_wp2_with fail
  refine (HGP.out _ HB66.out).mono ?_
  rintro e w67 ⟨rfl, hb67⟩
  have HB67 := Lib.hid (HB66.out.trans (hb67.mono HB66.out.size))
  obtain ⟨r67a, r67b, r67c⟩ := HR.out _ HB67.out
  have e0 := r67a.cell 0; have e1 := r67a.cell 1; have e2 := r67b.cell 0; have e3 := r67b.cell 1; have e4 := r67c.cell 0; have e5 := r67c.cell 1
  clear hb67 r67a r67b r67c
  go_wp2_with fail
  refine (HGQ.out _ HB67.out).mono ?_
  rintro e w68 ⟨rfl, hb68⟩
  have HB68 := Lib.hid (HB67.out.trans (hb68.mono HB67.out.size))
  obtain ⟨r68a, r68b, r68c⟩ := HR.out _ HB68.out
  have e0 := r68a.cell 0; have e1 := r68a.cell 1; have e2 := r68b.cell 0; have e3 := r68b.cell 1; have e4 := r68c.cell 0; have e5 := r68c.cell 1
  clear hb68 r68a r68b r68c
  go_wp2_with fail
  refine (HWA.out _ HB68.out).mono ?_
  rintro e w69 ⟨rfl, hb69⟩
  have HB69 := Lib.hid (HB68.out.trans (hb69.mono HB68.out.size))
  obtain ⟨r69a, r69b, r69c⟩ := HR.out _ HB69.out
  have e0 := r69a.cell 0; have e1 := r69a.cell 1; have e2 := r69b.cell 0; have e3 := r69b.cell 1; have e4 := r69c.cell 0; have e5 := r69c.cell 1
  clear hb69 r69a r69b r69c
  go_wp2_with fail
  refine (HWB.out _ HB69.out).mono ?_
  rintro e w70 ⟨rfl, hb70⟩
  have HB70 := Lib.hid (HB69.out.trans (hb70.mono HB69.out.size))
  obtain ⟨r70a, r70b, r70c⟩ := HR.out _ HB70.out
  have e0 := r70a.cell 0; have e1 := r70a.cell 1; have e2 := r70b.cell 0; have e3 := r70b.cell 1; have e4 := r70c.cell 0; have e5 := r70c.cell 1
  clear hb70 r70a r70b r70c
  go_wp2_with fail
  refine (HWC.out _ HB70.out).mono ?_
  rintro e w71 ⟨rfl, hb71⟩
  have HB71 := Lib.hid (HB70.out.trans (hb71.mono HB70.out.size))
  obtain ⟨r71a, r71b, r71c⟩ := HR.out _ HB71.out
  have e0 := r71a.cell 0; have e1 := r71a.cell 1; have e2 := r71b.cell 0; have e3 := r71b.cell 1; have e4 := r71c.cell 0; have e5 := r71c.cell 1
  clear hb71 r71a r71b r71c
  go_wp2_with fail
  refine (HWM.out _ HB71.out).mono ?_
  rintro e w72 ⟨rfl, hb72⟩
  have HB72 := Lib.hid (HB71.out.trans (hb72.mono HB71.out.size))
  obtain ⟨r72a, r72b, r72c⟩ := HR.out _ HB72.out
  have e0 := r72a.cell 0; have e1 := r72a.cell 1; have e2 := r72b.cell 0; have e3 := r72b.cell 1; have e4 := r72c.cell 0; have e5 := r72c.cell 1
  clear hb72 r72a r72b r72c
  go_wp2_with fail
  refine (HWP.out _ HB72.out).mono ?_
  rintro e w73 ⟨rfl, hb73⟩
  have HB73 := Lib.hid (HB72.out.trans (hb73.mono HB72.out.size))
  obtain ⟨r73a, r73b, r73c⟩ := HR.out _ HB73.out
  have e0 := r73a.cell 0; have e1 := r73a.cell 1; have e2 := r73b.cell 0; have e3 := r73b.cell 1; have e4 := r73c.cell 0; have e5 := r73c.cell 1
  clear hb73 r73a r73b r73c
  by_cases hrr : r = r2
  · subst hrr
    by_cases hk1 : 1 < k - k2
    · clear HGR
      go_wp2_with fail
      refine (HKN.out _ HB73.out).mono ?_
      rintro e w74 ⟨rfl, hb74⟩
      have HB74 := Lib.hid (HB73.out.trans (hb74.mono HB73.out.size))
      obtain ⟨r74a, r74b, r74c⟩ := HR.out _ HB74.out
      have e0 := r74a.cell 0; have e1 := r74a.cell 1; have e2 := r74b.cell 0; have e3 := r74b.cell 1; have e4 := r74c.cell 0; have e5 := r74c.cell 1
      clear hb74 r74a r74b r74c
      go_wp2
      go_ret
      exact ⟨rfl, HB1.out.trans (HB74.out.mono HB1.out.size)⟩
    · by_cases hk2 : 1 < k2 - k
      · clear HGR
        go_wp2_with fail
        refine (HKN.out _ HB73.out).mono ?_
        rintro e w75 ⟨rfl, hb75⟩
        have HB75 := Lib.hid (HB73.out.trans (hb75.mono HB73.out.size))
        obtain ⟨r75a, r75b, r75c⟩ := HR.out _ HB75.out
        have e0 := r75a.cell 0; have e1 := r75a.cell 1; have e2 := r75b.cell 0; have e3 := r75b.cell 1; have e4 := r75c.cell 0; have e5 := r75c.cell 1
        clear hb75 r75a r75b r75c
        go_wp2
        go_ret
        exact ⟨rfl, HB1.out.trans (HB75.out.mono HB1.out.size)⟩
      · exact absurd (HGR.out rfl (by omega) (by omega)) (by omega)
  · clear HGR
    go_wp2_with fail
    refine (HKN.out _ HB73.out).mono ?_
    rintro e w76 ⟨rfl, hb76⟩
    have HB76 := Lib.hid (HB73.out.trans (hb76.mono HB73.out.size))
    obtain ⟨r76a, r76b, r76c⟩ := HR.out _ HB76.out
    have e0 := r76a.cell 0; have e1 := r76a.cell 1; have e2 := r76b.cell 0; have e3 := r76b.cell 1; have e4 := r76c.cell 0; have e5 := r76c.cell 1
    clear hb76 r76a r76b r76c
    go_wp2
    go_ret
    exact ⟨rfl, HB1.out.trans (HB76.out.mono HB1.out.size)⟩

set_option maxRecDepth 100000 in
set_option maxHeartbeats 4000000 in
theorem gaps_ymf (A A2 : Option Addr) (c c2 : Nat) (p : Pl) (r k r2 k2 d : Int) (w : World) (hP : PlAt w w.heap.size A c A2 c2 p) (hfew : fewB p = true) (hv : Vld p) (hs1 : stripB p r k = true) (hs2 : stripB p r2 k2 = true) (hd0 : 0 ≤ d) (hd1 : d < 10000) (hcx : ∀ rn kn rn2 kn2 : Nat, ∀ L L2 : List S, r = rn → k = kn → r2 = rn2 → k2 = kn2 → RlOk p rn L → RlOk p rn2 L2 → sidesB (stripAt rn L kn) (stripAt rn2 L2 kn2) d = false ∧ 0 < gapW (stripAt rn L kn) (stripAt rn2 L2 kn2) ∧ gapW (stripAt rn L kn) (stripAt rn2 L2 kn2) < 5000) :
    Calls Tryz.prog 5 #[.agg #[.slice A p.nodes.length c, .slice A2 p.rails.length c2], .agg #[.int .i64 r, .int .i64 k], .agg #[.int .i64 r2, .int .i64 k2], .int .i64 d] w fun e w' => e = .returned (.bool true) ∧ Below w.heap.size w w' := by
  have hrm := hP.rm; have hrc := hP.rc
  have hb1 := (((Below.refl _ w).alloc (Nat.le_refl _) (.cells #[.slice A p.nodes.length c, .slice A2 p.rails.length c2] 25)).alloc (by simp) (.cells #[.int .i64 r, .int .i64 k] 34)).alloc (by simp; omega) (.cells #[.int .i64 r2, .int .i64 k2] 34)
  obtain ⟨q1, q2, q3⟩ := rows3 w #[.slice A p.nodes.length c, .slice A2 p.rails.length c2] #[.int .i64 r, .int .i64 k] #[.int .i64 r2, .int .i64 k2] 25 34 34
  have hz1 : (((w.alloc (.cells #[.slice A p.nodes.length c, .slice A2 p.rails.length c2] 25)).alloc (.cells #[.int .i64 r, .int .i64 k] 34)).alloc (.cells #[.int .i64 r2, .int .i64 k2] 34)).heap.size = w.heap.size + 3 := by simp
  obtain ⟨W1, hW1⟩ : ∃ z, ((w.alloc (.cells #[.slice A p.nodes.length c, .slice A2 p.rails.length c2] 25)).alloc (.cells #[.int .i64 r, .int .i64 k] 34)).alloc (.cells #[.int .i64 r2, .int .i64 k2] 34) = z := ⟨_, rfl⟩
  rw [hW1] at hb1 q1 q2 q3 hz1
  have HB1 := Lib.hid hb1
  have HB0 := Lib.hid (Below.refl W1.heap.size W1)
  have HR := Lib.hid (show ∀ wx, Below W1.heap.size W1 wx → Rw wx w.heap.size 25 #[.slice A p.nodes.length c, .slice A2 p.rails.length c2] ∧ Rw wx (w.heap.size + 1) 34 #[.int .i64 r, .int .i64 k] ∧ Rw wx (w.heap.size + 1 + 1) 34 #[.int .i64 r2, .int .i64 k2] from fun wx h => ⟨q1.below h (by omega), q2.below h (by omega), q3.below h (by omega)⟩)
  have HPB := Lib.hid (show ∀ wx, Below W1.heap.size W1 wx → PlAt wx wx.heap.size A c A2 c2 p from fun wx h => ((hP.below hb1).below (h.mono hb1.size)).more (Nat.le_trans hb1.size h.size))
  have HKN := Lib.hid (show ∀ wx, Below W1.heap.size W1 wx → Calls Tryz.prog 16 #[] wx fun e w' => e = .returned (.bool true) ∧ Below wx.heap.size wx w' from fun wx _ => known_any wx)
  have e0 := q1.cell 0; have e1 := q1.cell 1; have e2 := q2.cell 0; have e3 := q2.cell 1; have e4 := q3.cell 0; have e5 := q3.cell 1
  have HFW := Lib.hid (show ∀ wx, Below W1.heap.size W1 wx → Calls Tryz.prog 15 #[.agg #[.slice A p.nodes.length c, .slice A2 p.rails.length c2]] wx fun e w' => e = .returned (.bool true) ∧ Below wx.heap.size wx w' from fun wx h => by have := few_any A A2 c c2 p wx (HPB.out wx h); rwa [hfew] at this)
  have HVL := Lib.hid (show ∀ wx, Below W1.heap.size W1 wx → Calls Tryz.prog 19 #[.agg #[.slice A p.nodes.length c, .slice A2 p.rails.length c2]] wx fun e w' => e = .returned (.bool true) ∧ Below wx.heap.size wx w' from fun wx h => (Valid_any A A2 c c2 p wx (HPB.out wx h)).mono (by rintro e w' ⟨⟨b, rfl, hb⟩, h2⟩; rw [hb.2 hv]; exact ⟨rfl, h2⟩))
  have HS1 := Lib.hid (show ∀ wx, Below W1.heap.size W1 wx → Calls Tryz.prog 25 #[.agg #[.slice A p.nodes.length c, .slice A2 p.rails.length c2], .agg #[.int .i64 r, .int .i64 k]] wx fun e w' => e = .returned (.bool true) ∧ Below wx.heap.size wx w' from fun wx h => by have := rStrip_any A A2 c c2 p r k wx (HPB.out wx h) hv; rwa [hs1] at this)
  have HS2 := Lib.hid (show ∀ wx, Below W1.heap.size W1 wx → Calls Tryz.prog 25 #[.agg #[.slice A p.nodes.length c, .slice A2 p.rails.length c2], .agg #[.int .i64 r2, .int .i64 k2]] wx fun e w' => e = .returned (.bool true) ∧ Below wx.heap.size wx w' from fun wx h => by have := rStrip_any A A2 c c2 p r2 k2 wx (HPB.out wx h) hv; rwa [hs2] at this)
  obtain ⟨rn, kn, L, er, ek, hL, hkn⟩ := strip_nat hv hs1
  obtain ⟨rn2, kn2, L2, er2, ek2, hL2, hkn2⟩ := strip_nat hv hs2
  have o1 := stripAt_ok (r := rn) hL.hR hL.hok hkn
  have o2 := stripAt_ok (r := rn2) hL2.hR hL2.hok hkn2
  have ll1 := hL.le; have ll2 := hL2.le
  have hgs := gap_symm o1 o2; have hgl := gap_le o1 o2
  have hgm : 0 < gapW (stripAt rn L kn) (stripAt rn2 L2 kn2) → _ := gap_less o1 o2
  have hgp : gapW (stripAt rn L kn) (stripAt rn2 L2 kn2) < 5000 → _ := gap_more o1 o2
  have hgr : r = r2 → k ≤ k2 + 1 → k2 ≤ k + 1 → gapW (stripAt rn L kn) (stripAt rn2 L2 kn2) = 0 := fun e h1 h2 => by
    obtain rfl : rn = rn2 := by omega
    exact gap_rail hL hL2 hkn hkn2 (by omega) (by omega)
  obtain ⟨x, hx⟩ : ∃ z, sidesB (stripAt rn L kn) (stripAt rn2 L2 kn2) d = z := ⟨_, rfl⟩
  obtain ⟨z, hz⟩ : ∃ z, sidesB (stripAt rn L kn) (stripAt rn2 L2 kn2) (d + 1) = z := ⟨_, rfl⟩
  have hxz : x = true → z = true := fun e => by rw [← hz]; exact sides_mono o1 o2 hd0 (by omega) (hx.trans e)
  obtain ⟨g, hg⟩ : ∃ z, gapW (stripAt rn L kn) (stripAt rn2 L2 kn2) = z := ⟨_, rfl⟩
  rw [hg] at hgl hgm hgp hgr
  obtain ⟨hc1, hc2⟩ := hcx rn kn rn2 kn2 L L2 er ek er2 ek2 hL hL2
  rw [hx] at hc1
  rw [hg] at hc2
  have HX := Lib.hid hx
  subst hc1
  obtain ⟨hc2, hc3⟩ := hc2
  have HGP := Lib.hid (show ∀ wx, Below W1.heap.size W1 wx → Calls Tryz.prog 24 #[.agg #[.slice A p.nodes.length c, .slice A2 p.rails.length c2], .agg #[.int .i64 r, .int .i64 k], .agg #[.int .i64 r2, .int .i64 k2]] wx fun e w' => e = .returned (.tuple #[.int .i64 (g : Int), .int .i64 0]) ∧ Below wx.heap.size wx w' from fun wx h => by have := Gap_yes A A2 c c2 p rn kn rn2 kn2 L L2 wx (HPB.out wx h) hv hL hkn hL2 hkn2; rw [hg] at this; rw [er, ek, er2, ek2]; exact this)
  have HGQ := Lib.hid (show ∀ wx, Below W1.heap.size W1 wx → Calls Tryz.prog 24 #[.agg #[.slice A p.nodes.length c, .slice A2 p.rails.length c2], .agg #[.int .i64 r2, .int .i64 k2], .agg #[.int .i64 r, .int .i64 k]] wx fun e w' => e = .returned (.tuple #[.int .i64 (g : Int), .int .i64 0]) ∧ Below wx.heap.size wx w' from fun wx h => by have := Gap_yes A A2 c c2 p rn2 kn2 rn kn L2 L wx (HPB.out wx h) hv hL2 hkn2 hL hkn; rw [← hgs, hg] at this; rw [er, ek, er2, ek2]; exact this)
  have HWA := Lib.hid (show ∀ wx, Below W1.heap.size W1 wx → Calls Tryz.prog 23 #[.agg #[.slice A p.nodes.length c, .slice A2 p.rails.length c2], .agg #[.int .i64 r, .int .i64 k], .agg #[.int .i64 r2, .int .i64 k2], .int .i64 (d)] wx fun e w' => e = .returned (.tuple #[.bool false, .int .i64 0]) ∧ Below wx.heap.size wx w' from fun wx h => by have := Within_yes A A2 c c2 p rn kn rn2 kn2 L L2 (d) wx (HPB.out wx h) hv hL hkn hL2 hkn2 (by omega) (by omega); rw [HX.out] at this; rw [er, ek, er2, ek2]; exact this)
  have HWB := Lib.hid (show ∀ wx, Below W1.heap.size W1 wx → Calls Tryz.prog 23 #[.agg #[.slice A p.nodes.length c, .slice A2 p.rails.length c2], .agg #[.int .i64 r2, .int .i64 k2], .agg #[.int .i64 r, .int .i64 k], .int .i64 d] wx fun e w' => e = .returned (.tuple #[.bool false, .int .i64 0]) ∧ Below wx.heap.size wx w' from fun wx h => by have := Within_yes A A2 c c2 p rn2 kn2 rn kn L2 L d wx (HPB.out wx h) hv hL2 hkn2 hL hkn hd0 (by omega); rw [sides_symm, HX.out] at this; rw [er, ek, er2, ek2]; exact this)
  have HWC := Lib.hid (show ∀ wx, Below W1.heap.size W1 wx → Calls Tryz.prog 23 #[.agg #[.slice A p.nodes.length c, .slice A2 p.rails.length c2], .agg #[.int .i64 r, .int .i64 k], .agg #[.int .i64 r2, .int .i64 k2], .int .i64 (d + 1)] wx fun e w' => e = .returned (.tuple #[.bool z, .int .i64 0]) ∧ Below wx.heap.size wx w' from fun wx h => by have := Within_yes A A2 c c2 p rn kn rn2 kn2 L L2 (d + 1) wx (HPB.out wx h) hv hL hkn hL2 hkn2 (by omega) (by omega); rw [hz] at this; rw [er, ek, er2, ek2]; exact this)
  have HWM := Lib.hid (show ∀ wx, Below W1.heap.size W1 wx → Calls Tryz.prog 23 #[.agg #[.slice A p.nodes.length c, .slice A2 p.rails.length c2], .agg #[.int .i64 r, .int .i64 k], .agg #[.int .i64 r2, .int .i64 k2], .int .i64 ((g : Int) - 1)] wx fun e w' => e = .returned (.tuple #[.bool false, .int .i64 0]) ∧ Below wx.heap.size wx w' from fun wx h => by have := Within_yes A A2 c c2 p rn kn rn2 kn2 L L2 ((g : Int) - 1) wx (HPB.out wx h) hv hL hkn hL2 hkn2 (by omega) (by omega); rw [hgm (by omega)] at this; rw [er, ek, er2, ek2]; exact this)
  have HWP := Lib.hid (show ∀ wx, Below W1.heap.size W1 wx → Calls Tryz.prog 23 #[.agg #[.slice A p.nodes.length c, .slice A2 p.rails.length c2], .agg #[.int .i64 r, .int .i64 k], .agg #[.int .i64 r2, .int .i64 k2], .int .i64 ((g : Int) + 1)] wx fun e w' => e = .returned (.tuple #[.bool true, .int .i64 0]) ∧ Below wx.heap.size wx w' from fun wx h => by have := Within_yes A A2 c c2 p rn kn rn2 kn2 L L2 ((g : Int) + 1) wx (HPB.out wx h) hv hL hkn hL2 hkn2 (by omega) (by omega); rw [hgp (by omega)] at this; rw [er, ek, er2, ek2]; exact this)
  have hkb : 0 ≤ k ∧ k ≤ 41 := by omega
  have hkb2 : 0 ≤ k2 ∧ k2 ≤ 41 := by omega
  have HGR := Lib.hid hgr
  have HXZ := Lib.hid hxz
  have hd2 : ¬ d < 0 := by omega
  have hd3 : ¬ 10000 ≤ d := by omega
  have wd : IntKind.i64.wrap (d + 1) = d + 1 := by rw [IntKind.wrap_i64]; omega
  have wk1 : IntKind.i64.wrap (k - k2) = k - k2 := by rw [IntKind.wrap_i64]; omega
  have wk2 : IntKind.i64.wrap (k2 - k) = k2 - k := by rw [IntKind.wrap_i64]; omega
  clear hx HX er ek er2 ek2 hL hL2 hkn hkn2 o1 o2 hg hgs hz ll1 ll2 hgm hgp hgr hxz hcx
  obtain ⟨G, hG⟩ : ∃ z : Int, (g : Int) = z := ⟨_, rfl⟩
  rw [hG] at HGP HGQ HWM HWP
  have hG0 : 0 < G := by omega
  have hG1 : G < 5000 := by omega
  have hG2 : ¬ G < 0 := by omega
  have hG3 : ¬ 5000 < G := by omega
  have hG4 : ¬ G = 0 := by omega
  have wg1 : IntKind.i64.wrap (G - 1) = G - 1 := by rw [IntKind.wrap_i64]; omega
  have wg2 : IntKind.i64.wrap (G + 1) = G + 1 := by rw [IntKind.wrap_i64]; omega
  clear hb1 q1 q2 q3 hz1 hP
  go_enter Tryz.func5, Tryz.ntmps5
  go_wp2_with fail
  refine (HFW.out _ HB0.out).mono ?_
  rintro e w77 ⟨rfl, hb77⟩
  have HB77 := Lib.hid (HB0.out.trans (hb77.mono HB0.out.size))
  obtain ⟨r77a, r77b, r77c⟩ := HR.out _ HB77.out
  have e0 := r77a.cell 0; have e1 := r77a.cell 1; have e2 := r77b.cell 0; have e3 := r77b.cell 1; have e4 := r77c.cell 0; have e5 := r77c.cell 1
  clear hb77 r77a r77b r77c
  clear hW1
  go_wp2_with fail
  refine (HVL.out _ HB77.out).mono ?_
  rintro e w78 ⟨rfl, hb78⟩
  have HB78 := Lib.hid (HB77.out.trans (hb78.mono HB77.out.size))
  obtain ⟨r78a, r78b, r78c⟩ := HR.out _ HB78.out
  have e0 := r78a.cell 0; have e1 := r78a.cell 1; have e2 := r78b.cell 0; have e3 := r78b.cell 1; have e4 := r78c.cell 0; have e5 := r78c.cell 1
  clear hb78 r78a r78b r78c
  go_wp2_with fail
  refine (HS1.out _ HB78.out).mono ?_
  rintro e w79 ⟨rfl, hb79⟩
  have HB79 := Lib.hid (HB78.out.trans (hb79.mono HB78.out.size))
  obtain ⟨r79a, r79b, r79c⟩ := HR.out _ HB79.out
  have e0 := r79a.cell 0; have e1 := r79a.cell 1; have e2 := r79b.cell 0; have e3 := r79b.cell 1; have e4 := r79c.cell 0; have e5 := r79c.cell 1
  clear hb79 r79a r79b r79c
  go_wp2_with fail
  refine (HS2.out _ HB79.out).mono ?_
  rintro e w80 ⟨rfl, hb80⟩
  have HB80 := Lib.hid (HB79.out.trans (hb80.mono HB79.out.size))
  obtain ⟨r80a, r80b, r80c⟩ := HR.out _ HB80.out
  have e0 := r80a.cell 0; have e1 := r80a.cell 1; have e2 := r80b.cell 0; have e3 := r80b.cell 1; have e4 := r80c.cell 0; have e5 := r80c.cell 1
  clear hb80 r80a r80b r80c
  go_wp2_with fail
  refine (HGP.out _ HB80.out).mono ?_
  rintro e w81 ⟨rfl, hb81⟩
  have HB81 := Lib.hid (HB80.out.trans (hb81.mono HB80.out.size))
  obtain ⟨r81a, r81b, r81c⟩ := HR.out _ HB81.out
  have e0 := r81a.cell 0; have e1 := r81a.cell 1; have e2 := r81b.cell 0; have e3 := r81b.cell 1; have e4 := r81c.cell 0; have e5 := r81c.cell 1
  clear hb81 r81a r81b r81c
  go_wp2_with fail
  refine (HGQ.out _ HB81.out).mono ?_
  rintro e w82 ⟨rfl, hb82⟩
  have HB82 := Lib.hid (HB81.out.trans (hb82.mono HB81.out.size))
  obtain ⟨r82a, r82b, r82c⟩ := HR.out _ HB82.out
  have e0 := r82a.cell 0; have e1 := r82a.cell 1; have e2 := r82b.cell 0; have e3 := r82b.cell 1; have e4 := r82c.cell 0; have e5 := r82c.cell 1
  clear hb82 r82a r82b r82c
  go_wp2_with fail
  refine (HWA.out _ HB82.out).mono ?_
  rintro e w83 ⟨rfl, hb83⟩
  have HB83 := Lib.hid (HB82.out.trans (hb83.mono HB82.out.size))
  obtain ⟨r83a, r83b, r83c⟩ := HR.out _ HB83.out
  have e0 := r83a.cell 0; have e1 := r83a.cell 1; have e2 := r83b.cell 0; have e3 := r83b.cell 1; have e4 := r83c.cell 0; have e5 := r83c.cell 1
  clear hb83 r83a r83b r83c
  go_wp2_with fail
  refine (HWB.out _ HB83.out).mono ?_
  rintro e w84 ⟨rfl, hb84⟩
  have HB84 := Lib.hid (HB83.out.trans (hb84.mono HB83.out.size))
  obtain ⟨r84a, r84b, r84c⟩ := HR.out _ HB84.out
  have e0 := r84a.cell 0; have e1 := r84a.cell 1; have e2 := r84b.cell 0; have e3 := r84b.cell 1; have e4 := r84c.cell 0; have e5 := r84c.cell 1
  clear hb84 r84a r84b r84c
  go_wp2_with fail
  refine (HWC.out _ HB84.out).mono ?_
  rintro e w85 ⟨rfl, hb85⟩
  have HB85 := Lib.hid (HB84.out.trans (hb85.mono HB84.out.size))
  obtain ⟨r85a, r85b, r85c⟩ := HR.out _ HB85.out
  have e0 := r85a.cell 0; have e1 := r85a.cell 1; have e2 := r85b.cell 0; have e3 := r85b.cell 1; have e4 := r85c.cell 0; have e5 := r85c.cell 1
  clear hb85 r85a r85b r85c
  go_wp2_with fail
  refine (HWM.out _ HB85.out).mono ?_
  rintro e w86 ⟨rfl, hb86⟩
  have HB86 := Lib.hid (HB85.out.trans (hb86.mono HB85.out.size))
  obtain ⟨r86a, r86b, r86c⟩ := HR.out _ HB86.out
  have e0 := r86a.cell 0; have e1 := r86a.cell 1; have e2 := r86b.cell 0; have e3 := r86b.cell 1; have e4 := r86c.cell 0; have e5 := r86c.cell 1
  clear hb86 r86a r86b r86c
  go_wp2_with fail
  refine (HWP.out _ HB86.out).mono ?_
  rintro e w87 ⟨rfl, hb87⟩
  have HB87 := Lib.hid (HB86.out.trans (hb87.mono HB86.out.size))
  obtain ⟨r87a, r87b, r87c⟩ := HR.out _ HB87.out
  have e0 := r87a.cell 0; have e1 := r87a.cell 1; have e2 := r87b.cell 0; have e3 := r87b.cell 1; have e4 := r87c.cell 0; have e5 := r87c.cell 1
  clear hb87 r87a r87b r87c
  by_cases hrr : r = r2
  · subst hrr
    by_cases hk1 : 1 < k - k2
    · clear HGR
      go_wp2_with fail
      refine (HKN.out _ HB87.out).mono ?_
      rintro e w88 ⟨rfl, hb88⟩
      have HB88 := Lib.hid (HB87.out.trans (hb88.mono HB87.out.size))
      obtain ⟨r88a, r88b, r88c⟩ := HR.out _ HB88.out
      have e0 := r88a.cell 0; have e1 := r88a.cell 1; have e2 := r88b.cell 0; have e3 := r88b.cell 1; have e4 := r88c.cell 0; have e5 := r88c.cell 1
      clear hb88 r88a r88b r88c
      go_wp2
      go_ret
      exact ⟨rfl, HB1.out.trans (HB88.out.mono HB1.out.size)⟩
    · by_cases hk2 : 1 < k2 - k
      · clear HGR
        go_wp2_with fail
        refine (HKN.out _ HB87.out).mono ?_
        rintro e w89 ⟨rfl, hb89⟩
        have HB89 := Lib.hid (HB87.out.trans (hb89.mono HB87.out.size))
        obtain ⟨r89a, r89b, r89c⟩ := HR.out _ HB89.out
        have e0 := r89a.cell 0; have e1 := r89a.cell 1; have e2 := r89b.cell 0; have e3 := r89b.cell 1; have e4 := r89c.cell 0; have e5 := r89c.cell 1
        clear hb89 r89a r89b r89c
        go_wp2
        go_ret
        exact ⟨rfl, HB1.out.trans (HB89.out.mono HB1.out.size)⟩
      · exact absurd (HGR.out rfl (by omega) (by omega)) (by omega)
  · clear HGR
    go_wp2_with fail
    refine (HKN.out _ HB87.out).mono ?_
    rintro e w90 ⟨rfl, hb90⟩
    have HB90 := Lib.hid (HB87.out.trans (hb90.mono HB87.out.size))
    obtain ⟨r90a, r90b, r90c⟩ := HR.out _ HB90.out
    have e0 := r90a.cell 0; have e1 := r90a.cell 1; have e2 := r90b.cell 0; have e3 := r90b.cell 1; have e4 := r90c.cell 0; have e5 := r90c.cell 1
    clear hb90 r90a r90b r90c
    go_wp2
    go_ret
    exact ⟨rfl, HB1.out.trans (HB90.out.mono HB1.out.size)⟩

set_option maxRecDepth 100000 in
set_option maxHeartbeats 4000000 in
theorem gaps_y5t (A A2 : Option Addr) (c c2 : Nat) (p : Pl) (r k r2 k2 d : Int) (w : World) (hP : PlAt w w.heap.size A c A2 c2 p) (hfew : fewB p = true) (hv : Vld p) (hs1 : stripB p r k = true) (hs2 : stripB p r2 k2 = true) (hd0 : 0 ≤ d) (hd1 : d < 10000) (hcx : ∀ rn kn rn2 kn2 : Nat, ∀ L L2 : List S, r = rn → k = kn → r2 = rn2 → k2 = kn2 → RlOk p rn L → RlOk p rn2 L2 → sidesB (stripAt rn L kn) (stripAt rn2 L2 kn2) d = true ∧ gapW (stripAt rn L kn) (stripAt rn2 L2 kn2) = 5000) :
    Calls Tryz.prog 5 #[.agg #[.slice A p.nodes.length c, .slice A2 p.rails.length c2], .agg #[.int .i64 r, .int .i64 k], .agg #[.int .i64 r2, .int .i64 k2], .int .i64 d] w fun e w' => e = .returned (.bool true) ∧ Below w.heap.size w w' := by
  have hrm := hP.rm; have hrc := hP.rc
  have hb1 := (((Below.refl _ w).alloc (Nat.le_refl _) (.cells #[.slice A p.nodes.length c, .slice A2 p.rails.length c2] 25)).alloc (by simp) (.cells #[.int .i64 r, .int .i64 k] 34)).alloc (by simp; omega) (.cells #[.int .i64 r2, .int .i64 k2] 34)
  obtain ⟨q1, q2, q3⟩ := rows3 w #[.slice A p.nodes.length c, .slice A2 p.rails.length c2] #[.int .i64 r, .int .i64 k] #[.int .i64 r2, .int .i64 k2] 25 34 34
  have hz1 : (((w.alloc (.cells #[.slice A p.nodes.length c, .slice A2 p.rails.length c2] 25)).alloc (.cells #[.int .i64 r, .int .i64 k] 34)).alloc (.cells #[.int .i64 r2, .int .i64 k2] 34)).heap.size = w.heap.size + 3 := by simp
  obtain ⟨W1, hW1⟩ : ∃ z, ((w.alloc (.cells #[.slice A p.nodes.length c, .slice A2 p.rails.length c2] 25)).alloc (.cells #[.int .i64 r, .int .i64 k] 34)).alloc (.cells #[.int .i64 r2, .int .i64 k2] 34) = z := ⟨_, rfl⟩
  rw [hW1] at hb1 q1 q2 q3 hz1
  have HB1 := Lib.hid hb1
  have HB0 := Lib.hid (Below.refl W1.heap.size W1)
  have HR := Lib.hid (show ∀ wx, Below W1.heap.size W1 wx → Rw wx w.heap.size 25 #[.slice A p.nodes.length c, .slice A2 p.rails.length c2] ∧ Rw wx (w.heap.size + 1) 34 #[.int .i64 r, .int .i64 k] ∧ Rw wx (w.heap.size + 1 + 1) 34 #[.int .i64 r2, .int .i64 k2] from fun wx h => ⟨q1.below h (by omega), q2.below h (by omega), q3.below h (by omega)⟩)
  have HPB := Lib.hid (show ∀ wx, Below W1.heap.size W1 wx → PlAt wx wx.heap.size A c A2 c2 p from fun wx h => ((hP.below hb1).below (h.mono hb1.size)).more (Nat.le_trans hb1.size h.size))
  have HKN := Lib.hid (show ∀ wx, Below W1.heap.size W1 wx → Calls Tryz.prog 16 #[] wx fun e w' => e = .returned (.bool true) ∧ Below wx.heap.size wx w' from fun wx _ => known_any wx)
  have e0 := q1.cell 0; have e1 := q1.cell 1; have e2 := q2.cell 0; have e3 := q2.cell 1; have e4 := q3.cell 0; have e5 := q3.cell 1
  have HFW := Lib.hid (show ∀ wx, Below W1.heap.size W1 wx → Calls Tryz.prog 15 #[.agg #[.slice A p.nodes.length c, .slice A2 p.rails.length c2]] wx fun e w' => e = .returned (.bool true) ∧ Below wx.heap.size wx w' from fun wx h => by have := few_any A A2 c c2 p wx (HPB.out wx h); rwa [hfew] at this)
  have HVL := Lib.hid (show ∀ wx, Below W1.heap.size W1 wx → Calls Tryz.prog 19 #[.agg #[.slice A p.nodes.length c, .slice A2 p.rails.length c2]] wx fun e w' => e = .returned (.bool true) ∧ Below wx.heap.size wx w' from fun wx h => (Valid_any A A2 c c2 p wx (HPB.out wx h)).mono (by rintro e w' ⟨⟨b, rfl, hb⟩, h2⟩; rw [hb.2 hv]; exact ⟨rfl, h2⟩))
  have HS1 := Lib.hid (show ∀ wx, Below W1.heap.size W1 wx → Calls Tryz.prog 25 #[.agg #[.slice A p.nodes.length c, .slice A2 p.rails.length c2], .agg #[.int .i64 r, .int .i64 k]] wx fun e w' => e = .returned (.bool true) ∧ Below wx.heap.size wx w' from fun wx h => by have := rStrip_any A A2 c c2 p r k wx (HPB.out wx h) hv; rwa [hs1] at this)
  have HS2 := Lib.hid (show ∀ wx, Below W1.heap.size W1 wx → Calls Tryz.prog 25 #[.agg #[.slice A p.nodes.length c, .slice A2 p.rails.length c2], .agg #[.int .i64 r2, .int .i64 k2]] wx fun e w' => e = .returned (.bool true) ∧ Below wx.heap.size wx w' from fun wx h => by have := rStrip_any A A2 c c2 p r2 k2 wx (HPB.out wx h) hv; rwa [hs2] at this)
  obtain ⟨rn, kn, L, er, ek, hL, hkn⟩ := strip_nat hv hs1
  obtain ⟨rn2, kn2, L2, er2, ek2, hL2, hkn2⟩ := strip_nat hv hs2
  have o1 := stripAt_ok (r := rn) hL.hR hL.hok hkn
  have o2 := stripAt_ok (r := rn2) hL2.hR hL2.hok hkn2
  have ll1 := hL.le; have ll2 := hL2.le
  have hgs := gap_symm o1 o2; have hgl := gap_le o1 o2
  have hgm : 0 < gapW (stripAt rn L kn) (stripAt rn2 L2 kn2) → _ := gap_less o1 o2
  have hgp : gapW (stripAt rn L kn) (stripAt rn2 L2 kn2) < 5000 → _ := gap_more o1 o2
  have hgr : r = r2 → k ≤ k2 + 1 → k2 ≤ k + 1 → gapW (stripAt rn L kn) (stripAt rn2 L2 kn2) = 0 := fun e h1 h2 => by
    obtain rfl : rn = rn2 := by omega
    exact gap_rail hL hL2 hkn hkn2 (by omega) (by omega)
  obtain ⟨x, hx⟩ : ∃ z, sidesB (stripAt rn L kn) (stripAt rn2 L2 kn2) d = z := ⟨_, rfl⟩
  obtain ⟨z, hz⟩ : ∃ z, sidesB (stripAt rn L kn) (stripAt rn2 L2 kn2) (d + 1) = z := ⟨_, rfl⟩
  have hxz : x = true → z = true := fun e => by rw [← hz]; exact sides_mono o1 o2 hd0 (by omega) (hx.trans e)
  obtain ⟨g, hg⟩ : ∃ z, gapW (stripAt rn L kn) (stripAt rn2 L2 kn2) = z := ⟨_, rfl⟩
  rw [hg] at hgl hgm hgp hgr
  obtain ⟨hc1, hc2⟩ := hcx rn kn rn2 kn2 L L2 er ek er2 ek2 hL hL2
  rw [hx] at hc1
  rw [hg] at hc2
  have HX := Lib.hid hx
  subst hc1
  obtain rfl : z = true := hxz rfl
  have HGP := Lib.hid (show ∀ wx, Below W1.heap.size W1 wx → Calls Tryz.prog 24 #[.agg #[.slice A p.nodes.length c, .slice A2 p.rails.length c2], .agg #[.int .i64 r, .int .i64 k], .agg #[.int .i64 r2, .int .i64 k2]] wx fun e w' => e = .returned (.tuple #[.int .i64 (g : Int), .int .i64 0]) ∧ Below wx.heap.size wx w' from fun wx h => by have := Gap_yes A A2 c c2 p rn kn rn2 kn2 L L2 wx (HPB.out wx h) hv hL hkn hL2 hkn2; rw [hg] at this; rw [er, ek, er2, ek2]; exact this)
  have HGQ := Lib.hid (show ∀ wx, Below W1.heap.size W1 wx → Calls Tryz.prog 24 #[.agg #[.slice A p.nodes.length c, .slice A2 p.rails.length c2], .agg #[.int .i64 r2, .int .i64 k2], .agg #[.int .i64 r, .int .i64 k]] wx fun e w' => e = .returned (.tuple #[.int .i64 (g : Int), .int .i64 0]) ∧ Below wx.heap.size wx w' from fun wx h => by have := Gap_yes A A2 c c2 p rn2 kn2 rn kn L2 L wx (HPB.out wx h) hv hL2 hkn2 hL hkn; rw [← hgs, hg] at this; rw [er, ek, er2, ek2]; exact this)
  have HWA := Lib.hid (show ∀ wx, Below W1.heap.size W1 wx → Calls Tryz.prog 23 #[.agg #[.slice A p.nodes.length c, .slice A2 p.rails.length c2], .agg #[.int .i64 r, .int .i64 k], .agg #[.int .i64 r2, .int .i64 k2], .int .i64 (d)] wx fun e w' => e = .returned (.tuple #[.bool true, .int .i64 0]) ∧ Below wx.heap.size wx w' from fun wx h => by have := Within_yes A A2 c c2 p rn kn rn2 kn2 L L2 (d) wx (HPB.out wx h) hv hL hkn hL2 hkn2 (by omega) (by omega); rw [HX.out] at this; rw [er, ek, er2, ek2]; exact this)
  have HWB := Lib.hid (show ∀ wx, Below W1.heap.size W1 wx → Calls Tryz.prog 23 #[.agg #[.slice A p.nodes.length c, .slice A2 p.rails.length c2], .agg #[.int .i64 r2, .int .i64 k2], .agg #[.int .i64 r, .int .i64 k], .int .i64 d] wx fun e w' => e = .returned (.tuple #[.bool true, .int .i64 0]) ∧ Below wx.heap.size wx w' from fun wx h => by have := Within_yes A A2 c c2 p rn2 kn2 rn kn L2 L d wx (HPB.out wx h) hv hL2 hkn2 hL hkn hd0 (by omega); rw [sides_symm, HX.out] at this; rw [er, ek, er2, ek2]; exact this)
  have HWC := Lib.hid (show ∀ wx, Below W1.heap.size W1 wx → Calls Tryz.prog 23 #[.agg #[.slice A p.nodes.length c, .slice A2 p.rails.length c2], .agg #[.int .i64 r, .int .i64 k], .agg #[.int .i64 r2, .int .i64 k2], .int .i64 (d + 1)] wx fun e w' => e = .returned (.tuple #[.bool true, .int .i64 0]) ∧ Below wx.heap.size wx w' from fun wx h => by have := Within_yes A A2 c c2 p rn kn rn2 kn2 L L2 (d + 1) wx (HPB.out wx h) hv hL hkn hL2 hkn2 (by omega) (by omega); rw [hz] at this; rw [er, ek, er2, ek2]; exact this)
  have HWM := Lib.hid (show ∀ wx, Below W1.heap.size W1 wx → Calls Tryz.prog 23 #[.agg #[.slice A p.nodes.length c, .slice A2 p.rails.length c2], .agg #[.int .i64 r, .int .i64 k], .agg #[.int .i64 r2, .int .i64 k2], .int .i64 ((g : Int) - 1)] wx fun e w' => e = .returned (.tuple #[.bool false, .int .i64 0]) ∧ Below wx.heap.size wx w' from fun wx h => by have := Within_yes A A2 c c2 p rn kn rn2 kn2 L L2 ((g : Int) - 1) wx (HPB.out wx h) hv hL hkn hL2 hkn2 (by omega) (by omega); rw [hgm (by omega)] at this; rw [er, ek, er2, ek2]; exact this)
  have hkb : 0 ≤ k ∧ k ≤ 41 := by omega
  have hkb2 : 0 ≤ k2 ∧ k2 ≤ 41 := by omega
  have HGR := Lib.hid hgr
  have HXZ := Lib.hid hxz
  have hd2 : ¬ d < 0 := by omega
  have hd3 : ¬ 10000 ≤ d := by omega
  have wd : IntKind.i64.wrap (d + 1) = d + 1 := by rw [IntKind.wrap_i64]; omega
  have wk1 : IntKind.i64.wrap (k - k2) = k - k2 := by rw [IntKind.wrap_i64]; omega
  have wk2 : IntKind.i64.wrap (k2 - k) = k2 - k := by rw [IntKind.wrap_i64]; omega
  clear hx HX er ek er2 ek2 hL hL2 hkn hkn2 o1 o2 hg hgs hz ll1 ll2 hgm hgp hgr hxz hcx
  subst hc2
  clear hb1 q1 q2 q3 hz1 hP
  go_enter Tryz.func5, Tryz.ntmps5
  go_wp2_with fail
  refine (HFW.out _ HB0.out).mono ?_
  rintro e w91 ⟨rfl, hb91⟩
  have HB91 := Lib.hid (HB0.out.trans (hb91.mono HB0.out.size))
  obtain ⟨r91a, r91b, r91c⟩ := HR.out _ HB91.out
  have e0 := r91a.cell 0; have e1 := r91a.cell 1; have e2 := r91b.cell 0; have e3 := r91b.cell 1; have e4 := r91c.cell 0; have e5 := r91c.cell 1
  clear hb91 r91a r91b r91c
  clear hW1
  go_wp2_with fail
  refine (HVL.out _ HB91.out).mono ?_
  rintro e w92 ⟨rfl, hb92⟩
  have HB92 := Lib.hid (HB91.out.trans (hb92.mono HB91.out.size))
  obtain ⟨r92a, r92b, r92c⟩ := HR.out _ HB92.out
  have e0 := r92a.cell 0; have e1 := r92a.cell 1; have e2 := r92b.cell 0; have e3 := r92b.cell 1; have e4 := r92c.cell 0; have e5 := r92c.cell 1
  clear hb92 r92a r92b r92c
  go_wp2_with fail
  refine (HS1.out _ HB92.out).mono ?_
  rintro e w93 ⟨rfl, hb93⟩
  have HB93 := Lib.hid (HB92.out.trans (hb93.mono HB92.out.size))
  obtain ⟨r93a, r93b, r93c⟩ := HR.out _ HB93.out
  have e0 := r93a.cell 0; have e1 := r93a.cell 1; have e2 := r93b.cell 0; have e3 := r93b.cell 1; have e4 := r93c.cell 0; have e5 := r93c.cell 1
  clear hb93 r93a r93b r93c
  go_wp2_with fail
  refine (HS2.out _ HB93.out).mono ?_
  rintro e w94 ⟨rfl, hb94⟩
  have HB94 := Lib.hid (HB93.out.trans (hb94.mono HB93.out.size))
  obtain ⟨r94a, r94b, r94c⟩ := HR.out _ HB94.out
  have e0 := r94a.cell 0; have e1 := r94a.cell 1; have e2 := r94b.cell 0; have e3 := r94b.cell 1; have e4 := r94c.cell 0; have e5 := r94c.cell 1
  clear hb94 r94a r94b r94c
  go_wp2_with fail
  refine (HGP.out _ HB94.out).mono ?_
  rintro e w95 ⟨rfl, hb95⟩
  have HB95 := Lib.hid (HB94.out.trans (hb95.mono HB94.out.size))
  obtain ⟨r95a, r95b, r95c⟩ := HR.out _ HB95.out
  have e0 := r95a.cell 0; have e1 := r95a.cell 1; have e2 := r95b.cell 0; have e3 := r95b.cell 1; have e4 := r95c.cell 0; have e5 := r95c.cell 1
  clear hb95 r95a r95b r95c
  go_wp2_with fail
  refine (HGQ.out _ HB95.out).mono ?_
  rintro e w96 ⟨rfl, hb96⟩
  have HB96 := Lib.hid (HB95.out.trans (hb96.mono HB95.out.size))
  obtain ⟨r96a, r96b, r96c⟩ := HR.out _ HB96.out
  have e0 := r96a.cell 0; have e1 := r96a.cell 1; have e2 := r96b.cell 0; have e3 := r96b.cell 1; have e4 := r96c.cell 0; have e5 := r96c.cell 1
  clear hb96 r96a r96b r96c
  go_wp2_with fail
  refine (HWA.out _ HB96.out).mono ?_
  rintro e w97 ⟨rfl, hb97⟩
  have HB97 := Lib.hid (HB96.out.trans (hb97.mono HB96.out.size))
  obtain ⟨r97a, r97b, r97c⟩ := HR.out _ HB97.out
  have e0 := r97a.cell 0; have e1 := r97a.cell 1; have e2 := r97b.cell 0; have e3 := r97b.cell 1; have e4 := r97c.cell 0; have e5 := r97c.cell 1
  clear hb97 r97a r97b r97c
  go_wp2_with fail
  refine (HWB.out _ HB97.out).mono ?_
  rintro e w98 ⟨rfl, hb98⟩
  have HB98 := Lib.hid (HB97.out.trans (hb98.mono HB97.out.size))
  obtain ⟨r98a, r98b, r98c⟩ := HR.out _ HB98.out
  have e0 := r98a.cell 0; have e1 := r98a.cell 1; have e2 := r98b.cell 0; have e3 := r98b.cell 1; have e4 := r98c.cell 0; have e5 := r98c.cell 1
  clear hb98 r98a r98b r98c
  go_wp2_with fail
  refine (HWC.out _ HB98.out).mono ?_
  rintro e w99 ⟨rfl, hb99⟩
  have HB99 := Lib.hid (HB98.out.trans (hb99.mono HB98.out.size))
  obtain ⟨r99a, r99b, r99c⟩ := HR.out _ HB99.out
  have e0 := r99a.cell 0; have e1 := r99a.cell 1; have e2 := r99b.cell 0; have e3 := r99b.cell 1; have e4 := r99c.cell 0; have e5 := r99c.cell 1
  clear hb99 r99a r99b r99c
  go_wp2_with fail
  refine (HWM.out _ HB99.out).mono ?_
  rintro e w100 ⟨rfl, hb100⟩
  have HB100 := Lib.hid (HB99.out.trans (hb100.mono HB99.out.size))
  obtain ⟨r100a, r100b, r100c⟩ := HR.out _ HB100.out
  have e0 := r100a.cell 0; have e1 := r100a.cell 1; have e2 := r100b.cell 0; have e3 := r100b.cell 1; have e4 := r100c.cell 0; have e5 := r100c.cell 1
  clear hb100 r100a r100b r100c
  by_cases hrr : r = r2
  · subst hrr
    by_cases hk1 : 1 < k - k2
    · clear HGR
      go_wp2_with fail
      refine (HKN.out _ HB100.out).mono ?_
      rintro e w101 ⟨rfl, hb101⟩
      have HB101 := Lib.hid (HB100.out.trans (hb101.mono HB100.out.size))
      obtain ⟨r101a, r101b, r101c⟩ := HR.out _ HB101.out
      have e0 := r101a.cell 0; have e1 := r101a.cell 1; have e2 := r101b.cell 0; have e3 := r101b.cell 1; have e4 := r101c.cell 0; have e5 := r101c.cell 1
      clear hb101 r101a r101b r101c
      go_wp2
      go_ret
      exact ⟨rfl, HB1.out.trans (HB101.out.mono HB1.out.size)⟩
    · by_cases hk2 : 1 < k2 - k
      · clear HGR
        go_wp2_with fail
        refine (HKN.out _ HB100.out).mono ?_
        rintro e w102 ⟨rfl, hb102⟩
        have HB102 := Lib.hid (HB100.out.trans (hb102.mono HB100.out.size))
        obtain ⟨r102a, r102b, r102c⟩ := HR.out _ HB102.out
        have e0 := r102a.cell 0; have e1 := r102a.cell 1; have e2 := r102b.cell 0; have e3 := r102b.cell 1; have e4 := r102c.cell 0; have e5 := r102c.cell 1
        clear hb102 r102a r102b r102c
        go_wp2
        go_ret
        exact ⟨rfl, HB1.out.trans (HB102.out.mono HB1.out.size)⟩
      · exact absurd (HGR.out rfl (by omega) (by omega)) (by omega)
  · clear HGR
    go_wp2_with fail
    refine (HKN.out _ HB100.out).mono ?_
    rintro e w103 ⟨rfl, hb103⟩
    have HB103 := Lib.hid (HB100.out.trans (hb103.mono HB100.out.size))
    obtain ⟨r103a, r103b, r103c⟩ := HR.out _ HB103.out
    have e0 := r103a.cell 0; have e1 := r103a.cell 1; have e2 := r103b.cell 0; have e3 := r103b.cell 1; have e4 := r103c.cell 0; have e5 := r103c.cell 1
    clear hb103 r103a r103b r103c
    go_wp2
    go_ret
    exact ⟨rfl, HB1.out.trans (HB103.out.mono HB1.out.size)⟩

set_option maxRecDepth 100000 in
set_option maxHeartbeats 4000000 in
theorem gaps_y5f (A A2 : Option Addr) (c c2 : Nat) (p : Pl) (r k r2 k2 d : Int) (w : World) (hP : PlAt w w.heap.size A c A2 c2 p) (hfew : fewB p = true) (hv : Vld p) (hs1 : stripB p r k = true) (hs2 : stripB p r2 k2 = true) (hd0 : 0 ≤ d) (hd1 : d < 10000) (hcx : ∀ rn kn rn2 kn2 : Nat, ∀ L L2 : List S, r = rn → k = kn → r2 = rn2 → k2 = kn2 → RlOk p rn L → RlOk p rn2 L2 → sidesB (stripAt rn L kn) (stripAt rn2 L2 kn2) d = false ∧ gapW (stripAt rn L kn) (stripAt rn2 L2 kn2) = 5000) :
    Calls Tryz.prog 5 #[.agg #[.slice A p.nodes.length c, .slice A2 p.rails.length c2], .agg #[.int .i64 r, .int .i64 k], .agg #[.int .i64 r2, .int .i64 k2], .int .i64 d] w fun e w' => e = .returned (.bool true) ∧ Below w.heap.size w w' := by
  have hrm := hP.rm; have hrc := hP.rc
  have hb1 := (((Below.refl _ w).alloc (Nat.le_refl _) (.cells #[.slice A p.nodes.length c, .slice A2 p.rails.length c2] 25)).alloc (by simp) (.cells #[.int .i64 r, .int .i64 k] 34)).alloc (by simp; omega) (.cells #[.int .i64 r2, .int .i64 k2] 34)
  obtain ⟨q1, q2, q3⟩ := rows3 w #[.slice A p.nodes.length c, .slice A2 p.rails.length c2] #[.int .i64 r, .int .i64 k] #[.int .i64 r2, .int .i64 k2] 25 34 34
  have hz1 : (((w.alloc (.cells #[.slice A p.nodes.length c, .slice A2 p.rails.length c2] 25)).alloc (.cells #[.int .i64 r, .int .i64 k] 34)).alloc (.cells #[.int .i64 r2, .int .i64 k2] 34)).heap.size = w.heap.size + 3 := by simp
  obtain ⟨W1, hW1⟩ : ∃ z, ((w.alloc (.cells #[.slice A p.nodes.length c, .slice A2 p.rails.length c2] 25)).alloc (.cells #[.int .i64 r, .int .i64 k] 34)).alloc (.cells #[.int .i64 r2, .int .i64 k2] 34) = z := ⟨_, rfl⟩
  rw [hW1] at hb1 q1 q2 q3 hz1
  have HB1 := Lib.hid hb1
  have HB0 := Lib.hid (Below.refl W1.heap.size W1)
  have HR := Lib.hid (show ∀ wx, Below W1.heap.size W1 wx → Rw wx w.heap.size 25 #[.slice A p.nodes.length c, .slice A2 p.rails.length c2] ∧ Rw wx (w.heap.size + 1) 34 #[.int .i64 r, .int .i64 k] ∧ Rw wx (w.heap.size + 1 + 1) 34 #[.int .i64 r2, .int .i64 k2] from fun wx h => ⟨q1.below h (by omega), q2.below h (by omega), q3.below h (by omega)⟩)
  have HPB := Lib.hid (show ∀ wx, Below W1.heap.size W1 wx → PlAt wx wx.heap.size A c A2 c2 p from fun wx h => ((hP.below hb1).below (h.mono hb1.size)).more (Nat.le_trans hb1.size h.size))
  have HKN := Lib.hid (show ∀ wx, Below W1.heap.size W1 wx → Calls Tryz.prog 16 #[] wx fun e w' => e = .returned (.bool true) ∧ Below wx.heap.size wx w' from fun wx _ => known_any wx)
  have e0 := q1.cell 0; have e1 := q1.cell 1; have e2 := q2.cell 0; have e3 := q2.cell 1; have e4 := q3.cell 0; have e5 := q3.cell 1
  have HFW := Lib.hid (show ∀ wx, Below W1.heap.size W1 wx → Calls Tryz.prog 15 #[.agg #[.slice A p.nodes.length c, .slice A2 p.rails.length c2]] wx fun e w' => e = .returned (.bool true) ∧ Below wx.heap.size wx w' from fun wx h => by have := few_any A A2 c c2 p wx (HPB.out wx h); rwa [hfew] at this)
  have HVL := Lib.hid (show ∀ wx, Below W1.heap.size W1 wx → Calls Tryz.prog 19 #[.agg #[.slice A p.nodes.length c, .slice A2 p.rails.length c2]] wx fun e w' => e = .returned (.bool true) ∧ Below wx.heap.size wx w' from fun wx h => (Valid_any A A2 c c2 p wx (HPB.out wx h)).mono (by rintro e w' ⟨⟨b, rfl, hb⟩, h2⟩; rw [hb.2 hv]; exact ⟨rfl, h2⟩))
  have HS1 := Lib.hid (show ∀ wx, Below W1.heap.size W1 wx → Calls Tryz.prog 25 #[.agg #[.slice A p.nodes.length c, .slice A2 p.rails.length c2], .agg #[.int .i64 r, .int .i64 k]] wx fun e w' => e = .returned (.bool true) ∧ Below wx.heap.size wx w' from fun wx h => by have := rStrip_any A A2 c c2 p r k wx (HPB.out wx h) hv; rwa [hs1] at this)
  have HS2 := Lib.hid (show ∀ wx, Below W1.heap.size W1 wx → Calls Tryz.prog 25 #[.agg #[.slice A p.nodes.length c, .slice A2 p.rails.length c2], .agg #[.int .i64 r2, .int .i64 k2]] wx fun e w' => e = .returned (.bool true) ∧ Below wx.heap.size wx w' from fun wx h => by have := rStrip_any A A2 c c2 p r2 k2 wx (HPB.out wx h) hv; rwa [hs2] at this)
  obtain ⟨rn, kn, L, er, ek, hL, hkn⟩ := strip_nat hv hs1
  obtain ⟨rn2, kn2, L2, er2, ek2, hL2, hkn2⟩ := strip_nat hv hs2
  have o1 := stripAt_ok (r := rn) hL.hR hL.hok hkn
  have o2 := stripAt_ok (r := rn2) hL2.hR hL2.hok hkn2
  have ll1 := hL.le; have ll2 := hL2.le
  have hgs := gap_symm o1 o2; have hgl := gap_le o1 o2
  have hgm : 0 < gapW (stripAt rn L kn) (stripAt rn2 L2 kn2) → _ := gap_less o1 o2
  have hgp : gapW (stripAt rn L kn) (stripAt rn2 L2 kn2) < 5000 → _ := gap_more o1 o2
  have hgr : r = r2 → k ≤ k2 + 1 → k2 ≤ k + 1 → gapW (stripAt rn L kn) (stripAt rn2 L2 kn2) = 0 := fun e h1 h2 => by
    obtain rfl : rn = rn2 := by omega
    exact gap_rail hL hL2 hkn hkn2 (by omega) (by omega)
  obtain ⟨x, hx⟩ : ∃ z, sidesB (stripAt rn L kn) (stripAt rn2 L2 kn2) d = z := ⟨_, rfl⟩
  obtain ⟨z, hz⟩ : ∃ z, sidesB (stripAt rn L kn) (stripAt rn2 L2 kn2) (d + 1) = z := ⟨_, rfl⟩
  have hxz : x = true → z = true := fun e => by rw [← hz]; exact sides_mono o1 o2 hd0 (by omega) (hx.trans e)
  obtain ⟨g, hg⟩ : ∃ z, gapW (stripAt rn L kn) (stripAt rn2 L2 kn2) = z := ⟨_, rfl⟩
  rw [hg] at hgl hgm hgp hgr
  obtain ⟨hc1, hc2⟩ := hcx rn kn rn2 kn2 L L2 er ek er2 ek2 hL hL2
  rw [hx] at hc1
  rw [hg] at hc2
  have HX := Lib.hid hx
  subst hc1
  have HGP := Lib.hid (show ∀ wx, Below W1.heap.size W1 wx → Calls Tryz.prog 24 #[.agg #[.slice A p.nodes.length c, .slice A2 p.rails.length c2], .agg #[.int .i64 r, .int .i64 k], .agg #[.int .i64 r2, .int .i64 k2]] wx fun e w' => e = .returned (.tuple #[.int .i64 (g : Int), .int .i64 0]) ∧ Below wx.heap.size wx w' from fun wx h => by have := Gap_yes A A2 c c2 p rn kn rn2 kn2 L L2 wx (HPB.out wx h) hv hL hkn hL2 hkn2; rw [hg] at this; rw [er, ek, er2, ek2]; exact this)
  have HGQ := Lib.hid (show ∀ wx, Below W1.heap.size W1 wx → Calls Tryz.prog 24 #[.agg #[.slice A p.nodes.length c, .slice A2 p.rails.length c2], .agg #[.int .i64 r2, .int .i64 k2], .agg #[.int .i64 r, .int .i64 k]] wx fun e w' => e = .returned (.tuple #[.int .i64 (g : Int), .int .i64 0]) ∧ Below wx.heap.size wx w' from fun wx h => by have := Gap_yes A A2 c c2 p rn2 kn2 rn kn L2 L wx (HPB.out wx h) hv hL2 hkn2 hL hkn; rw [← hgs, hg] at this; rw [er, ek, er2, ek2]; exact this)
  have HWA := Lib.hid (show ∀ wx, Below W1.heap.size W1 wx → Calls Tryz.prog 23 #[.agg #[.slice A p.nodes.length c, .slice A2 p.rails.length c2], .agg #[.int .i64 r, .int .i64 k], .agg #[.int .i64 r2, .int .i64 k2], .int .i64 (d)] wx fun e w' => e = .returned (.tuple #[.bool false, .int .i64 0]) ∧ Below wx.heap.size wx w' from fun wx h => by have := Within_yes A A2 c c2 p rn kn rn2 kn2 L L2 (d) wx (HPB.out wx h) hv hL hkn hL2 hkn2 (by omega) (by omega); rw [HX.out] at this; rw [er, ek, er2, ek2]; exact this)
  have HWB := Lib.hid (show ∀ wx, Below W1.heap.size W1 wx → Calls Tryz.prog 23 #[.agg #[.slice A p.nodes.length c, .slice A2 p.rails.length c2], .agg #[.int .i64 r2, .int .i64 k2], .agg #[.int .i64 r, .int .i64 k], .int .i64 d] wx fun e w' => e = .returned (.tuple #[.bool false, .int .i64 0]) ∧ Below wx.heap.size wx w' from fun wx h => by have := Within_yes A A2 c c2 p rn2 kn2 rn kn L2 L d wx (HPB.out wx h) hv hL2 hkn2 hL hkn hd0 (by omega); rw [sides_symm, HX.out] at this; rw [er, ek, er2, ek2]; exact this)
  have HWC := Lib.hid (show ∀ wx, Below W1.heap.size W1 wx → Calls Tryz.prog 23 #[.agg #[.slice A p.nodes.length c, .slice A2 p.rails.length c2], .agg #[.int .i64 r, .int .i64 k], .agg #[.int .i64 r2, .int .i64 k2], .int .i64 (d + 1)] wx fun e w' => e = .returned (.tuple #[.bool z, .int .i64 0]) ∧ Below wx.heap.size wx w' from fun wx h => by have := Within_yes A A2 c c2 p rn kn rn2 kn2 L L2 (d + 1) wx (HPB.out wx h) hv hL hkn hL2 hkn2 (by omega) (by omega); rw [hz] at this; rw [er, ek, er2, ek2]; exact this)
  have HWM := Lib.hid (show ∀ wx, Below W1.heap.size W1 wx → Calls Tryz.prog 23 #[.agg #[.slice A p.nodes.length c, .slice A2 p.rails.length c2], .agg #[.int .i64 r, .int .i64 k], .agg #[.int .i64 r2, .int .i64 k2], .int .i64 ((g : Int) - 1)] wx fun e w' => e = .returned (.tuple #[.bool false, .int .i64 0]) ∧ Below wx.heap.size wx w' from fun wx h => by have := Within_yes A A2 c c2 p rn kn rn2 kn2 L L2 ((g : Int) - 1) wx (HPB.out wx h) hv hL hkn hL2 hkn2 (by omega) (by omega); rw [hgm (by omega)] at this; rw [er, ek, er2, ek2]; exact this)
  have hkb : 0 ≤ k ∧ k ≤ 41 := by omega
  have hkb2 : 0 ≤ k2 ∧ k2 ≤ 41 := by omega
  have HGR := Lib.hid hgr
  have HXZ := Lib.hid hxz
  have hd2 : ¬ d < 0 := by omega
  have hd3 : ¬ 10000 ≤ d := by omega
  have wd : IntKind.i64.wrap (d + 1) = d + 1 := by rw [IntKind.wrap_i64]; omega
  have wk1 : IntKind.i64.wrap (k - k2) = k - k2 := by rw [IntKind.wrap_i64]; omega
  have wk2 : IntKind.i64.wrap (k2 - k) = k2 - k := by rw [IntKind.wrap_i64]; omega
  clear hx HX er ek er2 ek2 hL hL2 hkn hkn2 o1 o2 hg hgs hz ll1 ll2 hgm hgp hgr hxz hcx
  subst hc2
  clear hb1 q1 q2 q3 hz1 hP
  go_enter Tryz.func5, Tryz.ntmps5
  go_wp2_with fail
  refine (HFW.out _ HB0.out).mono ?_
  rintro e w104 ⟨rfl, hb104⟩
  have HB104 := Lib.hid (HB0.out.trans (hb104.mono HB0.out.size))
  obtain ⟨r104a, r104b, r104c⟩ := HR.out _ HB104.out
  have e0 := r104a.cell 0; have e1 := r104a.cell 1; have e2 := r104b.cell 0; have e3 := r104b.cell 1; have e4 := r104c.cell 0; have e5 := r104c.cell 1
  clear hb104 r104a r104b r104c
  clear hW1
  go_wp2_with fail
  refine (HVL.out _ HB104.out).mono ?_
  rintro e w105 ⟨rfl, hb105⟩
  have HB105 := Lib.hid (HB104.out.trans (hb105.mono HB104.out.size))
  obtain ⟨r105a, r105b, r105c⟩ := HR.out _ HB105.out
  have e0 := r105a.cell 0; have e1 := r105a.cell 1; have e2 := r105b.cell 0; have e3 := r105b.cell 1; have e4 := r105c.cell 0; have e5 := r105c.cell 1
  clear hb105 r105a r105b r105c
  go_wp2_with fail
  refine (HS1.out _ HB105.out).mono ?_
  rintro e w106 ⟨rfl, hb106⟩
  have HB106 := Lib.hid (HB105.out.trans (hb106.mono HB105.out.size))
  obtain ⟨r106a, r106b, r106c⟩ := HR.out _ HB106.out
  have e0 := r106a.cell 0; have e1 := r106a.cell 1; have e2 := r106b.cell 0; have e3 := r106b.cell 1; have e4 := r106c.cell 0; have e5 := r106c.cell 1
  clear hb106 r106a r106b r106c
  go_wp2_with fail
  refine (HS2.out _ HB106.out).mono ?_
  rintro e w107 ⟨rfl, hb107⟩
  have HB107 := Lib.hid (HB106.out.trans (hb107.mono HB106.out.size))
  obtain ⟨r107a, r107b, r107c⟩ := HR.out _ HB107.out
  have e0 := r107a.cell 0; have e1 := r107a.cell 1; have e2 := r107b.cell 0; have e3 := r107b.cell 1; have e4 := r107c.cell 0; have e5 := r107c.cell 1
  clear hb107 r107a r107b r107c
  go_wp2_with fail
  refine (HGP.out _ HB107.out).mono ?_
  rintro e w108 ⟨rfl, hb108⟩
  have HB108 := Lib.hid (HB107.out.trans (hb108.mono HB107.out.size))
  obtain ⟨r108a, r108b, r108c⟩ := HR.out _ HB108.out
  have e0 := r108a.cell 0; have e1 := r108a.cell 1; have e2 := r108b.cell 0; have e3 := r108b.cell 1; have e4 := r108c.cell 0; have e5 := r108c.cell 1
  clear hb108 r108a r108b r108c
  go_wp2_with fail
  refine (HGQ.out _ HB108.out).mono ?_
  rintro e w109 ⟨rfl, hb109⟩
  have HB109 := Lib.hid (HB108.out.trans (hb109.mono HB108.out.size))
  obtain ⟨r109a, r109b, r109c⟩ := HR.out _ HB109.out
  have e0 := r109a.cell 0; have e1 := r109a.cell 1; have e2 := r109b.cell 0; have e3 := r109b.cell 1; have e4 := r109c.cell 0; have e5 := r109c.cell 1
  clear hb109 r109a r109b r109c
  go_wp2_with fail
  refine (HWA.out _ HB109.out).mono ?_
  rintro e w110 ⟨rfl, hb110⟩
  have HB110 := Lib.hid (HB109.out.trans (hb110.mono HB109.out.size))
  obtain ⟨r110a, r110b, r110c⟩ := HR.out _ HB110.out
  have e0 := r110a.cell 0; have e1 := r110a.cell 1; have e2 := r110b.cell 0; have e3 := r110b.cell 1; have e4 := r110c.cell 0; have e5 := r110c.cell 1
  clear hb110 r110a r110b r110c
  go_wp2_with fail
  refine (HWB.out _ HB110.out).mono ?_
  rintro e w111 ⟨rfl, hb111⟩
  have HB111 := Lib.hid (HB110.out.trans (hb111.mono HB110.out.size))
  obtain ⟨r111a, r111b, r111c⟩ := HR.out _ HB111.out
  have e0 := r111a.cell 0; have e1 := r111a.cell 1; have e2 := r111b.cell 0; have e3 := r111b.cell 1; have e4 := r111c.cell 0; have e5 := r111c.cell 1
  clear hb111 r111a r111b r111c
  go_wp2_with fail
  refine (HWC.out _ HB111.out).mono ?_
  rintro e w112 ⟨rfl, hb112⟩
  have HB112 := Lib.hid (HB111.out.trans (hb112.mono HB111.out.size))
  obtain ⟨r112a, r112b, r112c⟩ := HR.out _ HB112.out
  have e0 := r112a.cell 0; have e1 := r112a.cell 1; have e2 := r112b.cell 0; have e3 := r112b.cell 1; have e4 := r112c.cell 0; have e5 := r112c.cell 1
  clear hb112 r112a r112b r112c
  go_wp2_with fail
  refine (HWM.out _ HB112.out).mono ?_
  rintro e w113 ⟨rfl, hb113⟩
  have HB113 := Lib.hid (HB112.out.trans (hb113.mono HB112.out.size))
  obtain ⟨r113a, r113b, r113c⟩ := HR.out _ HB113.out
  have e0 := r113a.cell 0; have e1 := r113a.cell 1; have e2 := r113b.cell 0; have e3 := r113b.cell 1; have e4 := r113c.cell 0; have e5 := r113c.cell 1
  clear hb113 r113a r113b r113c
  by_cases hrr : r = r2
  · subst hrr
    by_cases hk1 : 1 < k - k2
    · clear HGR
      go_wp2_with fail
      refine (HKN.out _ HB113.out).mono ?_
      rintro e w114 ⟨rfl, hb114⟩
      have HB114 := Lib.hid (HB113.out.trans (hb114.mono HB113.out.size))
      obtain ⟨r114a, r114b, r114c⟩ := HR.out _ HB114.out
      have e0 := r114a.cell 0; have e1 := r114a.cell 1; have e2 := r114b.cell 0; have e3 := r114b.cell 1; have e4 := r114c.cell 0; have e5 := r114c.cell 1
      clear hb114 r114a r114b r114c
      go_wp2
      go_ret
      exact ⟨rfl, HB1.out.trans (HB114.out.mono HB1.out.size)⟩
    · by_cases hk2 : 1 < k2 - k
      · clear HGR
        go_wp2_with fail
        refine (HKN.out _ HB113.out).mono ?_
        rintro e w115 ⟨rfl, hb115⟩
        have HB115 := Lib.hid (HB113.out.trans (hb115.mono HB113.out.size))
        obtain ⟨r115a, r115b, r115c⟩ := HR.out _ HB115.out
        have e0 := r115a.cell 0; have e1 := r115a.cell 1; have e2 := r115b.cell 0; have e3 := r115b.cell 1; have e4 := r115c.cell 0; have e5 := r115c.cell 1
        clear hb115 r115a r115b r115c
        go_wp2
        go_ret
        exact ⟨rfl, HB1.out.trans (HB115.out.mono HB1.out.size)⟩
      · exact absurd (HGR.out rfl (by omega) (by omega)) (by omega)
  · clear HGR
    go_wp2_with fail
    refine (HKN.out _ HB113.out).mono ?_
    rintro e w116 ⟨rfl, hb116⟩
    have HB116 := Lib.hid (HB113.out.trans (hb116.mono HB113.out.size))
    obtain ⟨r116a, r116b, r116c⟩ := HR.out _ HB116.out
    have e0 := r116a.cell 0; have e1 := r116a.cell 1; have e2 := r116b.cell 0; have e3 := r116b.cell 1; have e4 := r116c.cell 0; have e5 := r116c.cell 1
    clear hb116 r116a r116b r116c
    go_wp2
    go_ret
    exact ⟨rfl, HB1.out.trans (HB116.out.mono HB1.out.size)⟩

theorem SweepGaps_any (A A2 : Option Addr) (c c2 : Nat) (p : Pl) (r k r2 k2 d : Int) (w : World) (hP : PlAt w w.heap.size A c A2 c2 p) :
    Calls Tryz.prog 5 #[.agg #[.slice A p.nodes.length c, .slice A2 p.rails.length c2], .agg #[.int .i64 r, .int .i64 k], .agg #[.int .i64 r2, .int .i64 k2], .int .i64 d] w fun e w' => e = .returned (.bool true) ∧ Below w.heap.size w w' := by
  cases hfew : fewB p with
  | false => exact gaps_few A A2 c c2 p r k r2 k2 d w hP hfew
  | true =>
    by_cases hv : Vld p
    · cases hs1 : stripB p r k with
      | false => exact gaps_n2 A A2 c c2 p r k r2 k2 d w hP hfew hv hs1
      | true =>
        cases hs2 : stripB p r2 k2 with
        | false => exact gaps_n3 A A2 c c2 p r k r2 k2 d w hP hfew hv hs1 hs2
        | true =>
          by_cases hd0 : d < 0
          · exact gaps_f1 A A2 c c2 p r k r2 k2 d w hP hfew hv hs1 hs2 hd0
          · by_cases hd1 : 10000 ≤ d
            · exact gaps_f2 A A2 c c2 p r k r2 k2 d w hP hfew hv hs1 hs2 hd1
            · obtain ⟨rn, kn, L, er, ek, hL, hkn⟩ := strip_nat hv hs1
              obtain ⟨rn2, kn2, L2, er2, ek2, hL2, hkn2⟩ := strip_nat hv hs2
              have hgl := gap_le (stripAt_ok (r := rn) hL.hR hL.hok hkn) (stripAt_ok (r := rn2) hL2.hR hL2.hok hkn2)
              have U : ∀ (P : Nat → Nat → List S → Nat → Nat → List S → Prop), P rn kn L rn2 kn2 L2 → ∀ a b c d : Nat, ∀ M M2 : List S, r = a → k = b → r2 = c → k2 = d → RlOk p a M → RlOk p c M2 → P a b M c d M2 := by
                intro P h a b c d M M2 e1 e2 e3 e4 m1 m2
                obtain rfl : a = rn := by omega
                obtain rfl : b = kn := by omega
                obtain rfl : c = rn2 := by omega
                obtain rfl : d = kn2 := by omega
                obtain rfl : M = L := by rw [← m1.eL, ← hL.eL]
                obtain rfl : M2 = L2 := by rw [← m2.eL, ← hL2.eL]
                exact h
              by_cases h0 : gapW (stripAt rn L kn) (stripAt rn2 L2 kn2) = 0
              · cases hx : sidesB (stripAt rn L kn) (stripAt rn2 L2 kn2) d with
                | true => exact gaps_y0t A A2 c c2 p r k r2 k2 d w hP hfew hv hs1 hs2 (by omega) (by omega) (U (fun rn kn L rn2 kn2 L2 => sidesB (stripAt rn L kn) (stripAt rn2 L2 kn2) d = true ∧ gapW (stripAt rn L kn) (stripAt rn2 L2 kn2) = 0) ⟨hx, h0⟩)
                | false => exact gaps_y0f A A2 c c2 p r k r2 k2 d w hP hfew hv hs1 hs2 (by omega) (by omega) (U (fun rn kn L rn2 kn2 L2 => sidesB (stripAt rn L kn) (stripAt rn2 L2 kn2) d = false ∧ gapW (stripAt rn L kn) (stripAt rn2 L2 kn2) = 0) ⟨hx, h0⟩)
              · by_cases h5 : gapW (stripAt rn L kn) (stripAt rn2 L2 kn2) = 5000
                · cases hx : sidesB (stripAt rn L kn) (stripAt rn2 L2 kn2) d with
                  | true => exact gaps_y5t A A2 c c2 p r k r2 k2 d w hP hfew hv hs1 hs2 (by omega) (by omega) (U (fun rn kn L rn2 kn2 L2 => sidesB (stripAt rn L kn) (stripAt rn2 L2 kn2) d = true ∧ gapW (stripAt rn L kn) (stripAt rn2 L2 kn2) = 5000) ⟨hx, h5⟩)
                  | false => exact gaps_y5f A A2 c c2 p r k r2 k2 d w hP hfew hv hs1 hs2 (by omega) (by omega) (U (fun rn kn L rn2 kn2 L2 => sidesB (stripAt rn L kn) (stripAt rn2 L2 kn2) d = false ∧ gapW (stripAt rn L kn) (stripAt rn2 L2 kn2) = 5000) ⟨hx, h5⟩)
                · cases hx : sidesB (stripAt rn L kn) (stripAt rn2 L2 kn2) d with
                  | true => exact gaps_ymt A A2 c c2 p r k r2 k2 d w hP hfew hv hs1 hs2 (by omega) (by omega) (U (fun rn kn L rn2 kn2 L2 => sidesB (stripAt rn L kn) (stripAt rn2 L2 kn2) d = true ∧ 0 < gapW (stripAt rn L kn) (stripAt rn2 L2 kn2) ∧ gapW (stripAt rn L kn) (stripAt rn2 L2 kn2) < 5000) ⟨hx, by omega, by omega⟩)
                  | false => exact gaps_ymf A A2 c c2 p r k r2 k2 d w hP hfew hv hs1 hs2 (by omega) (by omega) (U (fun rn kn L rn2 kn2 L2 => sidesB (stripAt rn L kn) (stripAt rn2 L2 kn2) d = false ∧ 0 < gapW (stripAt rn L kn) (stripAt rn2 L2 kn2) ∧ gapW (stripAt rn L kn) (stripAt rn2 L2 kn2) < 5000) ⟨hx, by omega, by omega⟩)
    · exact gaps_n1 A A2 c c2 p r k r2 k2 d w hP hfew hv
end Go.Proofs.YtekambdnmaompaaGreat.SW
