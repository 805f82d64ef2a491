/- The law SweepZones in general. -/
import Derived.Test.YtekambdnmaompaaGreatK8
import Derived.Test.YtekambdnmaompaaGreatK11
import Derived.Test.YtekambdnmaompaaGreatJ8
import Derived.Test.YtekambdnmaompaaGreatV1
namespace Go.Proofs.YtekambdnmaompaaGreat.SW
set_option linter.unusedVariables false
set_option linter.unusedSimpArgs false
open Go.RowKit


set_option maxRecDepth 100000 in
set_option maxHeartbeats 4000000 in
theorem zon_few (A A2 : Option Addr) (c c2 : Nat) (p : Pl) (r r2 hx sx hy sy : Int) (w : World) (hP : PlAt w w.heap.size A c A2 c2 p) (hfew : fewB p = false) :
    Calls Tryz.prog 10 #[.agg #[.slice A p.nodes.length c, .slice A2 p.rails.length c2], .int .i64 r, .agg #[.int .i64 hx, .int .i64 sx], .int .i64 r2, .agg #[.int .i64 hy, .int .i64 sy]] w fun e w' => e = .returned (.bool true) ∧ Below w.heap.size w w' := by
  have hrm := hP.rm; have hrc := hP.rc
  have hb3 := (((Below.refl _ w).alloc (Nat.le_refl _) (.cells #[.slice A p.nodes.length c, .slice A2 p.rails.length c2] 25)).alloc (by simp) (.cells #[.int .i64 hx, .int .i64 sx] 46)).alloc (by simp; omega) (.cells #[.int .i64 hy, .int .i64 sy] 46)
  obtain ⟨q1, q2, q3⟩ := rows3 w #[.slice A p.nodes.length c, .slice A2 p.rails.length c2] #[.int .i64 hx, .int .i64 sx] #[.int .i64 hy, .int .i64 sy] 25 46 46
  have hz1 : (((w.alloc (.cells #[.slice A p.nodes.length c, .slice A2 p.rails.length c2] 25)).alloc (.cells #[.int .i64 hx, .int .i64 sx] 46)).alloc (.cells #[.int .i64 hy, .int .i64 sy] 46)).heap.size = w.heap.size + 3 := by simp
  obtain ⟨W1, hW1⟩ : ∃ z, (((w.alloc (.cells #[.slice A p.nodes.length c, .slice A2 p.rails.length c2] 25)).alloc (.cells #[.int .i64 hx, .int .i64 sx] 46)).alloc (.cells #[.int .i64 hy, .int .i64 sy] 46)) = z := ⟨_, rfl⟩
  rw [hW1] at hb3 q1 q2 q3 hz1
  have HB1 := Lib.hid hb3
  have HB0 := Lib.hid (Below.refl W1.heap.size W1)
  have HR := Lib.hid (show ∀ wx, Below W1.heap.size W1 wx → Rw wx w.heap.size 25 #[.slice A p.nodes.length c, .slice A2 p.rails.length c2] ∧ Rw wx (w.heap.size + 1) 46 #[.int .i64 hx, .int .i64 sx] ∧ Rw wx (w.heap.size + 1 + 1) 46 #[.int .i64 hy, .int .i64 sy] from fun wx h => ⟨q1.below h (by omega), q2.below h (by omega), q3.below h (by omega)⟩)
  have HPB := Lib.hid (show ∀ wx, Below W1.heap.size W1 wx → PlAt wx wx.heap.size A c A2 c2 p from fun wx h => ((hP.below hb3).below (h.mono hb3.size)).more (Nat.le_trans hb3.size h.size))
  have HKN := Lib.hid (show ∀ wx, Below W1.heap.size W1 wx → Calls Tryz.prog 16 #[] wx fun e w' => e = .returned (.bool true) ∧ Below wx.heap.size wx w' from fun wx _ => known_any wx)
  have e0 := q1.cell 0; have e1 := q1.cell 1; have e2 := q2.cell 0; have e3 := q2.cell 1; have e4 := q3.cell 0; have e5 := q3.cell 1
  have HFW := Lib.hid (show ∀ wx, Below W1.heap.size W1 wx → Calls Tryz.prog 15 #[.agg #[.slice A p.nodes.length c, .slice A2 p.rails.length c2]] wx fun e w' => e = .returned (.bool false) ∧ Below wx.heap.size wx w' from fun wx h => by have := few_any A A2 c c2 p wx (HPB.out wx h); rwa [hfew] at this)
  clear hb3 q1 q2 q3 hz1 hP
  go_enter Tryz.func10, Tryz.ntmps10
  go_wp2_with fail
  refine (HFW.out _ HB0.out).mono ?_
  rintro e w11 ⟨rfl, hb11⟩
  have HB11 := Lib.hid (HB0.out.trans (hb11.mono HB0.out.size))
  obtain ⟨r1, r2', r3⟩ := HR.out _ HB11.out
  have e0 := r1.cell 0; have e1 := r1.cell 1; have e2 := r2'.cell 0; have e3 := r2'.cell 1; have e4 := r3.cell 0; have e5 := r3.cell 1
  clear hb11 r1 r2' r3
  clear hW1
  go_wp2_with fail
  refine (HKN.out _ HB11.out).mono ?_
  rintro e w12 ⟨rfl, hb12⟩
  have HB12 := Lib.hid (HB11.out.trans (hb12.mono HB11.out.size))
  obtain ⟨r1, r2', r3⟩ := HR.out _ HB12.out
  have e0 := r1.cell 0; have e1 := r1.cell 1; have e2 := r2'.cell 0; have e3 := r2'.cell 1; have e4 := r3.cell 0; have e5 := r3.cell 1
  clear hb12 r1 r2' r3
  go_wp2
  go_ret
  exact ⟨rfl, HB1.out.trans (HB12.out.mono HB1.out.size)⟩

set_option maxRecDepth 100000 in
set_option maxHeartbeats 4000000 in
theorem zon_n1 (A A2 : Option Addr) (c c2 : Nat) (p : Pl) (r r2 hx sx hy sy : Int) (w : World) (hP : PlAt w w.heap.size A c A2 c2 p) (hfew : fewB p = true) (hno : ¬ (Vld p ∧ railIn p r = true ∧ railIn p r2 = true ∧ (prB ⟨hx, sx⟩ && prB ⟨hy, sy⟩) = true)) (hv : ¬ Vld p) :
    Calls Tryz.prog 10 #[.agg #[.slice A p.nodes.length c, .slice A2 p.rails.length c2], .int .i64 r, .agg #[.int .i64 hx, .int .i64 sx], .int .i64 r2, .agg #[.int .i64 hy, .int .i64 sy]] w fun e w' => e = .returned (.bool true) ∧ Below w.heap.size w w' := by
  have hrm := hP.rm; have hrc := hP.rc
  have hb3 := (((Below.refl _ w).alloc (Nat.le_refl _) (.cells #[.slice A p.nodes.length c, .slice A2 p.rails.length c2] 25)).alloc (by simp) (.cells #[.int .i64 hx, .int .i64 sx] 46)).alloc (by simp; omega) (.cells #[.int .i64 hy, .int .i64 sy] 46)
  obtain ⟨q1, q2, q3⟩ := rows3 w #[.slice A p.nodes.length c, .slice A2 p.rails.length c2] #[.int .i64 hx, .int .i64 sx] #[.int .i64 hy, .int .i64 sy] 25 46 46
  have hz1 : (((w.alloc (.cells #[.slice A p.nodes.length c, .slice A2 p.rails.length c2] 25)).alloc (.cells #[.int .i64 hx, .int .i64 sx] 46)).alloc (.cells #[.int .i64 hy, .int .i64 sy] 46)).heap.size = w.heap.size + 3 := by simp
  obtain ⟨W1, hW1⟩ : ∃ z, (((w.alloc (.cells #[.slice A p.nodes.length c, .slice A2 p.rails.length c2] 25)).alloc (.cells #[.int .i64 hx, .int .i64 sx] 46)).alloc (.cells #[.int .i64 hy, .int .i64 sy] 46)) = z := ⟨_, rfl⟩
  rw [hW1] at hb3 q1 q2 q3 hz1
  have HB1 := Lib.hid hb3
  have HB0 := Lib.hid (Below.refl W1.heap.size W1)
  have HR := Lib.hid (show ∀ wx, Below W1.heap.size W1 wx → Rw wx w.heap.size 25 #[.slice A p.nodes.length c, .slice A2 p.rails.length c2] ∧ Rw wx (w.heap.size + 1) 46 #[.int .i64 hx, .int .i64 sx] ∧ Rw wx (w.heap.size + 1 + 1) 46 #[.int .i64 hy, .int .i64 sy] from fun wx h => ⟨q1.below h (by omega), q2.below h (by omega), q3.below h (by omega)⟩)
  have HPB := Lib.hid (show ∀ wx, Below W1.heap.size W1 wx → PlAt wx wx.heap.size A c A2 c2 p from fun wx h => ((hP.below hb3).below (h.mono hb3.size)).more (Nat.le_trans hb3.size h.size))
  have HKN := Lib.hid (show ∀ wx, Below W1.heap.size W1 wx → Calls Tryz.prog 16 #[] wx fun e w' => e = .returned (.bool true) ∧ Below wx.heap.size wx w' from fun wx _ => known_any wx)
  have e0 := q1.cell 0; have e1 := q1.cell 1; have e2 := q2.cell 0; have e3 := q2.cell 1; have e4 := q3.cell 0; have e5 := q3.cell 1
  have HFW := Lib.hid (show ∀ wx, Below W1.heap.size W1 wx → Calls Tryz.prog 15 #[.agg #[.slice A p.nodes.length c, .slice A2 p.rails.length c2]] wx fun e w' => e = .returned (.bool true) ∧ Below wx.heap.size wx w' from fun wx h => by have := few_any A A2 c c2 p wx (HPB.out wx h); rwa [hfew] at this)
  have HVL := Lib.hid (show ∀ wx, Below W1.heap.size W1 wx → Calls Tryz.prog 19 #[.agg #[.slice A p.nodes.length c, .slice A2 p.rails.length c2]] wx fun e w' => e = .returned (.bool false) ∧ Below wx.heap.size wx w' from fun wx h => (Valid_any A A2 c c2 p wx (HPB.out wx h)).mono (by rintro e w' ⟨⟨b, rfl, hb⟩, h2⟩; cases b; exact ⟨rfl, h2⟩; exact absurd (hb.1 rfl) hv))
  have HZN := Lib.hid (show ∀ wx, Below W1.heap.size W1 wx → Calls Tryz.prog 38 #[.agg #[.slice A p.nodes.length c, .slice A2 p.rails.length c2], .int .i64 r, .agg #[.int .i64 hx, .int .i64 sx], .int .i64 r2, .agg #[.int .i64 hy, .int .i64 sy]] wx fun e w' => e = .returned (.tuple #[.slice none 0 0, .int .i64 2]) ∧ Below wx.heap.size wx w' from fun wx h => Zone_no A A2 c c2 p r r2 hx sx hy sy wx (HPB.out wx h) hno)
  clear hb3 q1 q2 q3 hz1 hP
  go_enter Tryz.func10, Tryz.ntmps10
  go_wp2_with fail
  refine (HFW.out _ HB0.out).mono ?_
  rintro e w13 ⟨rfl, hb13⟩
  have HB13 := Lib.hid (HB0.out.trans (hb13.mono HB0.out.size))
  obtain ⟨r1, r2', r3⟩ := HR.out _ HB13.out
  have e0 := r1.cell 0; have e1 := r1.cell 1; have e2 := r2'.cell 0; have e3 := r2'.cell 1; have e4 := r3.cell 0; have e5 := r3.cell 1
  clear hb13 r1 r2' r3
  clear hW1
  go_wp2_with fail
  refine (HZN.out _ HB13.out).mono ?_
  rintro e w14 ⟨rfl, hb14⟩
  have HB14 := Lib.hid (HB13.out.trans (hb14.mono HB13.out.size))
  obtain ⟨r1, r2', r3⟩ := HR.out _ HB14.out
  have e0 := r1.cell 0; have e1 := r1.cell 1; have e2 := r2'.cell 0; have e3 := r2'.cell 1; have e4 := r3.cell 0; have e5 := r3.cell 1
  clear hb14 r1 r2' r3
  go_wp2_with fail
  refine (HVL.out _ HB14.out).mono ?_
  rintro e w15 ⟨rfl, hb15⟩
  have HB15 := Lib.hid (HB14.out.trans (hb15.mono HB14.out.size))
  obtain ⟨r1, r2', r3⟩ := HR.out _ HB15.out
  have e0 := r1.cell 0; have e1 := r1.cell 1; have e2 := r2'.cell 0; have e3 := r2'.cell 1; have e4 := r3.cell 0; have e5 := r3.cell 1
  clear hb15 r1 r2' r3
  go_wp2_with fail
  refine (HKN.out _ HB15.out).mono ?_
  rintro e w16 ⟨rfl, hb16⟩
  have HB16 := Lib.hid (HB15.out.trans (hb16.mono HB15.out.size))
  obtain ⟨r1, r2', r3⟩ := HR.out _ HB16.out
  have e0 := r1.cell 0; have e1 := r1.cell 1; have e2 := r2'.cell 0; have e3 := r2'.cell 1; have e4 := r3.cell 0; have e5 := r3.cell 1
  clear hb16 r1 r2' r3
  go_wp2
  go_ret
  exact ⟨rfl, HB1.out.trans (HB16.out.mono HB1.out.size)⟩

set_option maxRecDepth 100000 in
set_option maxHeartbeats 4000000 in
theorem zon_p1 (A A2 : Option Addr) (c c2 : Nat) (p : Pl) (r r2 hx sx hy sy : Int) (w : World) (hP : PlAt w w.heap.size A c A2 c2 p) (hfew : fewB p = true) (hno : ¬ (Vld p ∧ railIn p r = true ∧ railIn p r2 = true ∧ (prB ⟨hx, sx⟩ && prB ⟨hy, sy⟩) = true)) (hv : Vld p) (hpx : prB ⟨hx, sx⟩ = false) :
    Calls Tryz.prog 10 #[.agg #[.slice A p.nodes.length c, .slice A2 p.rails.length c2], .int .i64 r, .agg #[.int .i64 hx, .int .i64 sx], .int .i64 r2, .agg #[.int .i64 hy, .int .i64 sy]] w fun e w' => e = .returned (.bool true) ∧ Below w.heap.size w w' := by
  have hrm := hP.rm; have hrc := hP.rc
  have hb3 := (((Below.refl _ w).alloc (Nat.le_refl _) (.cells #[.slice A p.nodes.length c, .slice A2 p.rails.length c2] 25)).alloc (by simp) (.cells #[.int .i64 hx, .int .i64 sx] 46)).alloc (by simp; omega) (.cells #[.int .i64 hy, .int .i64 sy] 46)
  obtain ⟨q1, q2, q3⟩ := rows3 w #[.slice A p.nodes.length c, .slice A2 p.rails.length c2] #[.int .i64 hx, .int .i64 sx] #[.int .i64 hy, .int .i64 sy] 25 46 46
  have hz1 : (((w.alloc (.cells #[.slice A p.nodes.length c, .slice A2 p.rails.length c2] 25)).alloc (.cells #[.int .i64 hx, .int .i64 sx] 46)).alloc (.cells #[.int .i64 hy, .int .i64 sy] 46)).heap.size = w.heap.size + 3 := by simp
  obtain ⟨W1, hW1⟩ : ∃ z, (((w.alloc (.cells #[.slice A p.nodes.length c, .slice A2 p.rails.length c2] 25)).alloc (.cells #[.int .i64 hx, .int .i64 sx] 46)).alloc (.cells #[.int .i64 hy, .int .i64 sy] 46)) = z := ⟨_, rfl⟩
  rw [hW1] at hb3 q1 q2 q3 hz1
  have HB1 := Lib.hid hb3
  have HB0 := Lib.hid (Below.refl W1.heap.size W1)
  have HR := Lib.hid (show ∀ wx, Below W1.heap.size W1 wx → Rw wx w.heap.size 25 #[.slice A p.nodes.length c, .slice A2 p.rails.length c2] ∧ Rw wx (w.heap.size + 1) 46 #[.int .i64 hx, .int .i64 sx] ∧ Rw wx (w.heap.size + 1 + 1) 46 #[.int .i64 hy, .int .i64 sy] from fun wx h => ⟨q1.below h (by omega), q2.below h (by omega), q3.below h (by omega)⟩)
  have HPB := Lib.hid (show ∀ wx, Below W1.heap.size W1 wx → PlAt wx wx.heap.size A c A2 c2 p from fun wx h => ((hP.below hb3).below (h.mono hb3.size)).more (Nat.le_trans hb3.size h.size))
  have HKN := Lib.hid (show ∀ wx, Below W1.heap.size W1 wx → Calls Tryz.prog 16 #[] wx fun e w' => e = .returned (.bool true) ∧ Below wx.heap.size wx w' from fun wx _ => known_any wx)
  have e0 := q1.cell 0; have e1 := q1.cell 1; have e2 := q2.cell 0; have e3 := q2.cell 1; have e4 := q3.cell 0; have e5 := q3.cell 1
  have HFW := Lib.hid (show ∀ wx, Below W1.heap.size W1 wx → Calls Tryz.prog 15 #[.agg #[.slice A p.nodes.length c, .slice A2 p.rails.length c2]] wx fun e w' => e = .returned (.bool true) ∧ Below wx.heap.size wx w' from fun wx h => by have := few_any A A2 c c2 p wx (HPB.out wx h); rwa [hfew] at this)
  have HVL := Lib.hid (show ∀ wx, Below W1.heap.size W1 wx → Calls Tryz.prog 19 #[.agg #[.slice A p.nodes.length c, .slice A2 p.rails.length c2]] wx fun e w' => e = .returned (.bool true) ∧ Below wx.heap.size wx w' from fun wx h => (Valid_any A A2 c c2 p wx (HPB.out wx h)).mono (by rintro e w' ⟨⟨b, rfl, hb⟩, h2⟩; rw [hb.2 hv]; exact ⟨rfl, h2⟩))
  have HZN := Lib.hid (show ∀ wx, Below W1.heap.size W1 wx → Calls Tryz.prog 38 #[.agg #[.slice A p.nodes.length c, .slice A2 p.rails.length c2], .int .i64 r, .agg #[.int .i64 hx, .int .i64 sx], .int .i64 r2, .agg #[.int .i64 hy, .int .i64 sy]] wx fun e w' => e = .returned (.tuple #[.slice none 0 0, .int .i64 2]) ∧ Below wx.heap.size wx w' from fun wx h => Zone_no A A2 c c2 p r r2 hx sx hy sy wx (HPB.out wx h) hno)
  have HP1 := Lib.hid (show ∀ wx, Below W1.heap.size W1 wx → Calls Tryz.prog 29 #[.agg #[.int .i64 hx, .int .i64 sx]] wx fun e w' => e = .returned (.bool false) ∧ Below wx.heap.size wx w' from fun wx h => by have := rProfile_any ⟨hx, sx⟩ wx; rwa [hpx] at this)
  clear hb3 q1 q2 q3 hz1 hP
  go_enter Tryz.func10, Tryz.ntmps10
  go_wp2_with fail
  refine (HFW.out _ HB0.out).mono ?_
  rintro e w17 ⟨rfl, hb17⟩
  have HB17 := Lib.hid (HB0.out.trans (hb17.mono HB0.out.size))
  obtain ⟨r1, r2', r3⟩ := HR.out _ HB17.out
  have e0 := r1.cell 0; have e1 := r1.cell 1; have e2 := r2'.cell 0; have e3 := r2'.cell 1; have e4 := r3.cell 0; have e5 := r3.cell 1
  clear hb17 r1 r2' r3
  clear hW1
  go_wp2_with fail
  refine (HZN.out _ HB17.out).mono ?_
  rintro e w18 ⟨rfl, hb18⟩
  have HB18 := Lib.hid (HB17.out.trans (hb18.mono HB17.out.size))
  obtain ⟨r1, r2', r3⟩ := HR.out _ HB18.out
  have e0 := r1.cell 0; have e1 := r1.cell 1; have e2 := r2'.cell 0; have e3 := r2'.cell 1; have e4 := r3.cell 0; have e5 := r3.cell 1
  clear hb18 r1 r2' r3
  go_wp2_with fail
  refine (HVL.out _ HB18.out).mono ?_
  rintro e w19 ⟨rfl, hb19⟩
  have HB19 := Lib.hid (HB18.out.trans (hb19.mono HB18.out.size))
  obtain ⟨r1, r2', r3⟩ := HR.out _ HB19.out
  have e0 := r1.cell 0; have e1 := r1.cell 1; have e2 := r2'.cell 0; have e3 := r2'.cell 1; have e4 := r3.cell 0; have e5 := r3.cell 1
  clear hb19 r1 r2' r3
  go_wp2_with fail
  refine (HP1.out _ HB19.out).mono ?_
  rintro e w20 ⟨rfl, hb20⟩
  have HB20 := Lib.hid (HB19.out.trans (hb20.mono HB19.out.size))
  obtain ⟨r1, r2', r3⟩ := HR.out _ HB20.out
  have e0 := r1.cell 0; have e1 := r1.cell 1; have e2 := r2'.cell 0; have e3 := r2'.cell 1; have e4 := r3.cell 0; have e5 := r3.cell 1
  clear hb20 r1 r2' r3
  go_wp2_with fail
  refine (HKN.out _ HB20.out).mono ?_
  rintro e w21 ⟨rfl, hb21⟩
  have HB21 := Lib.hid (HB20.out.trans (hb21.mono HB20.out.size))
  obtain ⟨r1, r2', r3⟩ := HR.out _ HB21.out
  have e0 := r1.cell 0; have e1 := r1.cell 1; have e2 := r2'.cell 0; have e3 := r2'.cell 1; have e4 := r3.cell 0; have e5 := r3.cell 1
  clear hb21 r1 r2' r3
  go_wp2
  go_ret
  exact ⟨rfl, HB1.out.trans (HB21.out.mono HB1.out.size)⟩

set_option maxRecDepth 100000 in
set_option maxHeartbeats 4000000 in
theorem zon_p2 (A A2 : Option Addr) (c c2 : Nat) (p : Pl) (r r2 hx sx hy sy : Int) (w : World) (hP : PlAt w w.heap.size A c A2 c2 p) (hfew : fewB p = true) (hno : ¬ (Vld p ∧ railIn p r = true ∧ railIn p r2 = true ∧ (prB ⟨hx, sx⟩ && prB ⟨hy, sy⟩) = true)) (hv : Vld p) (hpx : prB ⟨hx, sx⟩ = true) (hpy : prB ⟨hy, sy⟩ = false) :
    Calls Tryz.prog 10 #[.agg #[.slice A p.nodes.length c, .slice A2 p.rails.length c2], .int .i64 r, .agg #[.int .i64 hx, .int .i64 sx], .int .i64 r2, .agg #[.int .i64 hy, .int .i64 sy]] w fun e w' => e = .returned (.bool true) ∧ Below w.heap.size w w' := by
  have hrm := hP.rm; have hrc := hP.rc
  have hb3 := (((Below.refl _ w).alloc (Nat.le_refl _) (.cells #[.slice A p.nodes.length c, .slice A2 p.rails.length c2] 25)).alloc (by simp) (.cells #[.int .i64 hx, .int .i64 sx] 46)).alloc (by simp; omega) (.cells #[.int .i64 hy, .int .i64 sy] 46)
  obtain ⟨q1, q2, q3⟩ := rows3 w #[.slice A p.nodes.length c, .slice A2 p.rails.length c2] #[.int .i64 hx, .int .i64 sx] #[.int .i64 hy, .int .i64 sy] 25 46 46
  have hz1 : (((w.alloc (.cells #[.slice A p.nodes.length c, .slice A2 p.rails.length c2] 25)).alloc (.cells #[.int .i64 hx, .int .i64 sx] 46)).alloc (.cells #[.int .i64 hy, .int .i64 sy] 46)).heap.size = w.heap.size + 3 := by simp
  obtain ⟨W1, hW1⟩ : ∃ z, (((w.alloc (.cells #[.slice A p.nodes.length c, .slice A2 p.rails.length c2] 25)).alloc (.cells #[.int .i64 hx, .int .i64 sx] 46)).alloc (.cells #[.int .i64 hy, .int .i64 sy] 46)) = z := ⟨_, rfl⟩
  rw [hW1] at hb3 q1 q2 q3 hz1
  have HB1 := Lib.hid hb3
  have HB0 := Lib.hid (Below.refl W1.heap.size W1)
  have HR := Lib.hid (show ∀ wx, Below W1.heap.size W1 wx → Rw wx w.heap.size 25 #[.slice A p.nodes.length c, .slice A2 p.rails.length c2] ∧ Rw wx (w.heap.size + 1) 46 #[.int .i64 hx, .int .i64 sx] ∧ Rw wx (w.heap.size + 1 + 1) 46 #[.int .i64 hy, .int .i64 sy] from fun wx h => ⟨q1.below h (by omega), q2.below h (by omega), q3.below h (by omega)⟩)
  have HPB := Lib.hid (show ∀ wx, Below W1.heap.size W1 wx → PlAt wx wx.heap.size A c A2 c2 p from fun wx h => ((hP.below hb3).below (h.mono hb3.size)).more (Nat.le_trans hb3.size h.size))
  have HKN := Lib.hid (show ∀ wx, Below W1.heap.size W1 wx → Calls Tryz.prog 16 #[] wx fun e w' => e = .returned (.bool true) ∧ Below wx.heap.size wx w' from fun wx _ => known_any wx)
  have e0 := q1.cell 0; have e1 := q1.cell 1; have e2 := q2.cell 0; have e3 := q2.cell 1; have e4 := q3.cell 0; have e5 := q3.cell 1
  have HFW := Lib.hid (show ∀ wx, Below W1.heap.size W1 wx → Calls Tryz.prog 15 #[.agg #[.slice A p.nodes.length c, .slice A2 p.rails.length c2]] wx fun e w' => e = .returned (.bool true) ∧ Below wx.heap.size wx w' from fun wx h => by have := few_any A A2 c c2 p wx (HPB.out wx h); rwa [hfew] at this)
  have HVL := Lib.hid (show ∀ wx, Below W1.heap.size W1 wx → Calls Tryz.prog 19 #[.agg #[.slice A p.nodes.length c, .slice A2 p.rails.length c2]] wx fun e w' => e = .returned (.bool true) ∧ Below wx.heap.size wx w' from fun wx h => (Valid_any A A2 c c2 p wx (HPB.out wx h)).mono (by rintro e w' ⟨⟨b, rfl, hb⟩, h2⟩; rw [hb.2 hv]; exact ⟨rfl, h2⟩))
  have HZN := Lib.hid (show ∀ wx, Below W1.heap.size W1 wx → Calls Tryz.prog 38 #[.agg #[.slice A p.nodes.length c, .slice A2 p.rails.length c2], .int .i64 r, .agg #[.int .i64 hx, .int .i64 sx], .int .i64 r2, .agg #[.int .i64 hy, .int .i64 sy]] wx fun e w' => e = .returned (.tuple #[.slice none 0 0, .int .i64 2]) ∧ Below wx.heap.size wx w' from fun wx h => Zone_no A A2 c c2 p r r2 hx sx hy sy wx (HPB.out wx h) hno)
  have HP1 := Lib.hid (show ∀ wx, Below W1.heap.size W1 wx → Calls Tryz.prog 29 #[.agg #[.int .i64 hx, .int .i64 sx]] wx fun e w' => e = .returned (.bool true) ∧ Below wx.heap.size wx w' from fun wx h => by have := rProfile_any ⟨hx, sx⟩ wx; rwa [hpx] at this)
  have HP2 := Lib.hid (show ∀ wx, Below W1.heap.size W1 wx → Calls Tryz.prog 29 #[.agg #[.int .i64 hy, .int .i64 sy]] wx fun e w' => e = .returned (.bool false) ∧ Below wx.heap.size wx w' from fun wx h => by have := rProfile_any ⟨hy, sy⟩ wx; rwa [hpy] at this)
  clear hb3 q1 q2 q3 hz1 hP
  go_enter Tryz.func10, Tryz.ntmps10
  go_wp2_with fail
  refine (HFW.out _ HB0.out).mono ?_
  rintro e w22 ⟨rfl, hb22⟩
  have HB22 := Lib.hid (HB0.out.trans (hb22.mono HB0.out.size))
  obtain ⟨r1, r2', r3⟩ := HR.out _ HB22.out
  have e0 := r1.cell 0; have e1 := r1.cell 1; have e2 := r2'.cell 0; have e3 := r2'.cell 1; have e4 := r3.cell 0; have e5 := r3.cell 1
  clear hb22 r1 r2' r3
  clear hW1
  go_wp2_with fail
  refine (HZN.out _ HB22.out).mono ?_
  rintro e w23 ⟨rfl, hb23⟩
  have HB23 := Lib.hid (HB22.out.trans (hb23.mono HB22.out.size))
  obtain ⟨r1, r2', r3⟩ := HR.out _ HB23.out
  have e0 := r1.cell 0; have e1 := r1.cell 1; have e2 := r2'.cell 0; have e3 := r2'.cell 1; have e4 := r3.cell 0; have e5 := r3.cell 1
  clear hb23 r1 r2' r3
  go_wp2_with fail
  refine (HVL.out _ HB23.out).mono ?_
  rintro e w24 ⟨rfl, hb24⟩
  have HB24 := Lib.hid (HB23.out.trans (hb24.mono HB23.out.size))
  obtain ⟨r1, r2', r3⟩ := HR.out _ HB24.out
  have e0 := r1.cell 0; have e1 := r1.cell 1; have e2 := r2'.cell 0; have e3 := r2'.cell 1; have e4 := r3.cell 0; have e5 := r3.cell 1
  clear hb24 r1 r2' r3
  go_wp2_with fail
  refine (HP1.out _ HB24.out).mono ?_
  rintro e w25 ⟨rfl, hb25⟩
  have HB25 := Lib.hid (HB24.out.trans (hb25.mono HB24.out.size))
  obtain ⟨r1, r2', r3⟩ := HR.out _ HB25.out
  have e0 := r1.cell 0; have e1 := r1.cell 1; have e2 := r2'.cell 0; have e3 := r2'.cell 1; have e4 := r3.cell 0; have e5 := r3.cell 1
  clear hb25 r1 r2' r3
  go_wp2_with fail
  refine (HP2.out _ HB25.out).mono ?_
  rintro e w26 ⟨rfl, hb26⟩
  have HB26 := Lib.hid (HB25.out.trans (hb26.mono HB25.out.size))
  obtain ⟨r1, r2', r3⟩ := HR.out _ HB26.out
  have e0 := r1.cell 0; have e1 := r1.cell 1; have e2 := r2'.cell 0; have e3 := r2'.cell 1; have e4 := r3.cell 0; have e5 := r3.cell 1
  clear hb26 r1 r2' r3
  go_wp2_with fail
  refine (HKN.out _ HB26.out).mono ?_
  rintro e w27 ⟨rfl, hb27⟩
  have HB27 := Lib.hid (HB26.out.trans (hb27.mono HB26.out.size))
  obtain ⟨r1, r2', r3⟩ := HR.out _ HB27.out
  have e0 := r1.cell 0; have e1 := r1.cell 1; have e2 := r2'.cell 0; have e3 := r2'.cell 1; have e4 := r3.cell 0; have e5 := r3.cell 1
  clear hb27 r1 r2' r3
  go_wp2
  go_ret
  exact ⟨rfl, HB1.out.trans (HB27.out.mono HB1.out.size)⟩

set_option maxRecDepth 100000 in
set_option maxHeartbeats 4000000 in
theorem zon_r1 (A A2 : Option Addr) (c c2 : Nat) (p : Pl) (r r2 hx sx hy sy : Int) (w : World) (hP : PlAt w w.heap.size A c A2 c2 p) (hfew : fewB p = true) (hno : ¬ (Vld p ∧ railIn p r = true ∧ railIn p r2 = true ∧ (prB ⟨hx, sx⟩ && prB ⟨hy, sy⟩) = true)) (hv : Vld p) (hpx : prB ⟨hx, sx⟩ = true) (hpy : prB ⟨hy, sy⟩ = true) (hr : r < 0) :
    Calls Tryz.prog 10 #[.agg #[.slice A p.nodes.length c, .slice A2 p.rails.length c2], .int .i64 r, .agg #[.int .i64 hx, .int .i64 sx], .int .i64 r2, .agg #[.int .i64 hy, .int .i64 sy]] w fun e w' => e = .returned (.bool true) ∧ Below w.heap.size w w' := by
  have hrm := hP.rm; have hrc := hP.rc
  have hb3 := (((Below.refl _ w).alloc (Nat.le_refl _) (.cells #[.slice A p.nodes.length c, .slice A2 p.rails.length c2] 25)).alloc (by simp) (.cells #[.int .i64 hx, .int .i64 sx] 46)).alloc (by simp; omega) (.cells #[.int .i64 hy, .int .i64 sy] 46)
  obtain ⟨q1, q2, q3⟩ := rows3 w #[.slice A p.nodes.length c, .slice A2 p.rails.length c2] #[.int .i64 hx, .int .i64 sx] #[.int .i64 hy, .int .i64 sy] 25 46 46
  have hz1 : (((w.alloc (.cells #[.slice A p.nodes.length c, .slice A2 p.rails.length c2] 25)).alloc (.cells #[.int .i64 hx, .int .i64 sx] 46)).alloc (.cells #[.int .i64 hy, .int .i64 sy] 46)).heap.size = w.heap.size + 3 := by simp
  obtain ⟨W1, hW1⟩ : ∃ z, (((w.alloc (.cells #[.slice A p.nodes.length c, .slice A2 p.rails.length c2] 25)).alloc (.cells #[.int .i64 hx, .int .i64 sx] 46)).alloc (.cells #[.int .i64 hy, .int .i64 sy] 46)) = z := ⟨_, rfl⟩
  rw [hW1] at hb3 q1 q2 q3 hz1
  have HB1 := Lib.hid hb3
  have HB0 := Lib.hid (Below.refl W1.heap.size W1)
  have HR := Lib.hid (show ∀ wx, Below W1.heap.size W1 wx → Rw wx w.heap.size 25 #[.slice A p.nodes.length c, .slice A2 p.rails.length c2] ∧ Rw wx (w.heap.size + 1) 46 #[.int .i64 hx, .int .i64 sx] ∧ Rw wx (w.heap.size + 1 + 1) 46 #[.int .i64 hy, .int .i64 sy] from fun wx h => ⟨q1.below h (by omega), q2.below h (by omega), q3.below h (by omega)⟩)
  have HPB := Lib.hid (show ∀ wx, Below W1.heap.size W1 wx → PlAt wx wx.heap.size A c A2 c2 p from fun wx h => ((hP.below hb3).below (h.mono hb3.size)).more (Nat.le_trans hb3.size h.size))
  have HKN := Lib.hid (show ∀ wx, Below W1.heap.size W1 wx → Calls Tryz.prog 16 #[] wx fun e w' => e = .returned (.bool true) ∧ Below wx.heap.size wx w' from fun wx _ => known_any wx)
  have e0 := q1.cell 0; have e1 := q1.cell 1; have e2 := q2.cell 0; have e3 := q2.cell 1; have e4 := q3.cell 0; have e5 := q3.cell 1
  have HFW := Lib.hid (show ∀ wx, Below W1.heap.size W1 wx → Calls Tryz.prog 15 #[.agg #[.slice A p.nodes.length c, .slice A2 p.rails.length c2]] wx fun e w' => e = .returned (.bool true) ∧ Below wx.heap.size wx w' from fun wx h => by have := few_any A A2 c c2 p wx (HPB.out wx h); rwa [hfew] at this)
  have HVL := Lib.hid (show ∀ wx, Below W1.heap.size W1 wx → Calls Tryz.prog 19 #[.agg #[.slice A p.nodes.length c, .slice A2 p.rails.length c2]] wx fun e w' => e = .returned (.bool true) ∧ Below wx.heap.size wx w' from fun wx h => (Valid_any A A2 c c2 p wx (HPB.out wx h)).mono (by rintro e w' ⟨⟨b, rfl, hb⟩, h2⟩; rw [hb.2 hv]; exact ⟨rfl, h2⟩))
  have HZN := Lib.hid (show ∀ wx, Below W1.heap.size W1 wx → Calls Tryz.prog 38 #[.agg #[.slice A p.nodes.length c, .slice A2 p.rails.length c2], .int .i64 r, .agg #[.int .i64 hx, .int .i64 sx], .int .i64 r2, .agg #[.int .i64 hy, .int .i64 sy]] wx fun e w' => e = .returned (.tuple #[.slice none 0 0, .int .i64 2]) ∧ Below wx.heap.size wx w' from fun wx h => Zone_no A A2 c c2 p r r2 hx sx hy sy wx (HPB.out wx h) hno)
  have HP1 := Lib.hid (show ∀ wx, Below W1.heap.size W1 wx → Calls Tryz.prog 29 #[.agg #[.int .i64 hx, .int .i64 sx]] wx fun e w' => e = .returned (.bool true) ∧ Below wx.heap.size wx w' from fun wx h => by have := rProfile_any ⟨hx, sx⟩ wx; rwa [hpx] at this)
  have HP2 := Lib.hid (show ∀ wx, Below W1.heap.size W1 wx → Calls Tryz.prog 29 #[.agg #[.int .i64 hy, .int .i64 sy]] wx fun e w' => e = .returned (.bool true) ∧ Below wx.heap.size wx w' from fun wx h => by have := rProfile_any ⟨hy, sy⟩ wx; rwa [hpy] at this)
  clear hb3 q1 q2 q3 hz1 hP
  go_enter Tryz.func10, Tryz.ntmps10
  go_wp2_with fail
  refine (HFW.out _ HB0.out).mono ?_
  rintro e w28 ⟨rfl, hb28⟩
  have HB28 := Lib.hid (HB0.out.trans (hb28.mono HB0.out.size))
  obtain ⟨r1, r2', r3⟩ := HR.out _ HB28.out
  have e0 := r1.cell 0; have e1 := r1.cell 1; have e2 := r2'.cell 0; have e3 := r2'.cell 1; have e4 := r3.cell 0; have e5 := r3.cell 1
  clear hb28 r1 r2' r3
  clear hW1
  go_wp2_with fail
  refine (HZN.out _ HB28.out).mono ?_
  rintro e w29 ⟨rfl, hb29⟩
  have HB29 := Lib.hid (HB28.out.trans (hb29.mono HB28.out.size))
  obtain ⟨r1, r2', r3⟩ := HR.out _ HB29.out
  have e0 := r1.cell 0; have e1 := r1.cell 1; have e2 := r2'.cell 0; have e3 := r2'.cell 1; have e4 := r3.cell 0; have e5 := r3.cell 1
  clear hb29 r1 r2' r3
  go_wp2_with fail
  refine (HVL.out _ HB29.out).mono ?_
  rintro e w30 ⟨rfl, hb30⟩
  have HB30 := Lib.hid (HB29.out.trans (hb30.mono HB29.out.size))
  obtain ⟨r1, r2', r3⟩ := HR.out _ HB30.out
  have e0 := r1.cell 0; have e1 := r1.cell 1; have e2 := r2'.cell 0; have e3 := r2'.cell 1; have e4 := r3.cell 0; have e5 := r3.cell 1
  clear hb30 r1 r2' r3
  go_wp2_with fail
  refine (HP1.out _ HB30.out).mono ?_
  rintro e w31 ⟨rfl, hb31⟩
  have HB31 := Lib.hid (HB30.out.trans (hb31.mono HB30.out.size))
  obtain ⟨r1, r2', r3⟩ := HR.out _ HB31.out
  have e0 := r1.cell 0; have e1 := r1.cell 1; have e2 := r2'.cell 0; have e3 := r2'.cell 1; have e4 := r3.cell 0; have e5 := r3.cell 1
  clear hb31 r1 r2' r3
  go_wp2_with fail
  refine (HP2.out _ HB31.out).mono ?_
  rintro e w32 ⟨rfl, hb32⟩
  have HB32 := Lib.hid (HB31.out.trans (hb32.mono HB31.out.size))
  obtain ⟨r1, r2', r3⟩ := HR.out _ HB32.out
  have e0 := r1.cell 0; have e1 := r1.cell 1; have e2 := r2'.cell 0; have e3 := r2'.cell 1; have e4 := r3.cell 0; have e5 := r3.cell 1
  clear hb32 r1 r2' r3
  go_wp2_with fail
  refine (HKN.out _ HB32.out).mono ?_
  rintro e w33 ⟨rfl, hb33⟩
  have HB33 := Lib.hid (HB32.out.trans (hb33.mono HB32.out.size))
  obtain ⟨r1, r2', r3⟩ := HR.out _ HB33.out
  have e0 := r1.cell 0; have e1 := r1.cell 1; have e2 := r2'.cell 0; have e3 := r2'.cell 1; have e4 := r3.cell 0; have e5 := r3.cell 1
  clear hb33 r1 r2' r3
  go_wp2
  go_ret
  exact ⟨rfl, HB1.out.trans (HB33.out.mono HB1.out.size)⟩

set_option maxRecDepth 100000 in
set_option maxHeartbeats 4000000 in
theorem zon_r2 (A A2 : Option Addr) (c c2 : Nat) (p : Pl) (r r2 hx sx hy sy : Int) (w : World) (hP : PlAt w w.heap.size A c A2 c2 p) (hfew : fewB p = true) (hno : ¬ (Vld p ∧ railIn p r = true ∧ railIn p r2 = true ∧ (prB ⟨hx, sx⟩ && prB ⟨hy, sy⟩) = true)) (hv : Vld p) (hpx : prB ⟨hx, sx⟩ = true) (hpy : prB ⟨hy, sy⟩ = true) (hr : ¬ r < 0) (hr1 : (p.rails.length : Int) ≤ r) :
    Calls Tryz.prog 10 #[.agg #[.slice A p.nodes.length c, .slice A2 p.rails.length c2], .int .i64 r, .agg #[.int .i64 hx, .int .i64 sx], .int .i64 r2, .agg #[.int .i64 hy, .int .i64 sy]] w fun e w' => e = .returned (.bool true) ∧ Below w.heap.size w w' := by
  have hrm := hP.rm; have hrc := hP.rc
  have hb3 := (((Below.refl _ w).alloc (Nat.le_refl _) (.cells #[.slice A p.nodes.length c, .slice A2 p.rails.length c2] 25)).alloc (by simp) (.cells #[.int .i64 hx, .int .i64 sx] 46)).alloc (by simp; omega) (.cells #[.int .i64 hy, .int .i64 sy] 46)
  obtain ⟨q1, q2, q3⟩ := rows3 w #[.slice A p.nodes.length c, .slice A2 p.rails.length c2] #[.int .i64 hx, .int .i64 sx] #[.int .i64 hy, .int .i64 sy] 25 46 46
  have hz1 : (((w.alloc (.cells #[.slice A p.nodes.length c, .slice A2 p.rails.length c2] 25)).alloc (.cells #[.int .i64 hx, .int .i64 sx] 46)).alloc (.cells #[.int .i64 hy, .int .i64 sy] 46)).heap.size = w.heap.size + 3 := by simp
  obtain ⟨W1, hW1⟩ : ∃ z, (((w.alloc (.cells #[.slice A p.nodes.length c, .slice A2 p.rails.length c2] 25)).alloc (.cells #[.int .i64 hx, .int .i64 sx] 46)).alloc (.cells #[.int .i64 hy, .int .i64 sy] 46)) = z := ⟨_, rfl⟩
  rw [hW1] at hb3 q1 q2 q3 hz1
  have HB1 := Lib.hid hb3
  have HB0 := Lib.hid (Below.refl W1.heap.size W1)
  have HR := Lib.hid (show ∀ wx, Below W1.heap.size W1 wx → Rw wx w.heap.size 25 #[.slice A p.nodes.length c, .slice A2 p.rails.length c2] ∧ Rw wx (w.heap.size + 1) 46 #[.int .i64 hx, .int .i64 sx] ∧ Rw wx (w.heap.size + 1 + 1) 46 #[.int .i64 hy, .int .i64 sy] from fun wx h => ⟨q1.below h (by omega), q2.below h (by omega), q3.below h (by omega)⟩)
  have HPB := Lib.hid (show ∀ wx, Below W1.heap.size W1 wx → PlAt wx wx.heap.size A c A2 c2 p from fun wx h => ((hP.below hb3).below (h.mono hb3.size)).more (Nat.le_trans hb3.size h.size))
  have HKN := Lib.hid (show ∀ wx, Below W1.heap.size W1 wx → Calls Tryz.prog 16 #[] wx fun e w' => e = .returned (.bool true) ∧ Below wx.heap.size wx w' from fun wx _ => known_any wx)
  have e0 := q1.cell 0; have e1 := q1.cell 1; have e2 := q2.cell 0; have e3 := q2.cell 1; have e4 := q3.cell 0; have e5 := q3.cell 1
  have HFW := Lib.hid (show ∀ wx, Below W1.heap.size W1 wx → Calls Tryz.prog 15 #[.agg #[.slice A p.nodes.length c, .slice A2 p.rails.length c2]] wx fun e w' => e = .returned (.bool true) ∧ Below wx.heap.size wx w' from fun wx h => by have := few_any A A2 c c2 p wx (HPB.out wx h); rwa [hfew] at this)
  have HVL := Lib.hid (show ∀ wx, Below W1.heap.size W1 wx → Calls Tryz.prog 19 #[.agg #[.slice A p.nodes.length c, .slice A2 p.rails.length c2]] wx fun e w' => e = .returned (.bool true) ∧ Below wx.heap.size wx w' from fun wx h => (Valid_any A A2 c c2 p wx (HPB.out wx h)).mono (by rintro e w' ⟨⟨b, rfl, hb⟩, h2⟩; rw [hb.2 hv]; exact ⟨rfl, h2⟩))
  have HZN := Lib.hid (show ∀ wx, Below W1.heap.size W1 wx → Calls Tryz.prog 38 #[.agg #[.slice A p.nodes.length c, .slice A2 p.rails.length c2], .int .i64 r, .agg #[.int .i64 hx, .int .i64 sx], .int .i64 r2, .agg #[.int .i64 hy, .int .i64 sy]] wx fun e w' => e = .returned (.tuple #[.slice none 0 0, .int .i64 2]) ∧ Below wx.heap.size wx w' from fun wx h => Zone_no A A2 c c2 p r r2 hx sx hy sy wx (HPB.out wx h) hno)
  have HP1 := Lib.hid (show ∀ wx, Below W1.heap.size W1 wx → Calls Tryz.prog 29 #[.agg #[.int .i64 hx, .int .i64 sx]] wx fun e w' => e = .returned (.bool true) ∧ Below wx.heap.size wx w' from fun wx h => by have := rProfile_any ⟨hx, sx⟩ wx; rwa [hpx] at this)
  have HP2 := Lib.hid (show ∀ wx, Below W1.heap.size W1 wx → Calls Tryz.prog 29 #[.agg #[.int .i64 hy, .int .i64 sy]] wx fun e w' => e = .returned (.bool true) ∧ Below wx.heap.size wx w' from fun wx h => by have := rProfile_any ⟨hy, sy⟩ wx; rwa [hpy] at this)
  clear hb3 q1 q2 q3 hz1 hP
  go_enter Tryz.func10, Tryz.ntmps10
  go_wp2_with fail
  refine (HFW.out _ HB0.out).mono ?_
  rintro e w34 ⟨rfl, hb34⟩
  have HB34 := Lib.hid (HB0.out.trans (hb34.mono HB0.out.size))
  obtain ⟨r1, r2', r3⟩ := HR.out _ HB34.out
  have e0 := r1.cell 0; have e1 := r1.cell 1; have e2 := r2'.cell 0; have e3 := r2'.cell 1; have e4 := r3.cell 0; have e5 := r3.cell 1
  clear hb34 r1 r2' r3
  clear hW1
  go_wp2_with fail
  refine (HZN.out _ HB34.out).mono ?_
  rintro e w35 ⟨rfl, hb35⟩
  have HB35 := Lib.hid (HB34.out.trans (hb35.mono HB34.out.size))
  obtain ⟨r1, r2', r3⟩ := HR.out _ HB35.out
  have e0 := r1.cell 0; have e1 := r1.cell 1; have e2 := r2'.cell 0; have e3 := r2'.cell 1; have e4 := r3.cell 0; have e5 := r3.cell 1
  clear hb35 r1 r2' r3
  go_wp2_with fail
  refine (HVL.out _ HB35.out).mono ?_
  rintro e w36 ⟨rfl, hb36⟩
  have HB36 := Lib.hid (HB35.out.trans (hb36.mono HB35.out.size))
  obtain ⟨r1, r2', r3⟩ := HR.out _ HB36.out
  have e0 := r1.cell 0; have e1 := r1.cell 1; have e2 := r2'.cell 0; have e3 := r2'.cell 1; have e4 := r3.cell 0; have e5 := r3.cell 1
  clear hb36 r1 r2' r3
  go_wp2_with fail
  refine (HP1.out _ HB36.out).mono ?_
  rintro e w37 ⟨rfl, hb37⟩
  have HB37 := Lib.hid (HB36.out.trans (hb37.mono HB36.out.size))
  obtain ⟨r1, r2', r3⟩ := HR.out _ HB37.out
  have e0 := r1.cell 0; have e1 := r1.cell 1; have e2 := r2'.cell 0; have e3 := r2'.cell 1; have e4 := r3.cell 0; have e5 := r3.cell 1
  clear hb37 r1 r2' r3
  go_wp2_with fail
  refine (HP2.out _ HB37.out).mono ?_
  rintro e w38 ⟨rfl, hb38⟩
  have HB38 := Lib.hid (HB37.out.trans (hb38.mono HB37.out.size))
  obtain ⟨r1, r2', r3⟩ := HR.out _ HB38.out
  have e0 := r1.cell 0; have e1 := r1.cell 1; have e2 := r2'.cell 0; have e3 := r2'.cell 1; have e4 := r3.cell 0; have e5 := r3.cell 1
  clear hb38 r1 r2' r3
  go_wp2_with fail
  refine (HKN.out _ HB38.out).mono ?_
  rintro e w39 ⟨rfl, hb39⟩
  have HB39 := Lib.hid (HB38.out.trans (hb39.mono HB38.out.size))
  obtain ⟨r1, r2', r3⟩ := HR.out _ HB39.out
  have e0 := r1.cell 0; have e1 := r1.cell 1; have e2 := r2'.cell 0; have e3 := r2'.cell 1; have e4 := r3.cell 0; have e5 := r3.cell 1
  clear hb39 r1 r2' r3
  go_wp2
  go_ret
  exact ⟨rfl, HB1.out.trans (HB39.out.mono HB1.out.size)⟩

set_option maxRecDepth 100000 in
set_option maxHeartbeats 4000000 in
theorem zon_r3 (A A2 : Option Addr) (c c2 : Nat) (p : Pl) (r r2 hx sx hy sy : Int) (w : World) (hP : PlAt w w.heap.size A c A2 c2 p) (hfew : fewB p = true) (hno : ¬ (Vld p ∧ railIn p r = true ∧ railIn p r2 = true ∧ (prB ⟨hx, sx⟩ && prB ⟨hy, sy⟩) = true)) (hv : Vld p) (hpx : prB ⟨hx, sx⟩ = true) (hpy : prB ⟨hy, sy⟩ = true) (hr : ¬ r < 0) (hr1 : ¬ (p.rails.length : Int) ≤ r) (hs : r2 < 0) :
    Calls Tryz.prog 10 #[.agg #[.slice A p.nodes.length c, .slice A2 p.rails.length c2], .int .i64 r, .agg #[.int .i64 hx, .int .i64 sx], .int .i64 r2, .agg #[.int .i64 hy, .int .i64 sy]] w fun e w' => e = .returned (.bool true) ∧ Below w.heap.size w w' := by
  have hrm := hP.rm; have hrc := hP.rc
  have hb3 := (((Below.refl _ w).alloc (Nat.le_refl _) (.cells #[.slice A p.nodes.length c, .slice A2 p.rails.length c2] 25)).alloc (by simp) (.cells #[.int .i64 hx, .int .i64 sx] 46)).alloc (by simp; omega) (.cells #[.int .i64 hy, .int .i64 sy] 46)
  obtain ⟨q1, q2, q3⟩ := rows3 w #[.slice A p.nodes.length c, .slice A2 p.rails.length c2] #[.int .i64 hx, .int .i64 sx] #[.int .i64 hy, .int .i64 sy] 25 46 46
  have hz1 : (((w.alloc (.cells #[.slice A p.nodes.length c, .slice A2 p.rails.length c2] 25)).alloc (.cells #[.int .i64 hx, .int .i64 sx] 46)).alloc (.cells #[.int .i64 hy, .int .i64 sy] 46)).heap.size = w.heap.size + 3 := by simp
  obtain ⟨W1, hW1⟩ : ∃ z, (((w.alloc (.cells #[.slice A p.nodes.length c, .slice A2 p.rails.length c2] 25)).alloc (.cells #[.int .i64 hx, .int .i64 sx] 46)).alloc (.cells #[.int .i64 hy, .int .i64 sy] 46)) = z := ⟨_, rfl⟩
  rw [hW1] at hb3 q1 q2 q3 hz1
  have HB1 := Lib.hid hb3
  have HB0 := Lib.hid (Below.refl W1.heap.size W1)
  have HR := Lib.hid (show ∀ wx, Below W1.heap.size W1 wx → Rw wx w.heap.size 25 #[.slice A p.nodes.length c, .slice A2 p.rails.length c2] ∧ Rw wx (w.heap.size + 1) 46 #[.int .i64 hx, .int .i64 sx] ∧ Rw wx (w.heap.size + 1 + 1) 46 #[.int .i64 hy, .int .i64 sy] from fun wx h => ⟨q1.below h (by omega), q2.below h (by omega), q3.below h (by omega)⟩)
  have HPB := Lib.hid (show ∀ wx, Below W1.heap.size W1 wx → PlAt wx wx.heap.size A c A2 c2 p from fun wx h => ((hP.below hb3).below (h.mono hb3.size)).more (Nat.le_trans hb3.size h.size))
  have HKN := Lib.hid (show ∀ wx, Below W1.heap.size W1 wx → Calls Tryz.prog 16 #[] wx fun e w' => e = .returned (.bool true) ∧ Below wx.heap.size wx w' from fun wx _ => known_any wx)
  have e0 := q1.cell 0; have e1 := q1.cell 1; have e2 := q2.cell 0; have e3 := q2.cell 1; have e4 := q3.cell 0; have e5 := q3.cell 1
  have HFW := Lib.hid (show ∀ wx, Below W1.heap.size W1 wx → Calls Tryz.prog 15 #[.agg #[.slice A p.nodes.length c, .slice A2 p.rails.length c2]] wx fun e w' => e = .returned (.bool true) ∧ Below wx.heap.size wx w' from fun wx h => by have := few_any A A2 c c2 p wx (HPB.out wx h); rwa [hfew] at this)
  have HVL := Lib.hid (show ∀ wx, Below W1.heap.size W1 wx → Calls Tryz.prog 19 #[.agg #[.slice A p.nodes.length c, .slice A2 p.rails.length c2]] wx fun e w' => e = .returned (.bool true) ∧ Below wx.heap.size wx w' from fun wx h => (Valid_any A A2 c c2 p wx (HPB.out wx h)).mono (by rintro e w' ⟨⟨b, rfl, hb⟩, h2⟩; rw [hb.2 hv]; exact ⟨rfl, h2⟩))
  have HZN := Lib.hid (show ∀ wx, Below W1.heap.size W1 wx → Calls Tryz.prog 38 #[.agg #[.slice A p.nodes.length c, .slice A2 p.rails.length c2], .int .i64 r, .agg #[.int .i64 hx, .int .i64 sx], .int .i64 r2, .agg #[.int .i64 hy, .int .i64 sy]] wx fun e w' => e = .returned (.tuple #[.slice none 0 0, .int .i64 2]) ∧ Below wx.heap.size wx w' from fun wx h => Zone_no A A2 c c2 p r r2 hx sx hy sy wx (HPB.out wx h) hno)
  have HP1 := Lib.hid (show ∀ wx, Below W1.heap.size W1 wx → Calls Tryz.prog 29 #[.agg #[.int .i64 hx, .int .i64 sx]] wx fun e w' => e = .returned (.bool true) ∧ Below wx.heap.size wx w' from fun wx h => by have := rProfile_any ⟨hx, sx⟩ wx; rwa [hpx] at this)
  have HP2 := Lib.hid (show ∀ wx, Below W1.heap.size W1 wx → Calls Tryz.prog 29 #[.agg #[.int .i64 hy, .int .i64 sy]] wx fun e w' => e = .returned (.bool true) ∧ Below wx.heap.size wx w' from fun wx h => by have := rProfile_any ⟨hy, sy⟩ wx; rwa [hpy] at this)
  clear hb3 q1 q2 q3 hz1 hP
  go_enter Tryz.func10, Tryz.ntmps10
  go_wp2_with fail
  refine (HFW.out _ HB0.out).mono ?_
  rintro e w40 ⟨rfl, hb40⟩
  have HB40 := Lib.hid (HB0.out.trans (hb40.mono HB0.out.size))
  obtain ⟨r1, r2', r3⟩ := HR.out _ HB40.out
  have e0 := r1.cell 0; have e1 := r1.cell 1; have e2 := r2'.cell 0; have e3 := r2'.cell 1; have e4 := r3.cell 0; have e5 := r3.cell 1
  clear hb40 r1 r2' r3
  clear hW1
  go_wp2_with fail
  refine (HZN.out _ HB40.out).mono ?_
  rintro e w41 ⟨rfl, hb41⟩
  have HB41 := Lib.hid (HB40.out.trans (hb41.mono HB40.out.size))
  obtain ⟨r1, r2', r3⟩ := HR.out _ HB41.out
  have e0 := r1.cell 0; have e1 := r1.cell 1; have e2 := r2'.cell 0; have e3 := r2'.cell 1; have e4 := r3.cell 0; have e5 := r3.cell 1
  clear hb41 r1 r2' r3
  go_wp2_with fail
  refine (HVL.out _ HB41.out).mono ?_
  rintro e w42 ⟨rfl, hb42⟩
  have HB42 := Lib.hid (HB41.out.trans (hb42.mono HB41.out.size))
  obtain ⟨r1, r2', r3⟩ := HR.out _ HB42.out
  have e0 := r1.cell 0; have e1 := r1.cell 1; have e2 := r2'.cell 0; have e3 := r2'.cell 1; have e4 := r3.cell 0; have e5 := r3.cell 1
  clear hb42 r1 r2' r3
  go_wp2_with fail
  refine (HP1.out _ HB42.out).mono ?_
  rintro e w43 ⟨rfl, hb43⟩
  have HB43 := Lib.hid (HB42.out.trans (hb43.mono HB42.out.size))
  obtain ⟨r1, r2', r3⟩ := HR.out _ HB43.out
  have e0 := r1.cell 0; have e1 := r1.cell 1; have e2 := r2'.cell 0; have e3 := r2'.cell 1; have e4 := r3.cell 0; have e5 := r3.cell 1
  clear hb43 r1 r2' r3
  go_wp2_with fail
  refine (HP2.out _ HB43.out).mono ?_
  rintro e w44 ⟨rfl, hb44⟩
  have HB44 := Lib.hid (HB43.out.trans (hb44.mono HB43.out.size))
  obtain ⟨r1, r2', r3⟩ := HR.out _ HB44.out
  have e0 := r1.cell 0; have e1 := r1.cell 1; have e2 := r2'.cell 0; have e3 := r2'.cell 1; have e4 := r3.cell 0; have e5 := r3.cell 1
  clear hb44 r1 r2' r3
  go_wp2_with fail
  refine (HKN.out _ HB44.out).mono ?_
  rintro e w45 ⟨rfl, hb45⟩
  have HB45 := Lib.hid (HB44.out.trans (hb45.mono HB44.out.size))
  obtain ⟨r1, r2', r3⟩ := HR.out _ HB45.out
  have e0 := r1.cell 0; have e1 := r1.cell 1; have e2 := r2'.cell 0; have e3 := r2'.cell 1; have e4 := r3.cell 0; have e5 := r3.cell 1
  clear hb45 r1 r2' r3
  go_wp2
  go_ret
  exact ⟨rfl, HB1.out.trans (HB45.out.mono HB1.out.size)⟩

set_option maxRecDepth 100000 in
set_option maxHeartbeats 4000000 in
theorem zon_r4 (A A2 : Option Addr) (c c2 : Nat) (p : Pl) (r r2 hx sx hy sy : Int) (w : World) (hP : PlAt w w.heap.size A c A2 c2 p) (hfew : fewB p = true) (hno : ¬ (Vld p ∧ railIn p r = true ∧ railIn p r2 = true ∧ (prB ⟨hx, sx⟩ && prB ⟨hy, sy⟩) = true)) (hv : Vld p) (hpx : prB ⟨hx, sx⟩ = true) (hpy : prB ⟨hy, sy⟩ = true) (hr : ¬ r < 0) (hr1 : ¬ (p.rails.length : Int) ≤ r) (hs : ¬ r2 < 0) (hs1 : (p.rails.length : Int) ≤ r2) :
    Calls Tryz.prog 10 #[.agg #[.slice A p.nodes.length c, .slice A2 p.rails.length c2], .int .i64 r, .agg #[.int .i64 hx, .int .i64 sx], .int .i64 r2, .agg #[.int .i64 hy, .int .i64 sy]] w fun e w' => e = .returned (.bool true) ∧ Below w.heap.size w w' := by
  have hrm := hP.rm; have hrc := hP.rc
  have hb3 := (((Below.refl _ w).alloc (Nat.le_refl _) (.cells #[.slice A p.nodes.length c, .slice A2 p.rails.length c2] 25)).alloc (by simp) (.cells #[.int .i64 hx, .int .i64 sx] 46)).alloc (by simp; omega) (.cells #[.int .i64 hy, .int .i64 sy] 46)
  obtain ⟨q1, q2, q3⟩ := rows3 w #[.slice A p.nodes.length c, .slice A2 p.rails.length c2] #[.int .i64 hx, .int .i64 sx] #[.int .i64 hy, .int .i64 sy] 25 46 46
  have hz1 : (((w.alloc (.cells #[.slice A p.nodes.length c, .slice A2 p.rails.length c2] 25)).alloc (.cells #[.int .i64 hx, .int .i64 sx] 46)).alloc (.cells #[.int .i64 hy, .int .i64 sy] 46)).heap.size = w.heap.size + 3 := by simp
  obtain ⟨W1, hW1⟩ : ∃ z, (((w.alloc (.cells #[.slice A p.nodes.length c, .slice A2 p.rails.length c2] 25)).alloc (.cells #[.int .i64 hx, .int .i64 sx] 46)).alloc (.cells #[.int .i64 hy, .int .i64 sy] 46)) = z := ⟨_, rfl⟩
  rw [hW1] at hb3 q1 q2 q3 hz1
  have HB1 := Lib.hid hb3
  have HB0 := Lib.hid (Below.refl W1.heap.size W1)
  have HR := Lib.hid (show ∀ wx, Below W1.heap.size W1 wx → Rw wx w.heap.size 25 #[.slice A p.nodes.length c, .slice A2 p.rails.length c2] ∧ Rw wx (w.heap.size + 1) 46 #[.int .i64 hx, .int .i64 sx] ∧ Rw wx (w.heap.size + 1 + 1) 46 #[.int .i64 hy, .int .i64 sy] from fun wx h => ⟨q1.below h (by omega), q2.below h (by omega), q3.below h (by omega)⟩)
  have HPB := Lib.hid (show ∀ wx, Below W1.heap.size W1 wx → PlAt wx wx.heap.size A c A2 c2 p from fun wx h => ((hP.below hb3).below (h.mono hb3.size)).more (Nat.le_trans hb3.size h.size))
  have HKN := Lib.hid (show ∀ wx, Below W1.heap.size W1 wx → Calls Tryz.prog 16 #[] wx fun e w' => e = .returned (.bool true) ∧ Below wx.heap.size wx w' from fun wx _ => known_any wx)
  have e0 := q1.cell 0; have e1 := q1.cell 1; have e2 := q2.cell 0; have e3 := q2.cell 1; have e4 := q3.cell 0; have e5 := q3.cell 1
  have HFW := Lib.hid (show ∀ wx, Below W1.heap.size W1 wx → Calls Tryz.prog 15 #[.agg #[.slice A p.nodes.length c, .slice A2 p.rails.length c2]] wx fun e w' => e = .returned (.bool true) ∧ Below wx.heap.size wx w' from fun wx h => by have := few_any A A2 c c2 p wx (HPB.out wx h); rwa [hfew] at this)
  have HVL := Lib.hid (show ∀ wx, Below W1.heap.size W1 wx → Calls Tryz.prog 19 #[.agg #[.slice A p.nodes.length c, .slice A2 p.rails.length c2]] wx fun e w' => e = .returned (.bool true) ∧ Below wx.heap.size wx w' from fun wx h => (Valid_any A A2 c c2 p wx (HPB.out wx h)).mono (by rintro e w' ⟨⟨b, rfl, hb⟩, h2⟩; rw [hb.2 hv]; exact ⟨rfl, h2⟩))
  have HZN := Lib.hid (show ∀ wx, Below W1.heap.size W1 wx → Calls Tryz.prog 38 #[.agg #[.slice A p.nodes.length c, .slice A2 p.rails.length c2], .int .i64 r, .agg #[.int .i64 hx, .int .i64 sx], .int .i64 r2, .agg #[.int .i64 hy, .int .i64 sy]] wx fun e w' => e = .returned (.tuple #[.slice none 0 0, .int .i64 2]) ∧ Below wx.heap.size wx w' from fun wx h => Zone_no A A2 c c2 p r r2 hx sx hy sy wx (HPB.out wx h) hno)
  have HP1 := Lib.hid (show ∀ wx, Below W1.heap.size W1 wx → Calls Tryz.prog 29 #[.agg #[.int .i64 hx, .int .i64 sx]] wx fun e w' => e = .returned (.bool true) ∧ Below wx.heap.size wx w' from fun wx h => by have := rProfile_any ⟨hx, sx⟩ wx; rwa [hpx] at this)
  have HP2 := Lib.hid (show ∀ wx, Below W1.heap.size W1 wx → Calls Tryz.prog 29 #[.agg #[.int .i64 hy, .int .i64 sy]] wx fun e w' => e = .returned (.bool true) ∧ Below wx.heap.size wx w' from fun wx h => by have := rProfile_any ⟨hy, sy⟩ wx; rwa [hpy] at this)
  clear hb3 q1 q2 q3 hz1 hP
  go_enter Tryz.func10, Tryz.ntmps10
  go_wp2_with fail
  refine (HFW.out _ HB0.out).mono ?_
  rintro e w46 ⟨rfl, hb46⟩
  have HB46 := Lib.hid (HB0.out.trans (hb46.mono HB0.out.size))
  obtain ⟨r1, r2', r3⟩ := HR.out _ HB46.out
  have e0 := r1.cell 0; have e1 := r1.cell 1; have e2 := r2'.cell 0; have e3 := r2'.cell 1; have e4 := r3.cell 0; have e5 := r3.cell 1
  clear hb46 r1 r2' r3
  clear hW1
  go_wp2_with fail
  refine (HZN.out _ HB46.out).mono ?_
  rintro e w47 ⟨rfl, hb47⟩
  have HB47 := Lib.hid (HB46.out.trans (hb47.mono HB46.out.size))
  obtain ⟨r1, r2', r3⟩ := HR.out _ HB47.out
  have e0 := r1.cell 0; have e1 := r1.cell 1; have e2 := r2'.cell 0; have e3 := r2'.cell 1; have e4 := r3.cell 0; have e5 := r3.cell 1
  clear hb47 r1 r2' r3
  go_wp2_with fail
  refine (HVL.out _ HB47.out).mono ?_
  rintro e w48 ⟨rfl, hb48⟩
  have HB48 := Lib.hid (HB47.out.trans (hb48.mono HB47.out.size))
  obtain ⟨r1, r2', r3⟩ := HR.out _ HB48.out
  have e0 := r1.cell 0; have e1 := r1.cell 1; have e2 := r2'.cell 0; have e3 := r2'.cell 1; have e4 := r3.cell 0; have e5 := r3.cell 1
  clear hb48 r1 r2' r3
  go_wp2_with fail
  refine (HP1.out _ HB48.out).mono ?_
  rintro e w49 ⟨rfl, hb49⟩
  have HB49 := Lib.hid (HB48.out.trans (hb49.mono HB48.out.size))
  obtain ⟨r1, r2', r3⟩ := HR.out _ HB49.out
  have e0 := r1.cell 0; have e1 := r1.cell 1; have e2 := r2'.cell 0; have e3 := r2'.cell 1; have e4 := r3.cell 0; have e5 := r3.cell 1
  clear hb49 r1 r2' r3
  go_wp2_with fail
  refine (HP2.out _ HB49.out).mono ?_
  rintro e w50 ⟨rfl, hb50⟩
  have HB50 := Lib.hid (HB49.out.trans (hb50.mono HB49.out.size))
  obtain ⟨r1, r2', r3⟩ := HR.out _ HB50.out
  have e0 := r1.cell 0; have e1 := r1.cell 1; have e2 := r2'.cell 0; have e3 := r2'.cell 1; have e4 := r3.cell 0; have e5 := r3.cell 1
  clear hb50 r1 r2' r3
  go_wp2_with fail
  refine (HKN.out _ HB50.out).mono ?_
  rintro e w51 ⟨rfl, hb51⟩
  have HB51 := Lib.hid (HB50.out.trans (hb51.mono HB50.out.size))
  obtain ⟨r1, r2', r3⟩ := HR.out _ HB51.out
  have e0 := r1.cell 0; have e1 := r1.cell 1; have e2 := r2'.cell 0; have e3 := r2'.cell 1; have e4 := r3.cell 0; have e5 := r3.cell 1
  clear hb51 r1 r2' r3
  go_wp2
  go_ret
  exact ⟨rfl, HB1.out.trans (HB51.out.mono HB1.out.size)⟩

set_option maxRecDepth 100000 in
set_option maxHeartbeats 4000000 in
theorem zon_yes (A A2 : Option Addr) (c c2 : Nat) (p : Pl) (r r2 hx sx hy sy : Int) (w : World) (hP : PlAt w w.heap.size A c A2 c2 p) (hfew : fewB p = true) (hv : Vld p) (hpx : prB ⟨hx, sx⟩ = true) (hpy : prB ⟨hy, sy⟩ = true) (hr : ¬ r < 0) (hr1 : ¬ (p.rails.length : Int) ≤ r) (hs : ¬ r2 < 0) (hs1 : ¬ (p.rails.length : Int) ≤ r2) :
    Calls Tryz.prog 10 #[.agg #[.slice A p.nodes.length c, .slice A2 p.rails.length c2], .int .i64 r, .agg #[.int .i64 hx, .int .i64 sx], .int .i64 r2, .agg #[.int .i64 hy, .int .i64 sy]] w fun e w' => e = .returned (.bool true) ∧ Below w.heap.size w w' := by
  have hrm := hP.rm; have hrc := hP.rc
  have hb3 := (((Below.refl _ w).alloc (Nat.le_refl _) (.cells #[.slice A p.nodes.length c, .slice A2 p.rails.length c2] 25)).alloc (by simp) (.cells #[.int .i64 hx, .int .i64 sx] 46)).alloc (by simp; omega) (.cells #[.int .i64 hy, .int .i64 sy] 46)
  obtain ⟨q1, q2, q3⟩ := rows3 w #[.slice A p.nodes.length c, .slice A2 p.rails.length c2] #[.int .i64 hx, .int .i64 sx] #[.int .i64 hy, .int .i64 sy] 25 46 46
  have hz1 : (((w.alloc (.cells #[.slice A p.nodes.length c, .slice A2 p.rails.length c2] 25)).alloc (.cells #[.int .i64 hx, .int .i64 sx] 46)).alloc (.cells #[.int .i64 hy, .int .i64 sy] 46)).heap.size = w.heap.size + 3 := by simp
  obtain ⟨W1, hW1⟩ : ∃ z, (((w.alloc (.cells #[.slice A p.nodes.length c, .slice A2 p.rails.length c2] 25)).alloc (.cells #[.int .i64 hx, .int .i64 sx] 46)).alloc (.cells #[.int .i64 hy, .int .i64 sy] 46)) = z := ⟨_, rfl⟩
  rw [hW1] at hb3 q1 q2 q3 hz1
  have HB1 := Lib.hid hb3
  have HB0 := Lib.hid (Below.refl W1.heap.size W1)
  have HR := Lib.hid (show ∀ wx, Below W1.heap.size W1 wx → Rw wx w.heap.size 25 #[.slice A p.nodes.length c, .slice A2 p.rails.length c2] ∧ Rw wx (w.heap.size + 1) 46 #[.int .i64 hx, .int .i64 sx] ∧ Rw wx (w.heap.size + 1 + 1) 46 #[.int .i64 hy, .int .i64 sy] from fun wx h => ⟨q1.below h (by omega), q2.below h (by omega), q3.below h (by omega)⟩)
  have HPB := Lib.hid (show ∀ wx, Below W1.heap.size W1 wx → PlAt wx wx.heap.size A c A2 c2 p from fun wx h => ((hP.below hb3).below (h.mono hb3.size)).more (Nat.le_trans hb3.size h.size))
  have HKN := Lib.hid (show ∀ wx, Below W1.heap.size W1 wx → Calls Tryz.prog 16 #[] wx fun e w' => e = .returned (.bool true) ∧ Below wx.heap.size wx w' from fun wx _ => known_any wx)
  have e0 := q1.cell 0; have e1 := q1.cell 1; have e2 := q2.cell 0; have e3 := q2.cell 1; have e4 := q3.cell 0; have e5 := q3.cell 1
  have HFW := Lib.hid (show ∀ wx, Below W1.heap.size W1 wx → Calls Tryz.prog 15 #[.agg #[.slice A p.nodes.length c, .slice A2 p.rails.length c2]] wx fun e w' => e = .returned (.bool true) ∧ Below wx.heap.size wx w' from fun wx h => by have := few_any A A2 c c2 p wx (HPB.out wx h); rwa [hfew] at this)
  have HVL := Lib.hid (show ∀ wx, Below W1.heap.size W1 wx → Calls Tryz.prog 19 #[.agg #[.slice A p.nodes.length c, .slice A2 p.rails.length c2]] wx fun e w' => e = .returned (.bool true) ∧ Below wx.heap.size wx w' from fun wx h => (Valid_any A A2 c c2 p wx (HPB.out wx h)).mono (by rintro e w' ⟨⟨b, rfl, hb⟩, h2⟩; rw [hb.2 hv]; exact ⟨rfl, h2⟩))
  have HP1 := Lib.hid (show ∀ wx, Below W1.heap.size W1 wx → Calls Tryz.prog 29 #[.agg #[.int .i64 hx, .int .i64 sx]] wx fun e w' => e = .returned (.bool true) ∧ Below wx.heap.size wx w' from fun wx h => by have := rProfile_any ⟨hx, sx⟩ wx; rwa [hpx] at this)
  have HP2 := Lib.hid (show ∀ wx, Below W1.heap.size W1 wx → Calls Tryz.prog 29 #[.agg #[.int .i64 hy, .int .i64 sy]] wx fun e w' => e = .returned (.bool true) ∧ Below wx.heap.size wx w' from fun wx h => by have := rProfile_any ⟨hy, sy⟩ wx; rwa [hpy] at this)
  obtain ⟨rn, er⟩ := Int.eq_ofNat_of_zero_le (show 0 ≤ r by omega)
  obtain ⟨rn2, er2⟩ := Int.eq_ofNat_of_zero_le (show 0 ≤ r2 by omega)
  have hL := Vld.rl hv (show rn < p.rails.length by omega)
  have hL2 := Vld.rl hv (show rn2 < p.rails.length by omega)
  obtain ⟨L, eL⟩ : ∃ z, lineOf p p.rails[rn] = z := ⟨_, rfl⟩
  obtain ⟨L2, eL2⟩ : ∃ z, lineOf p p.rails[rn2] = z := ⟨_, rfl⟩
  rw [eL] at hL
  rw [eL2] at hL2
  obtain ⟨m, hm⟩ : ∃ m, L.length = m + 1 := ⟨L.length - 1, by have := hL.le; omega⟩
  obtain ⟨m2, hm2⟩ : ∃ m, L2.length = m + 1 := ⟨L2.length - 1, by have := hL2.le; omega⟩
  have hzlen := zoneL_len rn L (fun k => (List.range m2).any fun j => foulB (stripAt rn L k) (stripAt rn2 L2 j) hx sx hy sy) m
  obtain ⟨zl, hzl⟩ : ∃ z, zoneL rn L (fun k => (List.range m2).any fun j => foulB (stripAt rn L k) (stripAt rn2 L2 j) hx sx hy sy) m = z := ⟨_, rfl⟩
  rw [hzl] at hzlen
  have HZL := Lib.hid (show zl.length ≤ 140737488351232 from by have := hL.le; omega)
  have HZY := Lib.hid (show ∀ wx, Below W1.heap.size W1 wx → Calls Tryz.prog 38 #[.agg #[.slice A p.nodes.length c, .slice A2 p.rails.length c2], .int .i64 r, .agg #[.int .i64 hx, .int .i64 sx], .int .i64 r2, .agg #[.int .i64 hy, .int .i64 sy]] wx fun e w' => (∃ v, e = .returned (.tuple #[v, .int .i64 0]) ∧ Own w' wx.heap.size 79 3 fC v zl) ∧ Below wx.heap.size wx w' from fun wx h => by
    have := Zone_yes A A2 c c2 p rn rn2 m m2 L L2 hx sx hy sy wx (HPB.out wx h) hv hL hL2 hm hm2 (prB_pr hpx) (prB_pr hpy) (by rw [hpx, hpy]; rfl)
    rw [hzl] at this
    rw [er, er2]
    exact this.mono (by rintro e w' ⟨v, rfl, h1, h2⟩; exact ⟨⟨v, rfl, h1⟩, h2⟩))
  have HRZ := Lib.hid (show ∀ wx, Below W1.heap.size W1 wx → Calls Tryz.prog 40 #[.agg #[.slice A p.nodes.length c, .slice A2 p.rails.length c2], .int .i64 r, .agg #[.int .i64 hx, .int .i64 sx], .int .i64 r2, .agg #[.int .i64 hy, .int .i64 sy]] wx fun e w' => (∃ v, e = .returned v ∧ Own w' wx.heap.size 79 3 fC v zl) ∧ Below wx.heap.size wx w' from fun wx h => by
    have := rZone_any A A2 c c2 p rn rn2 m m2 L L2 hx sx hy sy wx (HPB.out wx h) hL hL2 hm hm2 (prB_pr hpx) (prB_pr hpy)
    rw [hzl] at this
    rw [er, er2]
    exact this.mono (by rintro e w' ⟨v, rfl, h1, h2⟩; exact ⟨⟨v, rfl, h1⟩, h2⟩))
  clear hzl hzlen hL hL2 hm hm2 eL eL2 er er2
  clear hb3 q1 q2 q3 hz1 hP
  go_enter Tryz.func10, Tryz.ntmps10
  go_wp2_with fail
  refine (HFW.out _ HB0.out).mono ?_
  rintro e w52 ⟨rfl, hb52⟩
  have HB52 := Lib.hid (HB0.out.trans (hb52.mono HB0.out.size))
  obtain ⟨r1, r2', r3⟩ := HR.out _ HB52.out
  have e0 := r1.cell 0; have e1 := r1.cell 1; have e2 := r2'.cell 0; have e3 := r2'.cell 1; have e4 := r3.cell 0; have e5 := r3.cell 1
  clear hb52 r1 r2' r3
  clear hW1
  go_wp2_with fail
  refine (HZY.out _ HB52.out).mono ?_
  rintro e w53 ⟨⟨vz, rfl, hoz⟩, hb53⟩
  have HB53 := Lib.hid (HB52.out.trans (hb53.mono HB52.out.size))
  obtain ⟨r1, r2', r3⟩ := HR.out _ HB53.out
  have e0 := r1.cell 0; have e1 := r1.cell 1; have e2 := r2'.cell 0; have e3 := r2'.cell 1; have e4 := r3.cell 0; have e5 := r3.cell 1
  obtain ⟨Az, cz, rfl, _, _, _⟩ := hoz.form
  have HOZ := Lib.hid hoz
  have HWZ := Lib.hid (show ∀ wx, Below w53.heap.size w53 wx → Sl wx wx.heap.size 3 CC Az zl from fun wx h => (HOZ.out.below h (Nat.le_refl _)).sl fC_len rfl)
  have HBZ := Lib.hid (Below.refl w53.heap.size w53)
  clear hoz HOZ
  clear hb53 r1 r2' r3
  go_wp2_with fail
  refine (HVL.out _ HB53.out).mono ?_
  rintro e w54 ⟨rfl, hb54⟩
  have HB54 := Lib.hid (HB53.out.trans (hb54.mono HB53.out.size))
  obtain ⟨r1, r2', r3⟩ := HR.out _ HB54.out
  have e0 := r1.cell 0; have e1 := r1.cell 1; have e2 := r2'.cell 0; have e3 := r2'.cell 1; have e4 := r3.cell 0; have e5 := r3.cell 1
  have HBZ := Lib.hid (HBZ.out.trans (hb54.mono HBZ.out.size))
  clear hb54 r1 r2' r3
  go_wp2_with fail
  refine (HP1.out _ HB54.out).mono ?_
  rintro e w55 ⟨rfl, hb55⟩
  have HB55 := Lib.hid (HB54.out.trans (hb55.mono HB54.out.size))
  obtain ⟨r1, r2', r3⟩ := HR.out _ HB55.out
  have e0 := r1.cell 0; have e1 := r1.cell 1; have e2 := r2'.cell 0; have e3 := r2'.cell 1; have e4 := r3.cell 0; have e5 := r3.cell 1
  have HBZ := Lib.hid (HBZ.out.trans (hb55.mono HBZ.out.size))
  clear hb55 r1 r2' r3
  go_wp2_with fail
  refine (HP2.out _ HB55.out).mono ?_
  rintro e w56 ⟨rfl, hb56⟩
  have HB56 := Lib.hid (HB55.out.trans (hb56.mono HB55.out.size))
  obtain ⟨r1, r2', r3⟩ := HR.out _ HB56.out
  have e0 := r1.cell 0; have e1 := r1.cell 1; have e2 := r2'.cell 0; have e3 := r2'.cell 1; have e4 := r3.cell 0; have e5 := r3.cell 1
  have HBZ := Lib.hid (HBZ.out.trans (hb56.mono HBZ.out.size))
  clear hb56 r1 r2' r3
  go_wp2_with fail
  refine (HRZ.out _ HB56.out).mono ?_
  rintro e w57 ⟨⟨vr, rfl, hor⟩, hb57⟩
  have HB57 := Lib.hid (HB56.out.trans (hb57.mono HB56.out.size))
  obtain ⟨r1, r2', r3⟩ := HR.out _ HB57.out
  have e0 := r1.cell 0; have e1 := r1.cell 1; have e2 := r2'.cell 0; have e3 := r2'.cell 1; have e4 := r3.cell 0; have e5 := r3.cell 1
  have HBZ := Lib.hid (HBZ.out.trans (hb57.mono HBZ.out.size))
  obtain ⟨Ar, cr, rfl, _, _, _⟩ := hor.form
  have HSC := Lib.hid (sameCovers_any Az Ar zl zl cz cr w57 (HWZ.out _ HBZ.out) (hor.sl fC_len rfl) HZL.out)
  clear hor
  clear hb57 r1 r2' r3
  go_wp2_with fail
  refine (HSC.out).mono ?_
  rintro e w8 ⟨⟨b, rfl, hbl⟩, hb8⟩
  obtain rfl : b = true := hbl.2 rfl
  have HB8 := Lib.hid (HB57.out.trans (hb8.mono HB57.out.size))
  clear hb8 hbl
  go_wp2_with fail
  refine (HKN.out _ HB8.out).mono ?_
  rintro e w9 ⟨rfl, hb9⟩
  have HB9 := Lib.hid (HB8.out.trans (hb9.mono HB8.out.size))
  clear hb9
  go_wp2
  go_ret
  exact ⟨rfl, HB1.out.trans (HB9.out.mono HB1.out.size)⟩

theorem SweepZones_any (A A2 : Option Addr) (c c2 : Nat) (p : Pl) (r hx sx r2 hy sy : Int) (w : World) (hP : PlAt w w.heap.size A c A2 c2 p) :
    Calls Tryz.prog 10 #[.agg #[.slice A p.nodes.length c, .slice A2 p.rails.length c2], .int .i64 r, .agg #[.int .i64 hx, .int .i64 sx], .int .i64 r2, .agg #[.int .i64 hy, .int .i64 sy]] w fun e w' => e = .returned (.bool true) ∧ Below w.heap.size w w' := by
  have hin : ∀ x : Int, (railIn p x = true ↔ ¬ x < 0 ∧ ¬ (p.rails.length : Int) ≤ x) := fun x => by unfold railIn; rw [decide_eq_true_iff]; omega
  cases hfew : fewB p with
  | false => exact zon_few A A2 c c2 p r r2 hx sx hy sy w hP hfew
  | true =>
    by_cases hv : Vld p
    · cases hpx : prB ⟨hx, sx⟩ with
      | false => exact zon_p1 A A2 c c2 p r r2 hx sx hy sy w hP hfew (fun h => by have := h.2.2.2; rw [hpx] at this; cases this) hv hpx
      | true =>
        cases hpy : prB ⟨hy, sy⟩ with
        | false => exact zon_p2 A A2 c c2 p r r2 hx sx hy sy w hP hfew (fun h => by have := h.2.2.2; rw [hpx, hpy] at this; cases this) hv hpx hpy
        | true =>
          by_cases hr : r < 0
          · exact zon_r1 A A2 c c2 p r r2 hx sx hy sy w hP hfew (fun h => ((hin r).1 h.2.1).1 hr) hv hpx hpy hr
          · by_cases hr1 : (p.rails.length : Int) ≤ r
            · exact zon_r2 A A2 c c2 p r r2 hx sx hy sy w hP hfew (fun h => ((hin r).1 h.2.1).2 hr1) hv hpx hpy hr hr1
            · by_cases hs : r2 < 0
              · exact zon_r3 A A2 c c2 p r r2 hx sx hy sy w hP hfew (fun h => ((hin r2).1 h.2.2.1).1 hs) hv hpx hpy hr hr1 hs
              · by_cases hs1 : (p.rails.length : Int) ≤ r2
                · exact zon_r4 A A2 c c2 p r r2 hx sx hy sy w hP hfew (fun h => ((hin r2).1 h.2.2.1).2 hs1) hv hpx hpy hr hr1 hs hs1
                · exact zon_yes A A2 c c2 p r r2 hx sx hy sy w hP hfew hv hpx hpy hr hr1 hs hs1
    · exact zon_n1 A A2 c c2 p r r2 hx sx hy sy w hP hfew (fun h => hv h.1) hv
end Go.Proofs.YtekambdnmaompaaGreat.SW
