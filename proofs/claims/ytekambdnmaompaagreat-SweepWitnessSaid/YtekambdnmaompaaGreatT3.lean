/- The law SweepWitness in general. -/
import Derived.Test.YtekambdnmaompaaGreatK7
import Derived.Test.YtekambdnmaompaaGreatJ8
import Derived.Test.YtekambdnmaompaaGreatV1
namespace Go.Proofs.YtekambdnmaompaaGreat.SW
set_option linter.unusedVariables false
set_option linter.unusedSimpArgs false
open Go.RowKit


set_option maxRecDepth 100000 in
set_option maxHeartbeats 4000000 in
theorem wit_few (A A2 : Option Addr) (c c2 : Nat) (p : Pl) (r r2 : Int) (w : World) (hP : PlAt w w.heap.size A c A2 c2 p) (hfew : fewB p = false) :
    Calls Tryz.prog 9 #[.agg #[.slice A p.nodes.length c, .slice A2 p.rails.length c2], .int .i64 r, .int .i64 r2] w fun e w' => e = .returned (.bool true) ∧ Below w.heap.size w w' := by
  have hrm := hP.rm; have hrc := hP.rc
  have hb1 := (Below.refl _ w).alloc (Nat.le_refl _) (.cells #[.slice A p.nodes.length c, .slice A2 p.rails.length c2] 25)
  have q1 := Rw.new w #[.slice A p.nodes.length c, .slice A2 p.rails.length c2] 25
  have hz1 : (w.alloc (.cells #[.slice A p.nodes.length c, .slice A2 p.rails.length c2] 25)).heap.size = w.heap.size + 1 := by simp
  obtain ⟨W1, hW1⟩ : ∃ z, w.alloc (.cells #[.slice A p.nodes.length c, .slice A2 p.rails.length c2] 25) = z := ⟨_, rfl⟩
  rw [hW1] at hb1 q1 hz1
  have HB1 := Lib.hid hb1
  have HB0 := Lib.hid (Below.refl W1.heap.size W1)
  have HZ1 := Lib.hid hz1
  have HR := Lib.hid (show ∀ wx, Below W1.heap.size W1 wx → Rw wx w.heap.size 25 #[.slice A p.nodes.length c, .slice A2 p.rails.length c2] from fun wx h => q1.below h (by omega))
  have HPB := Lib.hid (show ∀ wx, Below W1.heap.size W1 wx → PlAt wx wx.heap.size A c A2 c2 p from fun wx h => ((hP.below hb1).below (h.mono hb1.size)).more (Nat.le_trans hb1.size h.size))
  have HKN := Lib.hid (show ∀ wx, Below W1.heap.size W1 wx → Calls Tryz.prog 16 #[] wx fun e w' => e = .returned (.bool true) ∧ Below wx.heap.size wx w' from fun wx _ => known_any wx)
  have e0 := q1.cell 0; have e1 := q1.cell 1
  have HFW := Lib.hid (show ∀ wx, Below W1.heap.size W1 wx → Calls Tryz.prog 15 #[.agg #[.slice A p.nodes.length c, .slice A2 p.rails.length c2]] wx fun e w' => e = .returned (.bool false) ∧ Below wx.heap.size wx w' from fun wx h => by have := few_any A A2 c c2 p wx (HPB.out wx h); rwa [hfew] at this)
  clear hb1 q1 hz1 hP
  go_enter Tryz.func9, Tryz.ntmps9
  go_wp2_with fail
  refine (HFW.out _ HB0.out).mono ?_
  rintro e w11 ⟨rfl, hb11⟩
  have HB11 := Lib.hid (HB0.out.trans (hb11.mono HB0.out.size))
  have ra := HR.out _ HB11.out
  have e0 := ra.cell 0; have e1 := ra.cell 1
  clear ra
  clear hb11
  clear hW1
  go_wp2_with fail
  refine (HKN.out _ HB11.out).mono ?_
  rintro e w12 ⟨rfl, hb12⟩
  have HB12 := Lib.hid (HB11.out.trans (hb12.mono HB11.out.size))
  have ra := HR.out _ HB12.out
  have e0 := ra.cell 0; have e1 := ra.cell 1
  clear ra
  clear hb12
  go_wp2
  go_ret
  exact ⟨rfl, HB1.out.trans (HB12.out.mono HB1.out.size)⟩

set_option maxRecDepth 100000 in
set_option maxHeartbeats 4000000 in
theorem wit_n1 (A A2 : Option Addr) (c c2 : Nat) (p : Pl) (r r2 : Int) (w : World) (hP : PlAt w w.heap.size A c A2 c2 p) (hfew : fewB p = true) (hno : ¬ (Vld p ∧ railIn p r = true ∧ railIn p r2 = true)) (hv : ¬ Vld p) :
    Calls Tryz.prog 9 #[.agg #[.slice A p.nodes.length c, .slice A2 p.rails.length c2], .int .i64 r, .int .i64 r2] w fun e w' => e = .returned (.bool true) ∧ Below w.heap.size w w' := by
  have hrm := hP.rm; have hrc := hP.rc
  have hb1 := (Below.refl _ w).alloc (Nat.le_refl _) (.cells #[.slice A p.nodes.length c, .slice A2 p.rails.length c2] 25)
  have q1 := Rw.new w #[.slice A p.nodes.length c, .slice A2 p.rails.length c2] 25
  have hz1 : (w.alloc (.cells #[.slice A p.nodes.length c, .slice A2 p.rails.length c2] 25)).heap.size = w.heap.size + 1 := by simp
  obtain ⟨W1, hW1⟩ : ∃ z, w.alloc (.cells #[.slice A p.nodes.length c, .slice A2 p.rails.length c2] 25) = z := ⟨_, rfl⟩
  rw [hW1] at hb1 q1 hz1
  have HB1 := Lib.hid hb1
  have HB0 := Lib.hid (Below.refl W1.heap.size W1)
  have HZ1 := Lib.hid hz1
  have HR := Lib.hid (show ∀ wx, Below W1.heap.size W1 wx → Rw wx w.heap.size 25 #[.slice A p.nodes.length c, .slice A2 p.rails.length c2] from fun wx h => q1.below h (by omega))
  have HPB := Lib.hid (show ∀ wx, Below W1.heap.size W1 wx → PlAt wx wx.heap.size A c A2 c2 p from fun wx h => ((hP.below hb1).below (h.mono hb1.size)).more (Nat.le_trans hb1.size h.size))
  have HKN := Lib.hid (show ∀ wx, Below W1.heap.size W1 wx → Calls Tryz.prog 16 #[] wx fun e w' => e = .returned (.bool true) ∧ Below wx.heap.size wx w' from fun wx _ => known_any wx)
  have e0 := q1.cell 0; have e1 := q1.cell 1
  have HFW := Lib.hid (show ∀ wx, Below W1.heap.size W1 wx → Calls Tryz.prog 15 #[.agg #[.slice A p.nodes.length c, .slice A2 p.rails.length c2]] wx fun e w' => e = .returned (.bool true) ∧ Below wx.heap.size wx w' from fun wx h => by have := few_any A A2 c c2 p wx (HPB.out wx h); rwa [hfew] at this)
  have HVL := Lib.hid (show ∀ wx, Below W1.heap.size W1 wx → Calls Tryz.prog 19 #[.agg #[.slice A p.nodes.length c, .slice A2 p.rails.length c2]] wx fun e w' => e = .returned (.bool false) ∧ Below wx.heap.size wx w' from fun wx h => (Valid_any A A2 c c2 p wx (HPB.out wx h)).mono (by rintro e w' ⟨⟨b, rfl, hb⟩, h2⟩; cases b; exact ⟨rfl, h2⟩; exact absurd (hb.1 rfl) hv))
  obtain ⟨o, ho⟩ : ∃ o : Int, o = 0 := ⟨_, rfl⟩
  have HO := Lib.hid ho
  have HWI := Lib.hid (show ∀ wx, Below W1.heap.size W1 wx → Calls Tryz.prog 36 #[.agg #[.slice A p.nodes.length c, .slice A2 p.rails.length c2], .int .i64 r, .int .i64 r2] wx fun e w' => e = .returned (.tuple #[.agg #[.int .i64 o, .int .i64 o], .agg #[.int .i64 o, .int .i64 o], .int .i64 0, .int .i64 2]) ∧ Below wx.heap.size wx w' from fun wx h => by rw [ho]; exact Witness_no A A2 c c2 p r r2 wx (HPB.out wx h) hno)
  clear hb1 q1 hz1 hP
  clear ho
  go_enter Tryz.func9, Tryz.ntmps9
  go_wp2_with fail
  refine (HFW.out _ HB0.out).mono ?_
  rintro e w13 ⟨rfl, hb13⟩
  have HB13 := Lib.hid (HB0.out.trans (hb13.mono HB0.out.size))
  have ra := HR.out _ HB13.out
  have e0 := ra.cell 0; have e1 := ra.cell 1
  clear ra
  clear hb13
  clear hW1
  go_wp2_with fail
  refine (HWI.out _ HB13.out).mono ?_
  rintro e w14 ⟨rfl, hb14⟩
  have HB14 := Lib.hid (HB13.out.trans (hb14.mono HB13.out.size))
  have ra := HR.out _ HB14.out
  have e0 := ra.cell 0; have e1 := ra.cell 1
  clear ra
  clear hb14
  have hbx := ((HB14.out.alloc HB14.out.size (.cells #[.int .i64 o, .int .i64 o] 34)).alloc (by have := HB14.out.size; simp; omega) (.cells #[.int .i64 o, .int .i64 o] 34))
  obtain ⟨qa, qb⟩ := rows2 w14 #[.int .i64 o, .int .i64 o] #[.int .i64 o, .int .i64 o] 34 34
  have ra := HR.out _ hbx
  have hzx : ((w14.alloc (.cells #[.int .i64 o, .int .i64 o] 34)).alloc (.cells #[.int .i64 o, .int .i64 o] 34)).heap.size = w14.heap.size + 2 := by simp
  obtain ⟨W4, hW4⟩ : ∃ z, (w14.alloc (.cells #[.int .i64 o, .int .i64 o] 34)).alloc (.cells #[.int .i64 o, .int .i64 o] 34) = z := ⟨_, rfl⟩
  rw [hW4] at hbx qa qb ra hzx
  have HBW4 := Lib.hid hbx
  have HRX := Lib.hid (show ∀ wx, Below W4.heap.size W4 wx → Rw wx w.heap.size 25 #[.slice A p.nodes.length c, .slice A2 p.rails.length c2] ∧ Rw wx w14.heap.size 34 #[.int .i64 o, .int .i64 o] ∧ Rw wx (w14.heap.size + 1) 34 #[.int .i64 o, .int .i64 o] from fun wx h => ⟨ra.below h (by have := ra.lt; omega), qa.below h (by omega), qb.below h (by omega)⟩)
  have e0 := ra.cell 0; have e1 := ra.cell 1; have e2 := qa.cell 0; have e3 := qa.cell 1; have e4 := qb.cell 0; have e5 := qb.cell 1
  clear hbx qa qb ra hzx
  go_wp2_with fail
  refine (HVL.out _ HBW4.out).mono ?_
  rintro e w5 ⟨rfl, hb5⟩
  have HB5 := Lib.hid (HBW4.out.trans (hb5.mono HBW4.out.size))
  obtain ⟨ra, rb, rc⟩ := HRX.out _ hb5
  have e0 := ra.cell 0; have e1 := ra.cell 1; have e2 := rb.cell 0; have e3 := rb.cell 1; have e4 := rc.cell 0; have e5 := rc.cell 1
  clear ra rb rc hb5 hW4
  have ho := HO.out
  go_wp2_with fail
  refine (HKN.out _ HB5.out).mono ?_
  rintro e w6 ⟨rfl, hb6⟩
  have HB6 := Lib.hid (HB5.out.trans (hb6.mono HB5.out.size))
  clear hb6 ho
  go_wp2
  go_ret
  exact ⟨rfl, HB1.out.trans (HB6.out.mono HB1.out.size)⟩

set_option maxRecDepth 100000 in
set_option maxHeartbeats 4000000 in
theorem wit_n2 (A A2 : Option Addr) (c c2 : Nat) (p : Pl) (r r2 : Int) (w : World) (hP : PlAt w w.heap.size A c A2 c2 p) (hfew : fewB p = true) (hno : ¬ (Vld p ∧ railIn p r = true ∧ railIn p r2 = true)) (hv : Vld p) (hr : r < 0) :
    Calls Tryz.prog 9 #[.agg #[.slice A p.nodes.length c, .slice A2 p.rails.length c2], .int .i64 r, .int .i64 r2] w fun e w' => e = .returned (.bool true) ∧ Below w.heap.size w w' := by
  have hrm := hP.rm; have hrc := hP.rc
  have hb1 := (Below.refl _ w).alloc (Nat.le_refl _) (.cells #[.slice A p.nodes.length c, .slice A2 p.rails.length c2] 25)
  have q1 := Rw.new w #[.slice A p.nodes.length c, .slice A2 p.rails.length c2] 25
  have hz1 : (w.alloc (.cells #[.slice A p.nodes.length c, .slice A2 p.rails.length c2] 25)).heap.size = w.heap.size + 1 := by simp
  obtain ⟨W1, hW1⟩ : ∃ z, w.alloc (.cells #[.slice A p.nodes.length c, .slice A2 p.rails.length c2] 25) = z := ⟨_, rfl⟩
  rw [hW1] at hb1 q1 hz1
  have HB1 := Lib.hid hb1
  have HB0 := Lib.hid (Below.refl W1.heap.size W1)
  have HZ1 := Lib.hid hz1
  have HR := Lib.hid (show ∀ wx, Below W1.heap.size W1 wx → Rw wx w.heap.size 25 #[.slice A p.nodes.length c, .slice A2 p.rails.length c2] from fun wx h => q1.below h (by omega))
  have HPB := Lib.hid (show ∀ wx, Below W1.heap.size W1 wx → PlAt wx wx.heap.size A c A2 c2 p from fun wx h => ((hP.below hb1).below (h.mono hb1.size)).more (Nat.le_trans hb1.size h.size))
  have HKN := Lib.hid (show ∀ wx, Below W1.heap.size W1 wx → Calls Tryz.prog 16 #[] wx fun e w' => e = .returned (.bool true) ∧ Below wx.heap.size wx w' from fun wx _ => known_any wx)
  have e0 := q1.cell 0; have e1 := q1.cell 1
  have HFW := Lib.hid (show ∀ wx, Below W1.heap.size W1 wx → Calls Tryz.prog 15 #[.agg #[.slice A p.nodes.length c, .slice A2 p.rails.length c2]] wx fun e w' => e = .returned (.bool true) ∧ Below wx.heap.size wx w' from fun wx h => by have := few_any A A2 c c2 p wx (HPB.out wx h); rwa [hfew] at this)
  have HVL := Lib.hid (show ∀ wx, Below W1.heap.size W1 wx → Calls Tryz.prog 19 #[.agg #[.slice A p.nodes.length c, .slice A2 p.rails.length c2]] wx fun e w' => e = .returned (.bool true) ∧ Below wx.heap.size wx w' from fun wx h => (Valid_any A A2 c c2 p wx (HPB.out wx h)).mono (by rintro e w' ⟨⟨b, rfl, hb⟩, h2⟩; rw [hb.2 hv]; exact ⟨rfl, h2⟩))
  obtain ⟨o, ho⟩ : ∃ o : Int, o = 0 := ⟨_, rfl⟩
  have HO := Lib.hid ho
  have HWI := Lib.hid (show ∀ wx, Below W1.heap.size W1 wx → Calls Tryz.prog 36 #[.agg #[.slice A p.nodes.length c, .slice A2 p.rails.length c2], .int .i64 r, .int .i64 r2] wx fun e w' => e = .returned (.tuple #[.agg #[.int .i64 o, .int .i64 o], .agg #[.int .i64 o, .int .i64 o], .int .i64 0, .int .i64 2]) ∧ Below wx.heap.size wx w' from fun wx h => by rw [ho]; exact Witness_no A A2 c c2 p r r2 wx (HPB.out wx h) hno)
  clear hb1 q1 hz1 hP
  clear ho
  go_enter Tryz.func9, Tryz.ntmps9
  go_wp2_with fail
  refine (HFW.out _ HB0.out).mono ?_
  rintro e w15 ⟨rfl, hb15⟩
  have HB15 := Lib.hid (HB0.out.trans (hb15.mono HB0.out.size))
  have ra := HR.out _ HB15.out
  have e0 := ra.cell 0; have e1 := ra.cell 1
  clear ra
  clear hb15
  clear hW1
  go_wp2_with fail
  refine (HWI.out _ HB15.out).mono ?_
  rintro e w16 ⟨rfl, hb16⟩
  have HB16 := Lib.hid (HB15.out.trans (hb16.mono HB15.out.size))
  have ra := HR.out _ HB16.out
  have e0 := ra.cell 0; have e1 := ra.cell 1
  clear ra
  clear hb16
  have hbx := ((HB16.out.alloc HB16.out.size (.cells #[.int .i64 o, .int .i64 o] 34)).alloc (by have := HB16.out.size; simp; omega) (.cells #[.int .i64 o, .int .i64 o] 34))
  obtain ⟨qa, qb⟩ := rows2 w16 #[.int .i64 o, .int .i64 o] #[.int .i64 o, .int .i64 o] 34 34
  have ra := HR.out _ hbx
  have hzx : ((w16.alloc (.cells #[.int .i64 o, .int .i64 o] 34)).alloc (.cells #[.int .i64 o, .int .i64 o] 34)).heap.size = w16.heap.size + 2 := by simp
  obtain ⟨W4, hW4⟩ : ∃ z, (w16.alloc (.cells #[.int .i64 o, .int .i64 o] 34)).alloc (.cells #[.int .i64 o, .int .i64 o] 34) = z := ⟨_, rfl⟩
  rw [hW4] at hbx qa qb ra hzx
  have HBW4 := Lib.hid hbx
  have HRX := Lib.hid (show ∀ wx, Below W4.heap.size W4 wx → Rw wx w.heap.size 25 #[.slice A p.nodes.length c, .slice A2 p.rails.length c2] ∧ Rw wx w16.heap.size 34 #[.int .i64 o, .int .i64 o] ∧ Rw wx (w16.heap.size + 1) 34 #[.int .i64 o, .int .i64 o] from fun wx h => ⟨ra.below h (by have := ra.lt; omega), qa.below h (by omega), qb.below h (by omega)⟩)
  have e0 := ra.cell 0; have e1 := ra.cell 1; have e2 := qa.cell 0; have e3 := qa.cell 1; have e4 := qb.cell 0; have e5 := qb.cell 1
  clear hbx qa qb ra hzx
  go_wp2_with fail
  refine (HVL.out _ HBW4.out).mono ?_
  rintro e w5 ⟨rfl, hb5⟩
  have HB5 := Lib.hid (HBW4.out.trans (hb5.mono HBW4.out.size))
  obtain ⟨ra, rb, rc⟩ := HRX.out _ hb5
  have e0 := ra.cell 0; have e1 := ra.cell 1; have e2 := rb.cell 0; have e3 := rb.cell 1; have e4 := rc.cell 0; have e5 := rc.cell 1
  clear ra rb rc hb5 hW4
  have ho := HO.out
  go_wp2_with fail
  refine (HKN.out _ HB5.out).mono ?_
  rintro e w6 ⟨rfl, hb6⟩
  have HB6 := Lib.hid (HB5.out.trans (hb6.mono HB5.out.size))
  clear hb6 ho
  go_wp2
  go_ret
  exact ⟨rfl, HB1.out.trans (HB6.out.mono HB1.out.size)⟩

set_option maxRecDepth 100000 in
set_option maxHeartbeats 4000000 in
theorem wit_n3 (A A2 : Option Addr) (c c2 : Nat) (p : Pl) (r r2 : Int) (w : World) (hP : PlAt w w.heap.size A c A2 c2 p) (hfew : fewB p = true) (hno : ¬ (Vld p ∧ railIn p r = true ∧ railIn p r2 = true)) (hv : Vld p) (hr : ¬ r < 0) (hr1 : (p.rails.length : Int) ≤ r) :
    Calls Tryz.prog 9 #[.agg #[.slice A p.nodes.length c, .slice A2 p.rails.length c2], .int .i64 r, .int .i64 r2] w fun e w' => e = .returned (.bool true) ∧ Below w.heap.size w w' := by
  have hrm := hP.rm; have hrc := hP.rc
  have hb1 := (Below.refl _ w).alloc (Nat.le_refl _) (.cells #[.slice A p.nodes.length c, .slice A2 p.rails.length c2] 25)
  have q1 := Rw.new w #[.slice A p.nodes.length c, .slice A2 p.rails.length c2] 25
  have hz1 : (w.alloc (.cells #[.slice A p.nodes.length c, .slice A2 p.rails.length c2] 25)).heap.size = w.heap.size + 1 := by simp
  obtain ⟨W1, hW1⟩ : ∃ z, w.alloc (.cells #[.slice A p.nodes.length c, .slice A2 p.rails.length c2] 25) = z := ⟨_, rfl⟩
  rw [hW1] at hb1 q1 hz1
  have HB1 := Lib.hid hb1
  have HB0 := Lib.hid (Below.refl W1.heap.size W1)
  have HZ1 := Lib.hid hz1
  have HR := Lib.hid (show ∀ wx, Below W1.heap.size W1 wx → Rw wx w.heap.size 25 #[.slice A p.nodes.length c, .slice A2 p.rails.length c2] from fun wx h => q1.below h (by omega))
  have HPB := Lib.hid (show ∀ wx, Below W1.heap.size W1 wx → PlAt wx wx.heap.size A c A2 c2 p from fun wx h => ((hP.below hb1).below (h.mono hb1.size)).more (Nat.le_trans hb1.size h.size))
  have HKN := Lib.hid (show ∀ wx, Below W1.heap.size W1 wx → Calls Tryz.prog 16 #[] wx fun e w' => e = .returned (.bool true) ∧ Below wx.heap.size wx w' from fun wx _ => known_any wx)
  have e0 := q1.cell 0; have e1 := q1.cell 1
  have HFW := Lib.hid (show ∀ wx, Below W1.heap.size W1 wx → Calls Tryz.prog 15 #[.agg #[.slice A p.nodes.length c, .slice A2 p.rails.length c2]] wx fun e w' => e = .returned (.bool true) ∧ Below wx.heap.size wx w' from fun wx h => by have := few_any A A2 c c2 p wx (HPB.out wx h); rwa [hfew] at this)
  have HVL := Lib.hid (show ∀ wx, Below W1.heap.size W1 wx → Calls Tryz.prog 19 #[.agg #[.slice A p.nodes.length c, .slice A2 p.rails.length c2]] wx fun e w' => e = .returned (.bool true) ∧ Below wx.heap.size wx w' from fun wx h => (Valid_any A A2 c c2 p wx (HPB.out wx h)).mono (by rintro e w' ⟨⟨b, rfl, hb⟩, h2⟩; rw [hb.2 hv]; exact ⟨rfl, h2⟩))
  obtain ⟨o, ho⟩ : ∃ o : Int, o = 0 := ⟨_, rfl⟩
  have HO := Lib.hid ho
  have HWI := Lib.hid (show ∀ wx, Below W1.heap.size W1 wx → Calls Tryz.prog 36 #[.agg #[.slice A p.nodes.length c, .slice A2 p.rails.length c2], .int .i64 r, .int .i64 r2] wx fun e w' => e = .returned (.tuple #[.agg #[.int .i64 o, .int .i64 o], .agg #[.int .i64 o, .int .i64 o], .int .i64 0, .int .i64 2]) ∧ Below wx.heap.size wx w' from fun wx h => by rw [ho]; exact Witness_no A A2 c c2 p r r2 wx (HPB.out wx h) hno)
  clear hb1 q1 hz1 hP
  clear ho
  go_enter Tryz.func9, Tryz.ntmps9
  go_wp2_with fail
  refine (HFW.out _ HB0.out).mono ?_
  rintro e w17 ⟨rfl, hb17⟩
  have HB17 := Lib.hid (HB0.out.trans (hb17.mono HB0.out.size))
  have ra := HR.out _ HB17.out
  have e0 := ra.cell 0; have e1 := ra.cell 1
  clear ra
  clear hb17
  clear hW1
  go_wp2_with fail
  refine (HWI.out _ HB17.out).mono ?_
  rintro e w18 ⟨rfl, hb18⟩
  have HB18 := Lib.hid (HB17.out.trans (hb18.mono HB17.out.size))
  have ra := HR.out _ HB18.out
  have e0 := ra.cell 0; have e1 := ra.cell 1
  clear ra
  clear hb18
  have hbx := ((HB18.out.alloc HB18.out.size (.cells #[.int .i64 o, .int .i64 o] 34)).alloc (by have := HB18.out.size; simp; omega) (.cells #[.int .i64 o, .int .i64 o] 34))
  obtain ⟨qa, qb⟩ := rows2 w18 #[.int .i64 o, .int .i64 o] #[.int .i64 o, .int .i64 o] 34 34
  have ra := HR.out _ hbx
  have hzx : ((w18.alloc (.cells #[.int .i64 o, .int .i64 o] 34)).alloc (.cells #[.int .i64 o, .int .i64 o] 34)).heap.size = w18.heap.size + 2 := by simp
  obtain ⟨W4, hW4⟩ : ∃ z, (w18.alloc (.cells #[.int .i64 o, .int .i64 o] 34)).alloc (.cells #[.int .i64 o, .int .i64 o] 34) = z := ⟨_, rfl⟩
  rw [hW4] at hbx qa qb ra hzx
  have HBW4 := Lib.hid hbx
  have HRX := Lib.hid (show ∀ wx, Below W4.heap.size W4 wx → Rw wx w.heap.size 25 #[.slice A p.nodes.length c, .slice A2 p.rails.length c2] ∧ Rw wx w18.heap.size 34 #[.int .i64 o, .int .i64 o] ∧ Rw wx (w18.heap.size + 1) 34 #[.int .i64 o, .int .i64 o] from fun wx h => ⟨ra.below h (by have := ra.lt; omega), qa.below h (by omega), qb.below h (by omega)⟩)
  have e0 := ra.cell 0; have e1 := ra.cell 1; have e2 := qa.cell 0; have e3 := qa.cell 1; have e4 := qb.cell 0; have e5 := qb.cell 1
  clear hbx qa qb ra hzx
  go_wp2_with fail
  refine (HVL.out _ HBW4.out).mono ?_
  rintro e w5 ⟨rfl, hb5⟩
  have HB5 := Lib.hid (HBW4.out.trans (hb5.mono HBW4.out.size))
  obtain ⟨ra, rb, rc⟩ := HRX.out _ hb5
  have e0 := ra.cell 0; have e1 := ra.cell 1; have e2 := rb.cell 0; have e3 := rb.cell 1; have e4 := rc.cell 0; have e5 := rc.cell 1
  clear ra rb rc hb5 hW4
  have ho := HO.out
  go_wp2_with fail
  refine (HKN.out _ HB5.out).mono ?_
  rintro e w6 ⟨rfl, hb6⟩
  have HB6 := Lib.hid (HB5.out.trans (hb6.mono HB5.out.size))
  clear hb6 ho
  go_wp2
  go_ret
  exact ⟨rfl, HB1.out.trans (HB6.out.mono HB1.out.size)⟩

set_option maxRecDepth 100000 in
set_option maxHeartbeats 4000000 in
theorem wit_n4 (A A2 : Option Addr) (c c2 : Nat) (p : Pl) (r r2 : Int) (w : World) (hP : PlAt w w.heap.size A c A2 c2 p) (hfew : fewB p = true) (hno : ¬ (Vld p ∧ railIn p r = true ∧ railIn p r2 = true)) (hv : Vld p) (hr : ¬ r < 0) (hr1 : ¬ (p.rails.length : Int) ≤ r) (hs : r2 < 0) :
    Calls Tryz.prog 9 #[.agg #[.slice A p.nodes.length c, .slice A2 p.rails.length c2], .int .i64 r, .int .i64 r2] w fun e w' => e = .returned (.bool true) ∧ Below w.heap.size w w' := by
  have hrm := hP.rm; have hrc := hP.rc
  have hb1 := (Below.refl _ w).alloc (Nat.le_refl _) (.cells #[.slice A p.nodes.length c, .slice A2 p.rails.length c2] 25)
  have q1 := Rw.new w #[.slice A p.nodes.length c, .slice A2 p.rails.length c2] 25
  have hz1 : (w.alloc (.cells #[.slice A p.nodes.length c, .slice A2 p.rails.length c2] 25)).heap.size = w.heap.size + 1 := by simp
  obtain ⟨W1, hW1⟩ : ∃ z, w.alloc (.cells #[.slice A p.nodes.length c, .slice A2 p.rails.length c2] 25) = z := ⟨_, rfl⟩
  rw [hW1] at hb1 q1 hz1
  have HB1 := Lib.hid hb1
  have HB0 := Lib.hid (Below.refl W1.heap.size W1)
  have HZ1 := Lib.hid hz1
  have HR := Lib.hid (show ∀ wx, Below W1.heap.size W1 wx → Rw wx w.heap.size 25 #[.slice A p.nodes.length c, .slice A2 p.rails.length c2] from fun wx h => q1.below h (by omega))
  have HPB := Lib.hid (show ∀ wx, Below W1.heap.size W1 wx → PlAt wx wx.heap.size A c A2 c2 p from fun wx h => ((hP.below hb1).below (h.mono hb1.size)).more (Nat.le_trans hb1.size h.size))
  have HKN := Lib.hid (show ∀ wx, Below W1.heap.size W1 wx → Calls Tryz.prog 16 #[] wx fun e w' => e = .returned (.bool true) ∧ Below wx.heap.size wx w' from fun wx _ => known_any wx)
  have e0 := q1.cell 0; have e1 := q1.cell 1
  have HFW := Lib.hid (show ∀ wx, Below W1.heap.size W1 wx → Calls Tryz.prog 15 #[.agg #[.slice A p.nodes.length c, .slice A2 p.rails.length c2]] wx fun e w' => e = .returned (.bool true) ∧ Below wx.heap.size wx w' from fun wx h => by have := few_any A A2 c c2 p wx (HPB.out wx h); rwa [hfew] at this)
  have HVL := Lib.hid (show ∀ wx, Below W1.heap.size W1 wx → Calls Tryz.prog 19 #[.agg #[.slice A p.nodes.length c, .slice A2 p.rails.length c2]] wx fun e w' => e = .returned (.bool true) ∧ Below wx.heap.size wx w' from fun wx h => (Valid_any A A2 c c2 p wx (HPB.out wx h)).mono (by rintro e w' ⟨⟨b, rfl, hb⟩, h2⟩; rw [hb.2 hv]; exact ⟨rfl, h2⟩))
  obtain ⟨o, ho⟩ : ∃ o : Int, o = 0 := ⟨_, rfl⟩
  have HO := Lib.hid ho
  have HWI := Lib.hid (show ∀ wx, Below W1.heap.size W1 wx → Calls Tryz.prog 36 #[.agg #[.slice A p.nodes.length c, .slice A2 p.rails.length c2], .int .i64 r, .int .i64 r2] wx fun e w' => e = .returned (.tuple #[.agg #[.int .i64 o, .int .i64 o], .agg #[.int .i64 o, .int .i64 o], .int .i64 0, .int .i64 2]) ∧ Below wx.heap.size wx w' from fun wx h => by rw [ho]; exact Witness_no A A2 c c2 p r r2 wx (HPB.out wx h) hno)
  clear hb1 q1 hz1 hP
  clear ho
  go_enter Tryz.func9, Tryz.ntmps9
  go_wp2_with fail
  refine (HFW.out _ HB0.out).mono ?_
  rintro e w19 ⟨rfl, hb19⟩
  have HB19 := Lib.hid (HB0.out.trans (hb19.mono HB0.out.size))
  have ra := HR.out _ HB19.out
  have e0 := ra.cell 0; have e1 := ra.cell 1
  clear ra
  clear hb19
  clear hW1
  go_wp2_with fail
  refine (HWI.out _ HB19.out).mono ?_
  rintro e w20 ⟨rfl, hb20⟩
  have HB20 := Lib.hid (HB19.out.trans (hb20.mono HB19.out.size))
  have ra := HR.out _ HB20.out
  have e0 := ra.cell 0; have e1 := ra.cell 1
  clear ra
  clear hb20
  have hbx := ((HB20.out.alloc HB20.out.size (.cells #[.int .i64 o, .int .i64 o] 34)).alloc (by have := HB20.out.size; simp; omega) (.cells #[.int .i64 o, .int .i64 o] 34))
  obtain ⟨qa, qb⟩ := rows2 w20 #[.int .i64 o, .int .i64 o] #[.int .i64 o, .int .i64 o] 34 34
  have ra := HR.out _ hbx
  have hzx : ((w20.alloc (.cells #[.int .i64 o, .int .i64 o] 34)).alloc (.cells #[.int .i64 o, .int .i64 o] 34)).heap.size = w20.heap.size + 2 := by simp
  obtain ⟨W4, hW4⟩ : ∃ z, (w20.alloc (.cells #[.int .i64 o, .int .i64 o] 34)).alloc (.cells #[.int .i64 o, .int .i64 o] 34) = z := ⟨_, rfl⟩
  rw [hW4] at hbx qa qb ra hzx
  have HBW4 := Lib.hid hbx
  have HRX := Lib.hid (show ∀ wx, Below W4.heap.size W4 wx → Rw wx w.heap.size 25 #[.slice A p.nodes.length c, .slice A2 p.rails.length c2] ∧ Rw wx w20.heap.size 34 #[.int .i64 o, .int .i64 o] ∧ Rw wx (w20.heap.size + 1) 34 #[.int .i64 o, .int .i64 o] from fun wx h => ⟨ra.below h (by have := ra.lt; omega), qa.below h (by omega), qb.below h (by omega)⟩)
  have e0 := ra.cell 0; have e1 := ra.cell 1; have e2 := qa.cell 0; have e3 := qa.cell 1; have e4 := qb.cell 0; have e5 := qb.cell 1
  clear hbx qa qb ra hzx
  go_wp2_with fail
  refine (HVL.out _ HBW4.out).mono ?_
  rintro e w5 ⟨rfl, hb5⟩
  have HB5 := Lib.hid (HBW4.out.trans (hb5.mono HBW4.out.size))
  obtain ⟨ra, rb, rc⟩ := HRX.out _ hb5
  have e0 := ra.cell 0; have e1 := ra.cell 1; have e2 := rb.cell 0; have e3 := rb.cell 1; have e4 := rc.cell 0; have e5 := rc.cell 1
  clear ra rb rc hb5 hW4
  have ho := HO.out
  go_wp2_with fail
  refine (HKN.out _ HB5.out).mono ?_
  rintro e w6 ⟨rfl, hb6⟩
  have HB6 := Lib.hid (HB5.out.trans (hb6.mono HB5.out.size))
  clear hb6 ho
  go_wp2
  go_ret
  exact ⟨rfl, HB1.out.trans (HB6.out.mono HB1.out.size)⟩

set_option maxRecDepth 100000 in
set_option maxHeartbeats 4000000 in
theorem wit_n5 (A A2 : Option Addr) (c c2 : Nat) (p : Pl) (r r2 : Int) (w : World) (hP : PlAt w w.heap.size A c A2 c2 p) (hfew : fewB p = true) (hno : ¬ (Vld p ∧ railIn p r = true ∧ railIn p r2 = true)) (hv : Vld p) (hr : ¬ r < 0) (hr1 : ¬ (p.rails.length : Int) ≤ r) (hs : ¬ r2 < 0) (hs1 : (p.rails.length : Int) ≤ r2) :
    Calls Tryz.prog 9 #[.agg #[.slice A p.nodes.length c, .slice A2 p.rails.length c2], .int .i64 r, .int .i64 r2] w fun e w' => e = .returned (.bool true) ∧ Below w.heap.size w w' := by
  have hrm := hP.rm; have hrc := hP.rc
  have hb1 := (Below.refl _ w).alloc (Nat.le_refl _) (.cells #[.slice A p.nodes.length c, .slice A2 p.rails.length c2] 25)
  have q1 := Rw.new w #[.slice A p.nodes.length c, .slice A2 p.rails.length c2] 25
  have hz1 : (w.alloc (.cells #[.slice A p.nodes.length c, .slice A2 p.rails.length c2] 25)).heap.size = w.heap.size + 1 := by simp
  obtain ⟨W1, hW1⟩ : ∃ z, w.alloc (.cells #[.slice A p.nodes.length c, .slice A2 p.rails.length c2] 25) = z := ⟨_, rfl⟩
  rw [hW1] at hb1 q1 hz1
  have HB1 := Lib.hid hb1
  have HB0 := Lib.hid (Below.refl W1.heap.size W1)
  have HZ1 := Lib.hid hz1
  have HR := Lib.hid (show ∀ wx, Below W1.heap.size W1 wx → Rw wx w.heap.size 25 #[.slice A p.nodes.length c, .slice A2 p.rails.length c2] from fun wx h => q1.below h (by omega))
  have HPB := Lib.hid (show ∀ wx, Below W1.heap.size W1 wx → PlAt wx wx.heap.size A c A2 c2 p from fun wx h => ((hP.below hb1).below (h.mono hb1.size)).more (Nat.le_trans hb1.size h.size))
  have HKN := Lib.hid (show ∀ wx, Below W1.heap.size W1 wx → Calls Tryz.prog 16 #[] wx fun e w' => e = .returned (.bool true) ∧ Below wx.heap.size wx w' from fun wx _ => known_any wx)
  have e0 := q1.cell 0; have e1 := q1.cell 1
  have HFW := Lib.hid (show ∀ wx, Below W1.heap.size W1 wx → Calls Tryz.prog 15 #[.agg #[.slice A p.nodes.length c, .slice A2 p.rails.length c2]] wx fun e w' => e = .returned (.bool true) ∧ Below wx.heap.size wx w' from fun wx h => by have := few_any A A2 c c2 p wx (HPB.out wx h); rwa [hfew] at this)
  have HVL := Lib.hid (show ∀ wx, Below W1.heap.size W1 wx → Calls Tryz.prog 19 #[.agg #[.slice A p.nodes.length c, .slice A2 p.rails.length c2]] wx fun e w' => e = .returned (.bool true) ∧ Below wx.heap.size wx w' from fun wx h => (Valid_any A A2 c c2 p wx (HPB.out wx h)).mono (by rintro e w' ⟨⟨b, rfl, hb⟩, h2⟩; rw [hb.2 hv]; exact ⟨rfl, h2⟩))
  obtain ⟨o, ho⟩ : ∃ o : Int, o = 0 := ⟨_, rfl⟩
  have HO := Lib.hid ho
  have HWI := Lib.hid (show ∀ wx, Below W1.heap.size W1 wx → Calls Tryz.prog 36 #[.agg #[.slice A p.nodes.length c, .slice A2 p.rails.length c2], .int .i64 r, .int .i64 r2] wx fun e w' => e = .returned (.tuple #[.agg #[.int .i64 o, .int .i64 o], .agg #[.int .i64 o, .int .i64 o], .int .i64 0, .int .i64 2]) ∧ Below wx.heap.size wx w' from fun wx h => by rw [ho]; exact Witness_no A A2 c c2 p r r2 wx (HPB.out wx h) hno)
  clear hb1 q1 hz1 hP
  clear ho
  go_enter Tryz.func9, Tryz.ntmps9
  go_wp2_with fail
  refine (HFW.out _ HB0.out).mono ?_
  rintro e w21 ⟨rfl, hb21⟩
  have HB21 := Lib.hid (HB0.out.trans (hb21.mono HB0.out.size))
  have ra := HR.out _ HB21.out
  have e0 := ra.cell 0; have e1 := ra.cell 1
  clear ra
  clear hb21
  clear hW1
  go_wp2_with fail
  refine (HWI.out _ HB21.out).mono ?_
  rintro e w22 ⟨rfl, hb22⟩
  have HB22 := Lib.hid (HB21.out.trans (hb22.mono HB21.out.size))
  have ra := HR.out _ HB22.out
  have e0 := ra.cell 0; have e1 := ra.cell 1
  clear ra
  clear hb22
  have hbx := ((HB22.out.alloc HB22.out.size (.cells #[.int .i64 o, .int .i64 o] 34)).alloc (by have := HB22.out.size; simp; omega) (.cells #[.int .i64 o, .int .i64 o] 34))
  obtain ⟨qa, qb⟩ := rows2 w22 #[.int .i64 o, .int .i64 o] #[.int .i64 o, .int .i64 o] 34 34
  have ra := HR.out _ hbx
  have hzx : ((w22.alloc (.cells #[.int .i64 o, .int .i64 o] 34)).alloc (.cells #[.int .i64 o, .int .i64 o] 34)).heap.size = w22.heap.size + 2 := by simp
  obtain ⟨W4, hW4⟩ : ∃ z, (w22.alloc (.cells #[.int .i64 o, .int .i64 o] 34)).alloc (.cells #[.int .i64 o, .int .i64 o] 34) = z := ⟨_, rfl⟩
  rw [hW4] at hbx qa qb ra hzx
  have HBW4 := Lib.hid hbx
  have HRX := Lib.hid (show ∀ wx, Below W4.heap.size W4 wx → Rw wx w.heap.size 25 #[.slice A p.nodes.length c, .slice A2 p.rails.length c2] ∧ Rw wx w22.heap.size 34 #[.int .i64 o, .int .i64 o] ∧ Rw wx (w22.heap.size + 1) 34 #[.int .i64 o, .int .i64 o] from fun wx h => ⟨ra.below h (by have := ra.lt; omega), qa.below h (by omega), qb.below h (by omega)⟩)
  have e0 := ra.cell 0; have e1 := ra.cell 1; have e2 := qa.cell 0; have e3 := qa.cell 1; have e4 := qb.cell 0; have e5 := qb.cell 1
  clear hbx qa qb ra hzx
  go_wp2_with fail
  refine (HVL.out _ HBW4.out).mono ?_
  rintro e w5 ⟨rfl, hb5⟩
  have HB5 := Lib.hid (HBW4.out.trans (hb5.mono HBW4.out.size))
  obtain ⟨ra, rb, rc⟩ := HRX.out _ hb5
  have e0 := ra.cell 0; have e1 := ra.cell 1; have e2 := rb.cell 0; have e3 := rb.cell 1; have e4 := rc.cell 0; have e5 := rc.cell 1
  clear ra rb rc hb5 hW4
  have ho := HO.out
  go_wp2_with fail
  refine (HKN.out _ HB5.out).mono ?_
  rintro e w6 ⟨rfl, hb6⟩
  have HB6 := Lib.hid (HB5.out.trans (hb6.mono HB5.out.size))
  clear hb6 ho
  go_wp2
  go_ret
  exact ⟨rfl, HB1.out.trans (HB6.out.mono HB1.out.size)⟩

set_option maxRecDepth 100000 in
set_option maxHeartbeats 4000000 in
theorem wit_yes (A A2 : Option Addr) (c c2 : Nat) (p : Pl) (r r2 : Int) (w : World) (hP : PlAt w w.heap.size A c A2 c2 p) (hfew : fewB p = true) (hv : Vld p) (hr : ¬ r < 0) (hr1 : ¬ (p.rails.length : Int) ≤ r) (hs : ¬ r2 < 0) (hs1 : ¬ (p.rails.length : Int) ≤ r2) :
    Calls Tryz.prog 9 #[.agg #[.slice A p.nodes.length c, .slice A2 p.rails.length c2], .int .i64 r, .int .i64 r2] w fun e w' => e = .returned (.bool true) ∧ Below w.heap.size w w' := by
  have hrm := hP.rm; have hrc := hP.rc
  have hb1 := (Below.refl _ w).alloc (Nat.le_refl _) (.cells #[.slice A p.nodes.length c, .slice A2 p.rails.length c2] 25)
  have q1 := Rw.new w #[.slice A p.nodes.length c, .slice A2 p.rails.length c2] 25
  have hz1 : (w.alloc (.cells #[.slice A p.nodes.length c, .slice A2 p.rails.length c2] 25)).heap.size = w.heap.size + 1 := by simp
  obtain ⟨W1, hW1⟩ : ∃ z, w.alloc (.cells #[.slice A p.nodes.length c, .slice A2 p.rails.length c2] 25) = z := ⟨_, rfl⟩
  rw [hW1] at hb1 q1 hz1
  have HB1 := Lib.hid hb1
  have HB0 := Lib.hid (Below.refl W1.heap.size W1)
  have HZ1 := Lib.hid hz1
  have HR := Lib.hid (show ∀ wx, Below W1.heap.size W1 wx → Rw wx w.heap.size 25 #[.slice A p.nodes.length c, .slice A2 p.rails.length c2] from fun wx h => q1.below h (by omega))
  have HPB := Lib.hid (show ∀ wx, Below W1.heap.size W1 wx → PlAt wx wx.heap.size A c A2 c2 p from fun wx h => ((hP.below hb1).below (h.mono hb1.size)).more (Nat.le_trans hb1.size h.size))
  have HKN := Lib.hid (show ∀ wx, Below W1.heap.size W1 wx → Calls Tryz.prog 16 #[] wx fun e w' => e = .returned (.bool true) ∧ Below wx.heap.size wx w' from fun wx _ => known_any wx)
  have e0 := q1.cell 0; have e1 := q1.cell 1
  have HFW := Lib.hid (show ∀ wx, Below W1.heap.size W1 wx → Calls Tryz.prog 15 #[.agg #[.slice A p.nodes.length c, .slice A2 p.rails.length c2]] wx fun e w' => e = .returned (.bool true) ∧ Below wx.heap.size wx w' from fun wx h => by have := few_any A A2 c c2 p wx (HPB.out wx h); rwa [hfew] at this)
  have HVL := Lib.hid (show ∀ wx, Below W1.heap.size W1 wx → Calls Tryz.prog 19 #[.agg #[.slice A p.nodes.length c, .slice A2 p.rails.length c2]] wx fun e w' => e = .returned (.bool true) ∧ Below wx.heap.size wx w' from fun wx h => (Valid_any A A2 c c2 p wx (HPB.out wx h)).mono (by rintro e w' ⟨⟨b, rfl, hb⟩, h2⟩; rw [hb.2 hv]; exact ⟨rfl, h2⟩))
  obtain ⟨rn, er⟩ := Int.eq_ofNat_of_zero_le (show 0 ≤ r by omega)
  obtain ⟨rn2, er2⟩ := Int.eq_ofNat_of_zero_le (show 0 ≤ r2 by omega)
  have hL := Vld.rl hv (show rn < p.rails.length by omega)
  have hL2 := Vld.rl hv (show rn2 < p.rails.length by omega)
  obtain ⟨L, eL⟩ : ∃ z, lineOf p p.rails[rn] = z := ⟨_, rfl⟩
  obtain ⟨L2, eL2⟩ : ∃ z, lineOf p p.rails[rn2] = z := ⟨_, rfl⟩
  rw [eL] at hL
  rw [eL2] at hL2
  obtain ⟨m, hm⟩ : ∃ m, L.length = m + 1 := ⟨L.length - 1, by have := hL.le; omega⟩
  obtain ⟨m2, hm2⟩ : ∃ m, L2.length = m + 1 := ⟨L2.length - 1, by have := hL2.le; omega⟩
  obtain ⟨b, hb⟩ : ∃ b, bestP (pairsL (fun i k => gapW (stripAt rn L i) (stripAt rn2 L2 k)) m m2) = b := ⟨_, rfl⟩
  obtain ⟨bi, hbi⟩ : ∃ z : Int, (b.i : Int) = z := ⟨_, rfl⟩
  obtain ⟨bk, hbk⟩ : ∃ z : Int, (b.k : Int) = z := ⟨_, rfl⟩
  obtain ⟨bg, hbg⟩ : ∃ z : Int, (b.g : Int) = z := ⟨_, rfl⟩
  have HWI := Lib.hid (show ∀ wx, Below W1.heap.size W1 wx → Calls Tryz.prog 36 #[.agg #[.slice A p.nodes.length c, .slice A2 p.rails.length c2], .int .i64 r, .int .i64 r2] wx fun e w' => e = .returned (.tuple #[.agg #[.int .i64 r, .int .i64 bi], .agg #[.int .i64 r2, .int .i64 bk], .int .i64 bg, .int .i64 0]) ∧ Below wx.heap.size wx w' from fun wx h => by have := Witness_yes A A2 c c2 p rn rn2 m m2 L L2 wx (HPB.out wx h) hv hL hL2 hm hm2 b hb; rw [hbi, hbk, hbg] at this; rw [er, er2]; exact this)
  have HRW := Lib.hid (show ∀ wx, Below W1.heap.size W1 wx → Calls Tryz.prog 37 #[.agg #[.slice A p.nodes.length c, .slice A2 p.rails.length c2], .int .i64 r, .int .i64 r2] wx fun e w' => e = .returned (.tuple #[.agg #[.int .i64 r, .int .i64 bi], .agg #[.int .i64 r2, .int .i64 bk], .int .i64 bg]) ∧ Below wx.heap.size wx w' from fun wx h => by have := rWitness_any A A2 c c2 p rn rn2 m m2 L L2 wx (HPB.out wx h) hL hL2 hm hm2 b hb; rw [hbi, hbk, hbg] at this; rw [er, er2]; exact this)
  clear hb1 q1 hz1 hP
  clear er er2 eL eL2 hm hm2 hb hbi hbk hbg hL hL2
  go_enter Tryz.func9, Tryz.ntmps9
  go_wp2_with fail
  refine (HFW.out _ HB0.out).mono ?_
  rintro e w23 ⟨rfl, hb23⟩
  have HB23 := Lib.hid (HB0.out.trans (hb23.mono HB0.out.size))
  have ra := HR.out _ HB23.out
  have e0 := ra.cell 0; have e1 := ra.cell 1
  clear ra
  clear hb23
  clear hW1
  go_wp2_with fail
  refine (HWI.out _ HB23.out).mono ?_
  rintro e w24 ⟨rfl, hb24⟩
  have HB24 := Lib.hid (HB23.out.trans (hb24.mono HB23.out.size))
  have ra := HR.out _ HB24.out
  have e0 := ra.cell 0; have e1 := ra.cell 1
  clear ra
  clear hb24
  have hbx := ((HB24.out.alloc HB24.out.size (.cells #[.int .i64 r, .int .i64 bi] 34)).alloc (by have := HB24.out.size; simp; omega) (.cells #[.int .i64 r2, .int .i64 bk] 34))
  obtain ⟨qa, qb⟩ := rows2 w24 #[.int .i64 r, .int .i64 bi] #[.int .i64 r2, .int .i64 bk] 34 34
  have ra := HR.out _ hbx
  have hzx : ((w24.alloc (.cells #[.int .i64 r, .int .i64 bi] 34)).alloc (.cells #[.int .i64 r2, .int .i64 bk] 34)).heap.size = w24.heap.size + 2 := by simp
  obtain ⟨W4, hW4⟩ : ∃ z, (w24.alloc (.cells #[.int .i64 r, .int .i64 bi] 34)).alloc (.cells #[.int .i64 r2, .int .i64 bk] 34) = z := ⟨_, rfl⟩
  rw [hW4] at hbx qa qb ra hzx
  have HBW4 := Lib.hid hbx
  have HRX := Lib.hid (show ∀ wx, Below W4.heap.size W4 wx → Rw wx w.heap.size 25 #[.slice A p.nodes.length c, .slice A2 p.rails.length c2] ∧ Rw wx w24.heap.size 34 #[.int .i64 r, .int .i64 bi] ∧ Rw wx (w24.heap.size + 1) 34 #[.int .i64 r2, .int .i64 bk] from fun wx h => ⟨ra.below h (by have := ra.lt; omega), qa.below h (by omega), qb.below h (by omega)⟩)
  have e0 := ra.cell 0; have e1 := ra.cell 1; have e2 := qa.cell 0; have e3 := qa.cell 1; have e4 := qb.cell 0; have e5 := qb.cell 1
  clear hbx qa qb ra hzx
  go_wp2_with fail
  refine (HVL.out _ HBW4.out).mono ?_
  rintro e w5 ⟨rfl, hb5⟩
  have HB45 := Lib.hid hb5
  have HB5 := Lib.hid (HBW4.out.trans (hb5.mono HBW4.out.size))
  obtain ⟨ra, rb, rc⟩ := HRX.out _ hb5
  have e0 := ra.cell 0; have e1 := ra.cell 1; have e2 := rb.cell 0; have e3 := rb.cell 1; have e4 := rc.cell 0; have e5 := rc.cell 1
  clear ra rb rc hb5 hW4
  go_wp2_with fail
  refine (HRW.out _ HB5.out).mono ?_
  rintro e w6 ⟨rfl, hb6⟩
  have HB6 := Lib.hid (HB5.out.trans (hb6.mono HB5.out.size))
  have hb46 := HB45.out.trans (hb6.mono HB45.out.size)
  have hbx := ((HB6.out.alloc HB6.out.size (.cells #[.int .i64 r, .int .i64 bi] 34)).alloc (by have := HB6.out.size; simp; omega) (.cells #[.int .i64 r2, .int .i64 bk] 34))
  obtain ⟨qa, qb⟩ := rows2 w6 #[.int .i64 r, .int .i64 bi] #[.int .i64 r2, .int .i64 bk] 34 34
  have ra := HR.out _ hbx
  have hzx : ((w6.alloc (.cells #[.int .i64 r, .int .i64 bi] 34)).alloc (.cells #[.int .i64 r2, .int .i64 bk] 34)).heap.size = w6.heap.size + 2 := by simp
  obtain ⟨W7, hW7⟩ : ∃ z, (w6.alloc (.cells #[.int .i64 r, .int .i64 bi] 34)).alloc (.cells #[.int .i64 r2, .int .i64 bk] 34) = z := ⟨_, rfl⟩
  rw [hW7] at hbx qa qb ra hzx
  have HBW7 := Lib.hid hbx
  obtain ⟨rq, rb, rc⟩ := HRX.out _ (show Below W4.heap.size W4 W7 from by rw [← hW7]; exact ((hb46.alloc hb46.size _).alloc (by have := hb46.size; simp; omega) _))
  have e0 := ra.cell 0; have e1 := ra.cell 1; have e2 := rb.cell 0; have e3 := rb.cell 1; have e4 := rc.cell 0; have e5 := rc.cell 1; have e6 := qa.cell 0; have e7 := qa.cell 1; have e8 := qb.cell 0; have e9 := qb.cell 1
  clear hbx qa qb ra rb rc rq hzx hb6 hb46
  go_wp2_with fail
  refine (HKN.out _ HBW7.out).mono ?_
  rintro e w8 ⟨rfl, hb8⟩
  have HB8 := Lib.hid (HBW7.out.trans (hb8.mono HBW7.out.size))
  clear hb8
  go_wp2
  go_ret
  exact ⟨rfl, HB1.out.trans (HB8.out.mono HB1.out.size)⟩

theorem SweepWitness_any (A A2 : Option Addr) (c c2 : Nat) (p : Pl) (r r2 : Int) (w : World) (hP : PlAt w w.heap.size A c A2 c2 p) :
    Calls Tryz.prog 9 #[.agg #[.slice A p.nodes.length c, .slice A2 p.rails.length c2], .int .i64 r, .int .i64 r2] w fun e w' => e = .returned (.bool true) ∧ Below w.heap.size w w' := by
  have hin : ∀ x : Int, (railIn p x = true ↔ ¬ x < 0 ∧ ¬ (p.rails.length : Int) ≤ x) := fun x => by unfold railIn; rw [decide_eq_true_iff]; omega
  cases hfew : fewB p with
  | false => exact wit_few A A2 c c2 p r r2 w hP hfew
  | true =>
    by_cases hv : Vld p
    · by_cases hr : r < 0
      · exact wit_n2 A A2 c c2 p r r2 w hP hfew (fun h => ((hin r).1 h.2.1).1 hr) hv hr
      · by_cases hr1 : (p.rails.length : Int) ≤ r
        · exact wit_n3 A A2 c c2 p r r2 w hP hfew (fun h => ((hin r).1 h.2.1).2 hr1) hv hr hr1
        · by_cases hs : r2 < 0
          · exact wit_n4 A A2 c c2 p r r2 w hP hfew (fun h => ((hin r2).1 h.2.2).1 hs) hv hr hr1 hs
          · by_cases hs1 : (p.rails.length : Int) ≤ r2
            · exact wit_n5 A A2 c c2 p r r2 w hP hfew (fun h => ((hin r2).1 h.2.2).2 hs1) hv hr hr1 hs hs1
            · exact wit_yes A A2 c c2 p r r2 w hP hfew hv hr hr1 hs hs1
    · exact wit_n1 A A2 c c2 p r r2 w hP hfew (fun h => hv h.1) hv
end Go.Proofs.YtekambdnmaompaaGreat.SW
