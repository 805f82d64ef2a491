/- The law SweepOutside in general. -/
import Derived.Test.YtekambdnmaompaaGreatK12
import Derived.Test.YtekambdnmaompaaGreatK14
import Derived.Test.YtekambdnmaompaaGreatJ8
import Derived.Test.YtekambdnmaompaaGreatV1
namespace Go.Proofs.YtekambdnmaompaaGreat.SW
set_option linter.unusedVariables false
set_option linter.unusedSimpArgs false
open Go.RowKit

/-- the cells of the boxes -/
def OC (k : Nat) (A A2 : Option Addr) (n c N c2 : Nat) (a b : C3) (hx sx hy sy : Int) (wx : World) : Prop := wx.cell? ⟨k, 0, none⟩ = some (.slice A n c) ∧ wx.cell? ⟨k, 1, none⟩ = some (.slice A2 N c2) ∧ wx.cell? ⟨k + 1, 0, none⟩ = some (.int .i64 a.rail) ∧ wx.cell? ⟨k + 1, 1, none⟩ = some (.int .i64 a.frm) ∧ wx.cell? ⟨k + 1, 2, none⟩ = some (.int .i64 a.to) ∧ wx.cell? ⟨k + 1 + 1, 0, none⟩ = some (.int .i64 hx) ∧ wx.cell? ⟨k + 1 + 1, 1, none⟩ = some (.int .i64 sx) ∧ wx.cell? ⟨k + 1 + 1 + 1, 0, none⟩ = some (.int .i64 b.rail) ∧ wx.cell? ⟨k + 1 + 1 + 1, 1, none⟩ = some (.int .i64 b.frm) ∧ wx.cell? ⟨k + 1 + 1 + 1, 2, none⟩ = some (.int .i64 b.to) ∧ wx.cell? ⟨k + 1 + 1 + 1 + 1, 0, none⟩ = some (.int .i64 hy) ∧ wx.cell? ⟨k + 1 + 1 + 1 + 1, 1, none⟩ = some (.int .i64 sy)

set_option maxRecDepth 100000 in
set_option maxHeartbeats 8000000 in
theorem outs_few (A A2 : Option Addr) (c c2 : Nat) (p : Pl) (a b : C3) (hx sx hy sy : Int) (w : World) (hP : PlAt w w.heap.size A c A2 c2 p) (hfew : fewB p = false) :
    Calls Tryz.prog 12 #[.agg #[.slice A p.nodes.length c, .slice A2 p.rails.length c2], .agg #[.int .i64 a.rail, .int .i64 a.frm, .int .i64 a.to], .agg #[.int .i64 hx, .int .i64 sx], .agg #[.int .i64 b.rail, .int .i64 b.frm, .int .i64 b.to], .agg #[.int .i64 hy, .int .i64 sy]] w fun e w' => e = .returned (.bool true) ∧ Below w.heap.size w w' := by
  have hrm := hP.rm; have hrc := hP.rc
  have hb3 := (((((Below.refl _ w).alloc (Nat.le_refl _) (.cells #[.slice A p.nodes.length c, .slice A2 p.rails.length c2] 25)).alloc (by simp) (.cells #[.int .i64 a.rail, .int .i64 a.frm, .int .i64 a.to] 79)).alloc (by simp; omega) (.cells #[.int .i64 hx, .int .i64 sx] 46)).alloc (by simp; omega) (.cells #[.int .i64 b.rail, .int .i64 b.frm, .int .i64 b.to] 79)).alloc (by simp; omega) (.cells #[.int .i64 hy, .int .i64 sy] 46)
  obtain ⟨q1, q2, q3, q4, q5⟩ := rows5 w #[.slice A p.nodes.length c, .slice A2 p.rails.length c2] #[.int .i64 a.rail, .int .i64 a.frm, .int .i64 a.to] #[.int .i64 hx, .int .i64 sx] #[.int .i64 b.rail, .int .i64 b.frm, .int .i64 b.to] #[.int .i64 hy, .int .i64 sy] 25 79 46 79 46
  have hz1 : (((((w.alloc (.cells #[.slice A p.nodes.length c, .slice A2 p.rails.length c2] 25)).alloc (.cells #[.int .i64 a.rail, .int .i64 a.frm, .int .i64 a.to] 79)).alloc (.cells #[.int .i64 hx, .int .i64 sx] 46)).alloc (.cells #[.int .i64 b.rail, .int .i64 b.frm, .int .i64 b.to] 79)).alloc (.cells #[.int .i64 hy, .int .i64 sy] 46)).heap.size = w.heap.size + 5 := by simp
  obtain ⟨W1, hW1⟩ : ∃ z, (((((w.alloc (.cells #[.slice A p.nodes.length c, .slice A2 p.rails.length c2] 25)).alloc (.cells #[.int .i64 a.rail, .int .i64 a.frm, .int .i64 a.to] 79)).alloc (.cells #[.int .i64 hx, .int .i64 sx] 46)).alloc (.cells #[.int .i64 b.rail, .int .i64 b.frm, .int .i64 b.to] 79)).alloc (.cells #[.int .i64 hy, .int .i64 sy] 46)) = z := ⟨_, rfl⟩
  rw [hW1] at hb3 q1 q2 q3 q4 q5 hz1
  have HB1 := Lib.hid hb3
  have HB0 := Lib.hid (Below.refl W1.heap.size W1)
  have HZ1 := Lib.hid hz1
  have HR := Lib.hid (show ∀ wx, Below W1.heap.size W1 wx → Rw wx w.heap.size 25 #[.slice A p.nodes.length c, .slice A2 p.rails.length c2] ∧ Rw wx (w.heap.size + 1) 79 #[.int .i64 a.rail, .int .i64 a.frm, .int .i64 a.to] ∧ Rw wx (w.heap.size + 1 + 1) 46 #[.int .i64 hx, .int .i64 sx] ∧ Rw wx (w.heap.size + 1 + 1 + 1) 79 #[.int .i64 b.rail, .int .i64 b.frm, .int .i64 b.to] ∧ Rw wx (w.heap.size + 1 + 1 + 1 + 1) 46 #[.int .i64 hy, .int .i64 sy] from fun wx h => ⟨q1.below h (by omega), q2.below h (by omega), q3.below h (by omega), q4.below h (by omega), q5.below h (by omega)⟩)
  have HPB := Lib.hid (show ∀ wx, Below W1.heap.size W1 wx → PlAt wx wx.heap.size A c A2 c2 p from fun wx h => ((hP.below hb3).below (h.mono hb3.size)).more (Nat.le_trans hb3.size h.size))
  have HKN := Lib.hid (show ∀ wx, Below W1.heap.size W1 wx → Calls Tryz.prog 16 #[] wx fun e w' => e = .returned (.bool true) ∧ Below wx.heap.size wx w' from fun wx _ => known_any wx)
  have e0 := q1.cell 0; have e1 := q1.cell 1; have a0 := q2.cell 0; have a1 := q2.cell 1; have a2 := q2.cell 2; have e2 := q3.cell 0; have e3 := q3.cell 1; have b0 := q4.cell 0; have b1 := q4.cell 1; have b2 := q4.cell 2; have e4 := q5.cell 0; have e5 := q5.cell 1
  have HFW := Lib.hid (show ∀ wx, Below W1.heap.size W1 wx → Calls Tryz.prog 15 #[.agg #[.slice A p.nodes.length c, .slice A2 p.rails.length c2]] wx fun e w' => e = .returned (.bool false) ∧ Below wx.heap.size wx w' from fun wx h => by have := few_any A A2 c c2 p wx (HPB.out wx h); rwa [hfew] at this)
  clear hb3 q1 q2 q3 q4 q5 hz1 hP
  go_enter Tryz.func12, Tryz.ntmps12
  go_wp2_with fail
  refine (HFW.out _ HB0.out).mono ?_
  rintro e w11 ⟨rfl, hb11⟩
  have HB11 := Lib.hid (HB0.out.trans (hb11.mono HB0.out.size))
  obtain ⟨r1, r2', r3, r4, r5⟩ := HR.out _ HB11.out
  have e0 := r1.cell 0; have e1 := r1.cell 1; have a0 := r2'.cell 0; have a1 := r2'.cell 1; have a2 := r2'.cell 2; have e2 := r3.cell 0; have e3 := r3.cell 1; have b0 := r4.cell 0; have b1 := r4.cell 1; have b2 := r4.cell 2; have e4 := r5.cell 0; have e5 := r5.cell 1
  clear r1 r2' r3 r4 r5
  clear hb11
  clear hW1
  go_wp2_with fail
  refine (HKN.out _ HB11.out).mono ?_
  rintro e w12 ⟨rfl, hb12⟩
  have HB12 := Lib.hid (HB11.out.trans (hb12.mono HB11.out.size))
  obtain ⟨r1, r2', r3, r4, r5⟩ := HR.out _ HB12.out
  have e0 := r1.cell 0; have e1 := r1.cell 1; have a0 := r2'.cell 0; have a1 := r2'.cell 1; have a2 := r2'.cell 2; have e2 := r3.cell 0; have e3 := r3.cell 1; have b0 := r4.cell 0; have b1 := r4.cell 1; have b2 := r4.cell 2; have e4 := r5.cell 0; have e5 := r5.cell 1
  clear r1 r2' r3 r4 r5
  clear hb12
  go_wp2
  go_ret
  exact ⟨rfl, HB1.out.trans (HB12.out.mono HB1.out.size)⟩

set_option maxRecDepth 100000 in
set_option maxHeartbeats 8000000 in
theorem outs_n1 (A A2 : Option Addr) (c c2 : Nat) (p : Pl) (a b : C3) (hx sx hy sy : Int) (w : World) (hP : PlAt w w.heap.size A c A2 c2 p) (hfew : fewB p = true) (hv : ¬ Vld p) :
    Calls Tryz.prog 12 #[.agg #[.slice A p.nodes.length c, .slice A2 p.rails.length c2], .agg #[.int .i64 a.rail, .int .i64 a.frm, .int .i64 a.to], .agg #[.int .i64 hx, .int .i64 sx], .agg #[.int .i64 b.rail, .int .i64 b.frm, .int .i64 b.to], .agg #[.int .i64 hy, .int .i64 sy]] w fun e w' => e = .returned (.bool true) ∧ Below w.heap.size w w' := by
  have hrm := hP.rm; have hrc := hP.rc
  have hb3 := (((((Below.refl _ w).alloc (Nat.le_refl _) (.cells #[.slice A p.nodes.length c, .slice A2 p.rails.length c2] 25)).alloc (by simp) (.cells #[.int .i64 a.rail, .int .i64 a.frm, .int .i64 a.to] 79)).alloc (by simp; omega) (.cells #[.int .i64 hx, .int .i64 sx] 46)).alloc (by simp; omega) (.cells #[.int .i64 b.rail, .int .i64 b.frm, .int .i64 b.to] 79)).alloc (by simp; omega) (.cells #[.int .i64 hy, .int .i64 sy] 46)
  obtain ⟨q1, q2, q3, q4, q5⟩ := rows5 w #[.slice A p.nodes.length c, .slice A2 p.rails.length c2] #[.int .i64 a.rail, .int .i64 a.frm, .int .i64 a.to] #[.int .i64 hx, .int .i64 sx] #[.int .i64 b.rail, .int .i64 b.frm, .int .i64 b.to] #[.int .i64 hy, .int .i64 sy] 25 79 46 79 46
  have hz1 : (((((w.alloc (.cells #[.slice A p.nodes.length c, .slice A2 p.rails.length c2] 25)).alloc (.cells #[.int .i64 a.rail, .int .i64 a.frm, .int .i64 a.to] 79)).alloc (.cells #[.int .i64 hx, .int .i64 sx] 46)).alloc (.cells #[.int .i64 b.rail, .int .i64 b.frm, .int .i64 b.to] 79)).alloc (.cells #[.int .i64 hy, .int .i64 sy] 46)).heap.size = w.heap.size + 5 := by simp
  obtain ⟨W1, hW1⟩ : ∃ z, (((((w.alloc (.cells #[.slice A p.nodes.length c, .slice A2 p.rails.length c2] 25)).alloc (.cells #[.int .i64 a.rail, .int .i64 a.frm, .int .i64 a.to] 79)).alloc (.cells #[.int .i64 hx, .int .i64 sx] 46)).alloc (.cells #[.int .i64 b.rail, .int .i64 b.frm, .int .i64 b.to] 79)).alloc (.cells #[.int .i64 hy, .int .i64 sy] 46)) = z := ⟨_, rfl⟩
  rw [hW1] at hb3 q1 q2 q3 q4 q5 hz1
  have HB1 := Lib.hid hb3
  have HB0 := Lib.hid (Below.refl W1.heap.size W1)
  have HZ1 := Lib.hid hz1
  have HR := Lib.hid (show ∀ wx, Below W1.heap.size W1 wx → Rw wx w.heap.size 25 #[.slice A p.nodes.length c, .slice A2 p.rails.length c2] ∧ Rw wx (w.heap.size + 1) 79 #[.int .i64 a.rail, .int .i64 a.frm, .int .i64 a.to] ∧ Rw wx (w.heap.size + 1 + 1) 46 #[.int .i64 hx, .int .i64 sx] ∧ Rw wx (w.heap.size + 1 + 1 + 1) 79 #[.int .i64 b.rail, .int .i64 b.frm, .int .i64 b.to] ∧ Rw wx (w.heap.size + 1 + 1 + 1 + 1) 46 #[.int .i64 hy, .int .i64 sy] from fun wx h => ⟨q1.below h (by omega), q2.below h (by omega), q3.below h (by omega), q4.below h (by omega), q5.below h (by omega)⟩)
  have HPB := Lib.hid (show ∀ wx, Below W1.heap.size W1 wx → PlAt wx wx.heap.size A c A2 c2 p from fun wx h => ((hP.below hb3).below (h.mono hb3.size)).more (Nat.le_trans hb3.size h.size))
  have HKN := Lib.hid (show ∀ wx, Below W1.heap.size W1 wx → Calls Tryz.prog 16 #[] wx fun e w' => e = .returned (.bool true) ∧ Below wx.heap.size wx w' from fun wx _ => known_any wx)
  have e0 := q1.cell 0; have e1 := q1.cell 1; have a0 := q2.cell 0; have a1 := q2.cell 1; have a2 := q2.cell 2; have e2 := q3.cell 0; have e3 := q3.cell 1; have b0 := q4.cell 0; have b1 := q4.cell 1; have b2 := q4.cell 2; have e4 := q5.cell 0; have e5 := q5.cell 1
  have HFW := Lib.hid (show ∀ wx, Below W1.heap.size W1 wx → Calls Tryz.prog 15 #[.agg #[.slice A p.nodes.length c, .slice A2 p.rails.length c2]] wx fun e w' => e = .returned (.bool true) ∧ Below wx.heap.size wx w' from fun wx h => by have := few_any A A2 c c2 p wx (HPB.out wx h); rwa [hfew] at this)
  have HVL := Lib.hid (show ∀ wx, Below W1.heap.size W1 wx → Calls Tryz.prog 19 #[.agg #[.slice A p.nodes.length c, .slice A2 p.rails.length c2]] wx fun e w' => e = .returned (.bool false) ∧ Below wx.heap.size wx w' from fun wx h => (Valid_any A A2 c c2 p wx (HPB.out wx h)).mono (by rintro e w' ⟨⟨b, rfl, hb⟩, h2⟩; cases b; exact ⟨rfl, h2⟩; exact absurd (hb.1 rfl) hv))
  clear hb3 q1 q2 q3 q4 q5 hz1 hP
  go_enter Tryz.func12, Tryz.ntmps12
  go_wp2_with fail
  refine (HFW.out _ HB0.out).mono ?_
  rintro e w13 ⟨rfl, hb13⟩
  have HB13 := Lib.hid (HB0.out.trans (hb13.mono HB0.out.size))
  obtain ⟨r1, r2', r3, r4, r5⟩ := HR.out _ HB13.out
  have e0 := r1.cell 0; have e1 := r1.cell 1; have a0 := r2'.cell 0; have a1 := r2'.cell 1; have a2 := r2'.cell 2; have e2 := r3.cell 0; have e3 := r3.cell 1; have b0 := r4.cell 0; have b1 := r4.cell 1; have b2 := r4.cell 2; have e4 := r5.cell 0; have e5 := r5.cell 1
  clear r1 r2' r3 r4 r5
  clear hb13
  clear hW1
  go_wp2_with fail
  refine (HVL.out _ HB13.out).mono ?_
  rintro e w14 ⟨rfl, hb14⟩
  have HB14 := Lib.hid (HB13.out.trans (hb14.mono HB13.out.size))
  obtain ⟨r1, r2', r3, r4, r5⟩ := HR.out _ HB14.out
  have e0 := r1.cell 0; have e1 := r1.cell 1; have a0 := r2'.cell 0; have a1 := r2'.cell 1; have a2 := r2'.cell 2; have e2 := r3.cell 0; have e3 := r3.cell 1; have b0 := r4.cell 0; have b1 := r4.cell 1; have b2 := r4.cell 2; have e4 := r5.cell 0; have e5 := r5.cell 1
  clear r1 r2' r3 r4 r5
  clear hb14
  go_wp2_with fail
  refine (HKN.out _ HB14.out).mono ?_
  rintro e w15 ⟨rfl, hb15⟩
  have HB15 := Lib.hid (HB14.out.trans (hb15.mono HB14.out.size))
  obtain ⟨r1, r2', r3, r4, r5⟩ := HR.out _ HB15.out
  have e0 := r1.cell 0; have e1 := r1.cell 1; have a0 := r2'.cell 0; have a1 := r2'.cell 1; have a2 := r2'.cell 2; have e2 := r3.cell 0; have e3 := r3.cell 1; have b0 := r4.cell 0; have b1 := r4.cell 1; have b2 := r4.cell 2; have e4 := r5.cell 0; have e5 := r5.cell 1
  clear r1 r2' r3 r4 r5
  clear hb15
  go_wp2
  go_ret
  exact ⟨rfl, HB1.out.trans (HB15.out.mono HB1.out.size)⟩

set_option maxRecDepth 100000 in
set_option maxHeartbeats 8000000 in
theorem outs_p1 (A A2 : Option Addr) (c c2 : Nat) (p : Pl) (a b : C3) (hx sx hy sy : Int) (w : World) (hP : PlAt w w.heap.size A c A2 c2 p) (hfew : fewB p = true) (hv : Vld p) (hpx : prB ⟨hx, sx⟩ = false) :
    Calls Tryz.prog 12 #[.agg #[.slice A p.nodes.length c, .slice A2 p.rails.length c2], .agg #[.int .i64 a.rail, .int .i64 a.frm, .int .i64 a.to], .agg #[.int .i64 hx, .int .i64 sx], .agg #[.int .i64 b.rail, .int .i64 b.frm, .int .i64 b.to], .agg #[.int .i64 hy, .int .i64 sy]] w fun e w' => e = .returned (.bool true) ∧ Below w.heap.size w w' := by
  have hrm := hP.rm; have hrc := hP.rc
  have hb3 := (((((Below.refl _ w).alloc (Nat.le_refl _) (.cells #[.slice A p.nodes.length c, .slice A2 p.rails.length c2] 25)).alloc (by simp) (.cells #[.int .i64 a.rail, .int .i64 a.frm, .int .i64 a.to] 79)).alloc (by simp; omega) (.cells #[.int .i64 hx, .int .i64 sx] 46)).alloc (by simp; omega) (.cells #[.int .i64 b.rail, .int .i64 b.frm, .int .i64 b.to] 79)).alloc (by simp; omega) (.cells #[.int .i64 hy, .int .i64 sy] 46)
  obtain ⟨q1, q2, q3, q4, q5⟩ := rows5 w #[.slice A p.nodes.length c, .slice A2 p.rails.length c2] #[.int .i64 a.rail, .int .i64 a.frm, .int .i64 a.to] #[.int .i64 hx, .int .i64 sx] #[.int .i64 b.rail, .int .i64 b.frm, .int .i64 b.to] #[.int .i64 hy, .int .i64 sy] 25 79 46 79 46
  have hz1 : (((((w.alloc (.cells #[.slice A p.nodes.length c, .slice A2 p.rails.length c2] 25)).alloc (.cells #[.int .i64 a.rail, .int .i64 a.frm, .int .i64 a.to] 79)).alloc (.cells #[.int .i64 hx, .int .i64 sx] 46)).alloc (.cells #[.int .i64 b.rail, .int .i64 b.frm, .int .i64 b.to] 79)).alloc (.cells #[.int .i64 hy, .int .i64 sy] 46)).heap.size = w.heap.size + 5 := by simp
  obtain ⟨W1, hW1⟩ : ∃ z, (((((w.alloc (.cells #[.slice A p.nodes.length c, .slice A2 p.rails.length c2] 25)).alloc (.cells #[.int .i64 a.rail, .int .i64 a.frm, .int .i64 a.to] 79)).alloc (.cells #[.int .i64 hx, .int .i64 sx] 46)).alloc (.cells #[.int .i64 b.rail, .int .i64 b.frm, .int .i64 b.to] 79)).alloc (.cells #[.int .i64 hy, .int .i64 sy] 46)) = z := ⟨_, rfl⟩
  rw [hW1] at hb3 q1 q2 q3 q4 q5 hz1
  have HB1 := Lib.hid hb3
  have HB0 := Lib.hid (Below.refl W1.heap.size W1)
  have HZ1 := Lib.hid hz1
  have HR := Lib.hid (show ∀ wx, Below W1.heap.size W1 wx → Rw wx w.heap.size 25 #[.slice A p.nodes.length c, .slice A2 p.rails.length c2] ∧ Rw wx (w.heap.size + 1) 79 #[.int .i64 a.rail, .int .i64 a.frm, .int .i64 a.to] ∧ Rw wx (w.heap.size + 1 + 1) 46 #[.int .i64 hx, .int .i64 sx] ∧ Rw wx (w.heap.size + 1 + 1 + 1) 79 #[.int .i64 b.rail, .int .i64 b.frm, .int .i64 b.to] ∧ Rw wx (w.heap.size + 1 + 1 + 1 + 1) 46 #[.int .i64 hy, .int .i64 sy] from fun wx h => ⟨q1.below h (by omega), q2.below h (by omega), q3.below h (by omega), q4.below h (by omega), q5.below h (by omega)⟩)
  have HPB := Lib.hid (show ∀ wx, Below W1.heap.size W1 wx → PlAt wx wx.heap.size A c A2 c2 p from fun wx h => ((hP.below hb3).below (h.mono hb3.size)).more (Nat.le_trans hb3.size h.size))
  have HKN := Lib.hid (show ∀ wx, Below W1.heap.size W1 wx → Calls Tryz.prog 16 #[] wx fun e w' => e = .returned (.bool true) ∧ Below wx.heap.size wx w' from fun wx _ => known_any wx)
  have e0 := q1.cell 0; have e1 := q1.cell 1; have a0 := q2.cell 0; have a1 := q2.cell 1; have a2 := q2.cell 2; have e2 := q3.cell 0; have e3 := q3.cell 1; have b0 := q4.cell 0; have b1 := q4.cell 1; have b2 := q4.cell 2; have e4 := q5.cell 0; have e5 := q5.cell 1
  have HFW := Lib.hid (show ∀ wx, Below W1.heap.size W1 wx → Calls Tryz.prog 15 #[.agg #[.slice A p.nodes.length c, .slice A2 p.rails.length c2]] wx fun e w' => e = .returned (.bool true) ∧ Below wx.heap.size wx w' from fun wx h => by have := few_any A A2 c c2 p wx (HPB.out wx h); rwa [hfew] at this)
  have HVL := Lib.hid (show ∀ wx, Below W1.heap.size W1 wx → Calls Tryz.prog 19 #[.agg #[.slice A p.nodes.length c, .slice A2 p.rails.length c2]] wx fun e w' => e = .returned (.bool true) ∧ Below wx.heap.size wx w' from fun wx h => (Valid_any A A2 c c2 p wx (HPB.out wx h)).mono (by rintro e w' ⟨⟨b, rfl, hb⟩, h2⟩; rw [hb.2 hv]; exact ⟨rfl, h2⟩))
  have HP1 := Lib.hid (show ∀ wx, Below W1.heap.size W1 wx → Calls Tryz.prog 29 #[.agg #[.int .i64 hx, .int .i64 sx]] wx fun e w' => e = .returned (.bool false) ∧ Below wx.heap.size wx w' from fun wx h => by have := rProfile_any ⟨hx, sx⟩ wx; rwa [hpx] at this)
  clear hb3 q1 q2 q3 q4 q5 hz1 hP
  go_enter Tryz.func12, Tryz.ntmps12
  go_wp2_with fail
  refine (HFW.out _ HB0.out).mono ?_
  rintro e w16 ⟨rfl, hb16⟩
  have HB16 := Lib.hid (HB0.out.trans (hb16.mono HB0.out.size))
  obtain ⟨r1, r2', r3, r4, r5⟩ := HR.out _ HB16.out
  have e0 := r1.cell 0; have e1 := r1.cell 1; have a0 := r2'.cell 0; have a1 := r2'.cell 1; have a2 := r2'.cell 2; have e2 := r3.cell 0; have e3 := r3.cell 1; have b0 := r4.cell 0; have b1 := r4.cell 1; have b2 := r4.cell 2; have e4 := r5.cell 0; have e5 := r5.cell 1
  clear r1 r2' r3 r4 r5
  clear hb16
  clear hW1
  go_wp2_with fail
  refine (HVL.out _ HB16.out).mono ?_
  rintro e w17 ⟨rfl, hb17⟩
  have HB17 := Lib.hid (HB16.out.trans (hb17.mono HB16.out.size))
  obtain ⟨r1, r2', r3, r4, r5⟩ := HR.out _ HB17.out
  have e0 := r1.cell 0; have e1 := r1.cell 1; have a0 := r2'.cell 0; have a1 := r2'.cell 1; have a2 := r2'.cell 2; have e2 := r3.cell 0; have e3 := r3.cell 1; have b0 := r4.cell 0; have b1 := r4.cell 1; have b2 := r4.cell 2; have e4 := r5.cell 0; have e5 := r5.cell 1
  clear r1 r2' r3 r4 r5
  clear hb17
  go_wp2_with fail
  refine (HP1.out _ HB17.out).mono ?_
  rintro e w18 ⟨rfl, hb18⟩
  have HB18 := Lib.hid (HB17.out.trans (hb18.mono HB17.out.size))
  obtain ⟨r1, r2', r3, r4, r5⟩ := HR.out _ HB18.out
  have e0 := r1.cell 0; have e1 := r1.cell 1; have a0 := r2'.cell 0; have a1 := r2'.cell 1; have a2 := r2'.cell 2; have e2 := r3.cell 0; have e3 := r3.cell 1; have b0 := r4.cell 0; have b1 := r4.cell 1; have b2 := r4.cell 2; have e4 := r5.cell 0; have e5 := r5.cell 1
  clear r1 r2' r3 r4 r5
  clear hb18
  go_wp2_with fail
  refine (HKN.out _ HB18.out).mono ?_
  rintro e w19 ⟨rfl, hb19⟩
  have HB19 := Lib.hid (HB18.out.trans (hb19.mono HB18.out.size))
  obtain ⟨r1, r2', r3, r4, r5⟩ := HR.out _ HB19.out
  have e0 := r1.cell 0; have e1 := r1.cell 1; have a0 := r2'.cell 0; have a1 := r2'.cell 1; have a2 := r2'.cell 2; have e2 := r3.cell 0; have e3 := r3.cell 1; have b0 := r4.cell 0; have b1 := r4.cell 1; have b2 := r4.cell 2; have e4 := r5.cell 0; have e5 := r5.cell 1
  clear r1 r2' r3 r4 r5
  clear hb19
  go_wp2
  go_ret
  exact ⟨rfl, HB1.out.trans (HB19.out.mono HB1.out.size)⟩

set_option maxRecDepth 100000 in
set_option maxHeartbeats 8000000 in
theorem outs_p2 (A A2 : Option Addr) (c c2 : Nat) (p : Pl) (a b : C3) (hx sx hy sy : Int) (w : World) (hP : PlAt w w.heap.size A c A2 c2 p) (hfew : fewB p = true) (hv : Vld p) (hpx : prB ⟨hx, sx⟩ = true) (hpy : prB ⟨hy, sy⟩ = false) :
    Calls Tryz.prog 12 #[.agg #[.slice A p.nodes.length c, .slice A2 p.rails.length c2], .agg #[.int .i64 a.rail, .int .i64 a.frm, .int .i64 a.to], .agg #[.int .i64 hx, .int .i64 sx], .agg #[.int .i64 b.rail, .int .i64 b.frm, .int .i64 b.to], .agg #[.int .i64 hy, .int .i64 sy]] w fun e w' => e = .returned (.bool true) ∧ Below w.heap.size w w' := by
  have hrm := hP.rm; have hrc := hP.rc
  have hb3 := (((((Below.refl _ w).alloc (Nat.le_refl _) (.cells #[.slice A p.nodes.length c, .slice A2 p.rails.length c2] 25)).alloc (by simp) (.cells #[.int .i64 a.rail, .int .i64 a.frm, .int .i64 a.to] 79)).alloc (by simp; omega) (.cells #[.int .i64 hx, .int .i64 sx] 46)).alloc (by simp; omega) (.cells #[.int .i64 b.rail, .int .i64 b.frm, .int .i64 b.to] 79)).alloc (by simp; omega) (.cells #[.int .i64 hy, .int .i64 sy] 46)
  obtain ⟨q1, q2, q3, q4, q5⟩ := rows5 w #[.slice A p.nodes.length c, .slice A2 p.rails.length c2] #[.int .i64 a.rail, .int .i64 a.frm, .int .i64 a.to] #[.int .i64 hx, .int .i64 sx] #[.int .i64 b.rail, .int .i64 b.frm, .int .i64 b.to] #[.int .i64 hy, .int .i64 sy] 25 79 46 79 46
  have hz1 : (((((w.alloc (.cells #[.slice A p.nodes.length c, .slice A2 p.rails.length c2] 25)).alloc (.cells #[.int .i64 a.rail, .int .i64 a.frm, .int .i64 a.to] 79)).alloc (.cells #[.int .i64 hx, .int .i64 sx] 46)).alloc (.cells #[.int .i64 b.rail, .int .i64 b.frm, .int .i64 b.to] 79)).alloc (.cells #[.int .i64 hy, .int .i64 sy] 46)).heap.size = w.heap.size + 5 := by simp
  obtain ⟨W1, hW1⟩ : ∃ z, (((((w.alloc (.cells #[.slice A p.nodes.length c, .slice A2 p.rails.length c2] 25)).alloc (.cells #[.int .i64 a.rail, .int .i64 a.frm, .int .i64 a.to] 79)).alloc (.cells #[.int .i64 hx, .int .i64 sx] 46)).alloc (.cells #[.int .i64 b.rail, .int .i64 b.frm, .int .i64 b.to] 79)).alloc (.cells #[.int .i64 hy, .int .i64 sy] 46)) = z := ⟨_, rfl⟩
  rw [hW1] at hb3 q1 q2 q3 q4 q5 hz1
  have HB1 := Lib.hid hb3
  have HB0 := Lib.hid (Below.refl W1.heap.size W1)
  have HZ1 := Lib.hid hz1
  have HR := Lib.hid (show ∀ wx, Below W1.heap.size W1 wx → Rw wx w.heap.size 25 #[.slice A p.nodes.length c, .slice A2 p.rails.length c2] ∧ Rw wx (w.heap.size + 1) 79 #[.int .i64 a.rail, .int .i64 a.frm, .int .i64 a.to] ∧ Rw wx (w.heap.size + 1 + 1) 46 #[.int .i64 hx, .int .i64 sx] ∧ Rw wx (w.heap.size + 1 + 1 + 1) 79 #[.int .i64 b.rail, .int .i64 b.frm, .int .i64 b.to] ∧ Rw wx (w.heap.size + 1 + 1 + 1 + 1) 46 #[.int .i64 hy, .int .i64 sy] from fun wx h => ⟨q1.below h (by omega), q2.below h (by omega), q3.below h (by omega), q4.below h (by omega), q5.below h (by omega)⟩)
  have HPB := Lib.hid (show ∀ wx, Below W1.heap.size W1 wx → PlAt wx wx.heap.size A c A2 c2 p from fun wx h => ((hP.below hb3).below (h.mono hb3.size)).more (Nat.le_trans hb3.size h.size))
  have HKN := Lib.hid (show ∀ wx, Below W1.heap.size W1 wx → Calls Tryz.prog 16 #[] wx fun e w' => e = .returned (.bool true) ∧ Below wx.heap.size wx w' from fun wx _ => known_any wx)
  have e0 := q1.cell 0; have e1 := q1.cell 1; have a0 := q2.cell 0; have a1 := q2.cell 1; have a2 := q2.cell 2; have e2 := q3.cell 0; have e3 := q3.cell 1; have b0 := q4.cell 0; have b1 := q4.cell 1; have b2 := q4.cell 2; have e4 := q5.cell 0; have e5 := q5.cell 1
  have HFW := Lib.hid (show ∀ wx, Below W1.heap.size W1 wx → Calls Tryz.prog 15 #[.agg #[.slice A p.nodes.length c, .slice A2 p.rails.length c2]] wx fun e w' => e = .returned (.bool true) ∧ Below wx.heap.size wx w' from fun wx h => by have := few_any A A2 c c2 p wx (HPB.out wx h); rwa [hfew] at this)
  have HVL := Lib.hid (show ∀ wx, Below W1.heap.size W1 wx → Calls Tryz.prog 19 #[.agg #[.slice A p.nodes.length c, .slice A2 p.rails.length c2]] wx fun e w' => e = .returned (.bool true) ∧ Below wx.heap.size wx w' from fun wx h => (Valid_any A A2 c c2 p wx (HPB.out wx h)).mono (by rintro e w' ⟨⟨b, rfl, hb⟩, h2⟩; rw [hb.2 hv]; exact ⟨rfl, h2⟩))
  have HP1 := Lib.hid (show ∀ wx, Below W1.heap.size W1 wx → Calls Tryz.prog 29 #[.agg #[.int .i64 hx, .int .i64 sx]] wx fun e w' => e = .returned (.bool true) ∧ Below wx.heap.size wx w' from fun wx h => by have := rProfile_any ⟨hx, sx⟩ wx; rwa [hpx] at this)
  have HP2 := Lib.hid (show ∀ wx, Below W1.heap.size W1 wx → Calls Tryz.prog 29 #[.agg #[.int .i64 hy, .int .i64 sy]] wx fun e w' => e = .returned (.bool false) ∧ Below wx.heap.size wx w' from fun wx h => by have := rProfile_any ⟨hy, sy⟩ wx; rwa [hpy] at this)
  clear hb3 q1 q2 q3 q4 q5 hz1 hP
  go_enter Tryz.func12, Tryz.ntmps12
  go_wp2_with fail
  refine (HFW.out _ HB0.out).mono ?_
  rintro e w20 ⟨rfl, hb20⟩
  have HB20 := Lib.hid (HB0.out.trans (hb20.mono HB0.out.size))
  obtain ⟨r1, r2', r3, r4, r5⟩ := HR.out _ HB20.out
  have e0 := r1.cell 0; have e1 := r1.cell 1; have a0 := r2'.cell 0; have a1 := r2'.cell 1; have a2 := r2'.cell 2; have e2 := r3.cell 0; have e3 := r3.cell 1; have b0 := r4.cell 0; have b1 := r4.cell 1; have b2 := r4.cell 2; have e4 := r5.cell 0; have e5 := r5.cell 1
  clear r1 r2' r3 r4 r5
  clear hb20
  clear hW1
  go_wp2_with fail
  refine (HVL.out _ HB20.out).mono ?_
  rintro e w21 ⟨rfl, hb21⟩
  have HB21 := Lib.hid (HB20.out.trans (hb21.mono HB20.out.size))
  obtain ⟨r1, r2', r3, r4, r5⟩ := HR.out _ HB21.out
  have e0 := r1.cell 0; have e1 := r1.cell 1; have a0 := r2'.cell 0; have a1 := r2'.cell 1; have a2 := r2'.cell 2; have e2 := r3.cell 0; have e3 := r3.cell 1; have b0 := r4.cell 0; have b1 := r4.cell 1; have b2 := r4.cell 2; have e4 := r5.cell 0; have e5 := r5.cell 1
  clear r1 r2' r3 r4 r5
  clear hb21
  go_wp2_with fail
  refine (HP1.out _ HB21.out).mono ?_
  rintro e w22 ⟨rfl, hb22⟩
  have HB22 := Lib.hid (HB21.out.trans (hb22.mono HB21.out.size))
  obtain ⟨r1, r2', r3, r4, r5⟩ := HR.out _ HB22.out
  have e0 := r1.cell 0; have e1 := r1.cell 1; have a0 := r2'.cell 0; have a1 := r2'.cell 1; have a2 := r2'.cell 2; have e2 := r3.cell 0; have e3 := r3.cell 1; have b0 := r4.cell 0; have b1 := r4.cell 1; have b2 := r4.cell 2; have e4 := r5.cell 0; have e5 := r5.cell 1
  clear r1 r2' r3 r4 r5
  clear hb22
  go_wp2_with fail
  refine (HP2.out _ HB22.out).mono ?_
  rintro e w23 ⟨rfl, hb23⟩
  have HB23 := Lib.hid (HB22.out.trans (hb23.mono HB22.out.size))
  obtain ⟨r1, r2', r3, r4, r5⟩ := HR.out _ HB23.out
  have e0 := r1.cell 0; have e1 := r1.cell 1; have a0 := r2'.cell 0; have a1 := r2'.cell 1; have a2 := r2'.cell 2; have e2 := r3.cell 0; have e3 := r3.cell 1; have b0 := r4.cell 0; have b1 := r4.cell 1; have b2 := r4.cell 2; have e4 := r5.cell 0; have e5 := r5.cell 1
  clear r1 r2' r3 r4 r5
  clear hb23
  go_wp2_with fail
  refine (HKN.out _ HB23.out).mono ?_
  rintro e w24 ⟨rfl, hb24⟩
  have HB24 := Lib.hid (HB23.out.trans (hb24.mono HB23.out.size))
  obtain ⟨r1, r2', r3, r4, r5⟩ := HR.out _ HB24.out
  have e0 := r1.cell 0; have e1 := r1.cell 1; have a0 := r2'.cell 0; have a1 := r2'.cell 1; have a2 := r2'.cell 2; have e2 := r3.cell 0; have e3 := r3.cell 1; have b0 := r4.cell 0; have b1 := r4.cell 1; have b2 := r4.cell 2; have e4 := r5.cell 0; have e5 := r5.cell 1
  clear r1 r2' r3 r4 r5
  clear hb24
  go_wp2
  go_ret
  exact ⟨rfl, HB1.out.trans (HB24.out.mono HB1.out.size)⟩

set_option maxRecDepth 100000 in
set_option maxHeartbeats 8000000 in
theorem outs_c1 (A A2 : Option Addr) (c c2 : Nat) (p : Pl) (a b : C3) (hx sx hy sy : Int) (w : World) (hP : PlAt w w.heap.size A c A2 c2 p) (hfew : fewB p = true) (hv : Vld p) (hpx : prB ⟨hx, sx⟩ = true) (hpy : prB ⟨hy, sy⟩ = true) (hcv : touchB p [a, b] = false) :
    Calls Tryz.prog 12 #[.agg #[.slice A p.nodes.length c, .slice A2 p.rails.length c2], .agg #[.int .i64 a.rail, .int .i64 a.frm, .int .i64 a.to], .agg #[.int .i64 hx, .int .i64 sx], .agg #[.int .i64 b.rail, .int .i64 b.frm, .int .i64 b.to], .agg #[.int .i64 hy, .int .i64 sy]] w fun e w' => e = .returned (.bool true) ∧ Below w.heap.size w w' := by
  have hrm := hP.rm; have hrc := hP.rc
  have hb3 := (((((Below.refl _ w).alloc (Nat.le_refl _) (.cells #[.slice A p.nodes.length c, .slice A2 p.rails.length c2] 25)).alloc (by simp) (.cells #[.int .i64 a.rail, .int .i64 a.frm, .int .i64 a.to] 79)).alloc (by simp; omega) (.cells #[.int .i64 hx, .int .i64 sx] 46)).alloc (by simp; omega) (.cells #[.int .i64 b.rail, .int .i64 b.frm, .int .i64 b.to] 79)).alloc (by simp; omega) (.cells #[.int .i64 hy, .int .i64 sy] 46)
  obtain ⟨q1, q2, q3, q4, q5⟩ := rows5 w #[.slice A p.nodes.length c, .slice A2 p.rails.length c2] #[.int .i64 a.rail, .int .i64 a.frm, .int .i64 a.to] #[.int .i64 hx, .int .i64 sx] #[.int .i64 b.rail, .int .i64 b.frm, .int .i64 b.to] #[.int .i64 hy, .int .i64 sy] 25 79 46 79 46
  have hz1 : (((((w.alloc (.cells #[.slice A p.nodes.length c, .slice A2 p.rails.length c2] 25)).alloc (.cells #[.int .i64 a.rail, .int .i64 a.frm, .int .i64 a.to] 79)).alloc (.cells #[.int .i64 hx, .int .i64 sx] 46)).alloc (.cells #[.int .i64 b.rail, .int .i64 b.frm, .int .i64 b.to] 79)).alloc (.cells #[.int .i64 hy, .int .i64 sy] 46)).heap.size = w.heap.size + 5 := by simp
  obtain ⟨W1, hW1⟩ : ∃ z, (((((w.alloc (.cells #[.slice A p.nodes.length c, .slice A2 p.rails.length c2] 25)).alloc (.cells #[.int .i64 a.rail, .int .i64 a.frm, .int .i64 a.to] 79)).alloc (.cells #[.int .i64 hx, .int .i64 sx] 46)).alloc (.cells #[.int .i64 b.rail, .int .i64 b.frm, .int .i64 b.to] 79)).alloc (.cells #[.int .i64 hy, .int .i64 sy] 46)) = z := ⟨_, rfl⟩
  rw [hW1] at hb3 q1 q2 q3 q4 q5 hz1
  have HB1 := Lib.hid hb3
  have HB0 := Lib.hid (Below.refl W1.heap.size W1)
  have HZ1 := Lib.hid hz1
  have HR := Lib.hid (show ∀ wx, Below W1.heap.size W1 wx → Rw wx w.heap.size 25 #[.slice A p.nodes.length c, .slice A2 p.rails.length c2] ∧ Rw wx (w.heap.size + 1) 79 #[.int .i64 a.rail, .int .i64 a.frm, .int .i64 a.to] ∧ Rw wx (w.heap.size + 1 + 1) 46 #[.int .i64 hx, .int .i64 sx] ∧ Rw wx (w.heap.size + 1 + 1 + 1) 79 #[.int .i64 b.rail, .int .i64 b.frm, .int .i64 b.to] ∧ Rw wx (w.heap.size + 1 + 1 + 1 + 1) 46 #[.int .i64 hy, .int .i64 sy] from fun wx h => ⟨q1.below h (by omega), q2.below h (by omega), q3.below h (by omega), q4.below h (by omega), q5.below h (by omega)⟩)
  have HPB := Lib.hid (show ∀ wx, Below W1.heap.size W1 wx → PlAt wx wx.heap.size A c A2 c2 p from fun wx h => ((hP.below hb3).below (h.mono hb3.size)).more (Nat.le_trans hb3.size h.size))
  have HKN := Lib.hid (show ∀ wx, Below W1.heap.size W1 wx → Calls Tryz.prog 16 #[] wx fun e w' => e = .returned (.bool true) ∧ Below wx.heap.size wx w' from fun wx _ => known_any wx)
  have e0 := q1.cell 0; have e1 := q1.cell 1; have a0 := q2.cell 0; have a1 := q2.cell 1; have a2 := q2.cell 2; have e2 := q3.cell 0; have e3 := q3.cell 1; have b0 := q4.cell 0; have b1 := q4.cell 1; have b2 := q4.cell 2; have e4 := q5.cell 0; have e5 := q5.cell 1
  have HFW := Lib.hid (show ∀ wx, Below W1.heap.size W1 wx → Calls Tryz.prog 15 #[.agg #[.slice A p.nodes.length c, .slice A2 p.rails.length c2]] wx fun e w' => e = .returned (.bool true) ∧ Below wx.heap.size wx w' from fun wx h => by have := few_any A A2 c c2 p wx (HPB.out wx h); rwa [hfew] at this)
  have HVL := Lib.hid (show ∀ wx, Below W1.heap.size W1 wx → Calls Tryz.prog 19 #[.agg #[.slice A p.nodes.length c, .slice A2 p.rails.length c2]] wx fun e w' => e = .returned (.bool true) ∧ Below wx.heap.size wx w' from fun wx h => (Valid_any A A2 c c2 p wx (HPB.out wx h)).mono (by rintro e w' ⟨⟨b, rfl, hb⟩, h2⟩; rw [hb.2 hv]; exact ⟨rfl, h2⟩))
  have HP1 := Lib.hid (show ∀ wx, Below W1.heap.size W1 wx → Calls Tryz.prog 29 #[.agg #[.int .i64 hx, .int .i64 sx]] wx fun e w' => e = .returned (.bool true) ∧ Below wx.heap.size wx w' from fun wx h => by have := rProfile_any ⟨hx, sx⟩ wx; rwa [hpx] at this)
  have HP2 := Lib.hid (show ∀ wx, Below W1.heap.size W1 wx → Calls Tryz.prog 29 #[.agg #[.int .i64 hy, .int .i64 sy]] wx fun e w' => e = .returned (.bool true) ∧ Below wx.heap.size wx w' from fun wx h => by have := rProfile_any ⟨hy, sy⟩ wx; rwa [hpy] at this)
  have HCV := Lib.hid (show ∀ wx, Below W1.heap.size W1 wx → Calls Tryz.prog 42 #[.agg #[.slice A p.nodes.length c, .slice A2 p.rails.length c2], .slice (some ⟨wx.heap.size, 0, none⟩) 2 2] (wx.alloc (.cells #[.int .i64 a.rail, .int .i64 a.frm, .int .i64 a.to, .int .i64 b.rail, .int .i64 b.frm, .int .i64 b.to] 79)) fun e w' => e = .returned (.bool false) ∧ Below (wx.heap.size + 1) (wx.alloc (.cells #[.int .i64 a.rail, .int .i64 a.frm, .int .i64 a.to, .int .i64 b.rail, .int .i64 b.frm, .int .i64 b.to] 79)) w' from fun wx h => by
    have h2 := h.alloc h.size (.cells #[.int .i64 a.rail, .int .i64 a.frm, .int .i64 a.to, .int .i64 b.rail, .int .i64 b.frm, .int .i64 b.to] 79)
    have := rCovers_any A A2 (some ⟨wx.heap.size, 0, none⟩) c c2 2 2 p [a, b] (wx.alloc (.cells #[.int .i64 a.rail, .int .i64 a.frm, .int .i64 a.to, .int .i64 b.rail, .int .i64 b.frm, .int .i64 b.to] 79)) (HPB.out _ h2) hv (by have := Sl.cov2 wx a b; simpa using this) rfl (by omega)
    rw [hcv] at this
    simpa using this)
  clear hb3 q1 q2 q3 q4 q5 hz1 hP
  go_enter Tryz.func12, Tryz.ntmps12
  go_wp2_with fail
  refine (HFW.out _ HB0.out).mono ?_
  rintro e w25 ⟨rfl, hb25⟩
  have HB25 := Lib.hid (HB0.out.trans (hb25.mono HB0.out.size))
  obtain ⟨r1, r2', r3, r4, r5⟩ := HR.out _ HB25.out
  have e0 := r1.cell 0; have e1 := r1.cell 1; have a0 := r2'.cell 0; have a1 := r2'.cell 1; have a2 := r2'.cell 2; have e2 := r3.cell 0; have e3 := r3.cell 1; have b0 := r4.cell 0; have b1 := r4.cell 1; have b2 := r4.cell 2; have e4 := r5.cell 0; have e5 := r5.cell 1
  clear r1 r2' r3 r4 r5
  clear hb25
  clear hW1
  go_wp2_with fail
  refine (HVL.out _ HB25.out).mono ?_
  rintro e w26 ⟨rfl, hb26⟩
  have HB26 := Lib.hid (HB25.out.trans (hb26.mono HB25.out.size))
  obtain ⟨r1, r2', r3, r4, r5⟩ := HR.out _ HB26.out
  have e0 := r1.cell 0; have e1 := r1.cell 1; have a0 := r2'.cell 0; have a1 := r2'.cell 1; have a2 := r2'.cell 2; have e2 := r3.cell 0; have e3 := r3.cell 1; have b0 := r4.cell 0; have b1 := r4.cell 1; have b2 := r4.cell 2; have e4 := r5.cell 0; have e5 := r5.cell 1
  clear r1 r2' r3 r4 r5
  clear hb26
  go_wp2_with fail
  refine (HP1.out _ HB26.out).mono ?_
  rintro e w27 ⟨rfl, hb27⟩
  have HB27 := Lib.hid (HB26.out.trans (hb27.mono HB26.out.size))
  obtain ⟨r1, r2', r3, r4, r5⟩ := HR.out _ HB27.out
  have e0 := r1.cell 0; have e1 := r1.cell 1; have a0 := r2'.cell 0; have a1 := r2'.cell 1; have a2 := r2'.cell 2; have e2 := r3.cell 0; have e3 := r3.cell 1; have b0 := r4.cell 0; have b1 := r4.cell 1; have b2 := r4.cell 2; have e4 := r5.cell 0; have e5 := r5.cell 1
  clear r1 r2' r3 r4 r5
  clear hb27
  go_wp2_with fail
  refine (HP2.out _ HB27.out).mono ?_
  rintro e w28 ⟨rfl, hb28⟩
  have HB28 := Lib.hid (HB27.out.trans (hb28.mono HB27.out.size))
  obtain ⟨r1, r2', r3, r4, r5⟩ := HR.out _ HB28.out
  have e0 := r1.cell 0; have e1 := r1.cell 1; have a0 := r2'.cell 0; have a1 := r2'.cell 1; have a2 := r2'.cell 2; have e2 := r3.cell 0; have e3 := r3.cell 1; have b0 := r4.cell 0; have b1 := r4.cell 1; have b2 := r4.cell 2; have e4 := r5.cell 0; have e5 := r5.cell 1
  clear r1 r2' r3 r4 r5
  clear hb28
  go_wp2_with fail
  refine (HCV.out _ HB28.out).mono ?_
  rintro e w29 ⟨rfl, hb29⟩
  have HB29 := Lib.hid ((HB28.out.alloc HB28.out.size _).trans (hb29.mono (by have := HB28.out.size; omega)))
  obtain ⟨r1, r2', r3, r4, r5⟩ := HR.out _ HB29.out
  have e0 := r1.cell 0; have e1 := r1.cell 1; have a0 := r2'.cell 0; have a1 := r2'.cell 1; have a2 := r2'.cell 2; have e2 := r3.cell 0; have e3 := r3.cell 1; have b0 := r4.cell 0; have b1 := r4.cell 1; have b2 := r4.cell 2; have e4 := r5.cell 0; have e5 := r5.cell 1
  clear r1 r2' r3 r4 r5
  clear hb29
  go_wp2_with fail
  refine (HKN.out _ HB29.out).mono ?_
  rintro e w30 ⟨rfl, hb30⟩
  have HB30 := Lib.hid (HB29.out.trans (hb30.mono HB29.out.size))
  obtain ⟨r1, r2', r3, r4, r5⟩ := HR.out _ HB30.out
  have e0 := r1.cell 0; have e1 := r1.cell 1; have a0 := r2'.cell 0; have a1 := r2'.cell 1; have a2 := r2'.cell 2; have e2 := r3.cell 0; have e3 := r3.cell 1; have b0 := r4.cell 0; have b1 := r4.cell 1; have b2 := r4.cell 2; have e4 := r5.cell 0; have e5 := r5.cell 1
  clear r1 r2' r3 r4 r5
  clear hb30
  go_wp2
  go_ret
  exact ⟨rfl, HB1.out.trans (HB30.out.mono HB1.out.size)⟩

set_option maxRecDepth 100000 in
set_option maxHeartbeats 8000000 in
theorem outs_yes (A A2 : Option Addr) (c c2 : Nat) (p : Pl) (a b : C3) (hx sx hy sy : Int) (w : World) (hP : PlAt w w.heap.size A c A2 c2 p) (hfew : fewB p = true) (hv : Vld p) (hpx : prB ⟨hx, sx⟩ = true) (hpy : prB ⟨hy, sy⟩ = true) (hcv : touchB p [a, b] = true) :
    Calls Tryz.prog 12 #[.agg #[.slice A p.nodes.length c, .slice A2 p.rails.length c2], .agg #[.int .i64 a.rail, .int .i64 a.frm, .int .i64 a.to], .agg #[.int .i64 hx, .int .i64 sx], .agg #[.int .i64 b.rail, .int .i64 b.frm, .int .i64 b.to], .agg #[.int .i64 hy, .int .i64 sy]] w fun e w' => e = .returned (.bool true) ∧ Below w.heap.size w w' := by
  have hrm := hP.rm; have hrc := hP.rc
  have hb3 := (((((Below.refl _ w).alloc (Nat.le_refl _) (.cells #[.slice A p.nodes.length c, .slice A2 p.rails.length c2] 25)).alloc (by simp) (.cells #[.int .i64 a.rail, .int .i64 a.frm, .int .i64 a.to] 79)).alloc (by simp; omega) (.cells #[.int .i64 hx, .int .i64 sx] 46)).alloc (by simp; omega) (.cells #[.int .i64 b.rail, .int .i64 b.frm, .int .i64 b.to] 79)).alloc (by simp; omega) (.cells #[.int .i64 hy, .int .i64 sy] 46)
  obtain ⟨q1, q2, q3, q4, q5⟩ := rows5 w #[.slice A p.nodes.length c, .slice A2 p.rails.length c2] #[.int .i64 a.rail, .int .i64 a.frm, .int .i64 a.to] #[.int .i64 hx, .int .i64 sx] #[.int .i64 b.rail, .int .i64 b.frm, .int .i64 b.to] #[.int .i64 hy, .int .i64 sy] 25 79 46 79 46
  have hz1 : (((((w.alloc (.cells #[.slice A p.nodes.length c, .slice A2 p.rails.length c2] 25)).alloc (.cells #[.int .i64 a.rail, .int .i64 a.frm, .int .i64 a.to] 79)).alloc (.cells #[.int .i64 hx, .int .i64 sx] 46)).alloc (.cells #[.int .i64 b.rail, .int .i64 b.frm, .int .i64 b.to] 79)).alloc (.cells #[.int .i64 hy, .int .i64 sy] 46)).heap.size = w.heap.size + 5 := by simp
  obtain ⟨W1, hW1⟩ : ∃ z, (((((w.alloc (.cells #[.slice A p.nodes.length c, .slice A2 p.rails.length c2] 25)).alloc (.cells #[.int .i64 a.rail, .int .i64 a.frm, .int .i64 a.to] 79)).alloc (.cells #[.int .i64 hx, .int .i64 sx] 46)).alloc (.cells #[.int .i64 b.rail, .int .i64 b.frm, .int .i64 b.to] 79)).alloc (.cells #[.int .i64 hy, .int .i64 sy] 46)) = z := ⟨_, rfl⟩
  rw [hW1] at hb3 q1 q2 q3 q4 q5 hz1
  have HB1 := Lib.hid hb3
  have HB0 := Lib.hid (Below.refl W1.heap.size W1)
  have HZ1 := Lib.hid hz1
  have HR := Lib.hid (show ∀ wx, Below W1.heap.size W1 wx → Rw wx w.heap.size 25 #[.slice A p.nodes.length c, .slice A2 p.rails.length c2] ∧ Rw wx (w.heap.size + 1) 79 #[.int .i64 a.rail, .int .i64 a.frm, .int .i64 a.to] ∧ Rw wx (w.heap.size + 1 + 1) 46 #[.int .i64 hx, .int .i64 sx] ∧ Rw wx (w.heap.size + 1 + 1 + 1) 79 #[.int .i64 b.rail, .int .i64 b.frm, .int .i64 b.to] ∧ Rw wx (w.heap.size + 1 + 1 + 1 + 1) 46 #[.int .i64 hy, .int .i64 sy] from fun wx h => ⟨q1.below h (by omega), q2.below h (by omega), q3.below h (by omega), q4.below h (by omega), q5.below h (by omega)⟩)
  have HPB := Lib.hid (show ∀ wx, Below W1.heap.size W1 wx → PlAt wx wx.heap.size A c A2 c2 p from fun wx h => ((hP.below hb3).below (h.mono hb3.size)).more (Nat.le_trans hb3.size h.size))
  have HKN := Lib.hid (show ∀ wx, Below W1.heap.size W1 wx → Calls Tryz.prog 16 #[] wx fun e w' => e = .returned (.bool true) ∧ Below wx.heap.size wx w' from fun wx _ => known_any wx)
  have e0 := q1.cell 0; have e1 := q1.cell 1; have a0 := q2.cell 0; have a1 := q2.cell 1; have a2 := q2.cell 2; have e2 := q3.cell 0; have e3 := q3.cell 1; have b0 := q4.cell 0; have b1 := q4.cell 1; have b2 := q4.cell 2; have e4 := q5.cell 0; have e5 := q5.cell 1
  have HFW := Lib.hid (show ∀ wx, Below W1.heap.size W1 wx → Calls Tryz.prog 15 #[.agg #[.slice A p.nodes.length c, .slice A2 p.rails.length c2]] wx fun e w' => e = .returned (.bool true) ∧ Below wx.heap.size wx w' from fun wx h => by have := few_any A A2 c c2 p wx (HPB.out wx h); rwa [hfew] at this)
  have HVL := Lib.hid (show ∀ wx, Below W1.heap.size W1 wx → Calls Tryz.prog 19 #[.agg #[.slice A p.nodes.length c, .slice A2 p.rails.length c2]] wx fun e w' => e = .returned (.bool true) ∧ Below wx.heap.size wx w' from fun wx h => (Valid_any A A2 c c2 p wx (HPB.out wx h)).mono (by rintro e w' ⟨⟨b, rfl, hb⟩, h2⟩; rw [hb.2 hv]; exact ⟨rfl, h2⟩))
  have HP1 := Lib.hid (show ∀ wx, Below W1.heap.size W1 wx → Calls Tryz.prog 29 #[.agg #[.int .i64 hx, .int .i64 sx]] wx fun e w' => e = .returned (.bool true) ∧ Below wx.heap.size wx w' from fun wx h => by have := rProfile_any ⟨hx, sx⟩ wx; rwa [hpx] at this)
  have HP2 := Lib.hid (show ∀ wx, Below W1.heap.size W1 wx → Calls Tryz.prog 29 #[.agg #[.int .i64 hy, .int .i64 sy]] wx fun e w' => e = .returned (.bool true) ∧ Below wx.heap.size wx w' from fun wx h => by have := rProfile_any ⟨hy, sy⟩ wx; rwa [hpy] at this)
  have HCV := Lib.hid (show ∀ wx, Below W1.heap.size W1 wx → Calls Tryz.prog 42 #[.agg #[.slice A p.nodes.length c, .slice A2 p.rails.length c2], .slice (some ⟨wx.heap.size, 0, none⟩) 2 2] (wx.alloc (.cells #[.int .i64 a.rail, .int .i64 a.frm, .int .i64 a.to, .int .i64 b.rail, .int .i64 b.frm, .int .i64 b.to] 79)) fun e w' => e = .returned (.bool true) ∧ Below (wx.heap.size + 1) (wx.alloc (.cells #[.int .i64 a.rail, .int .i64 a.frm, .int .i64 a.to, .int .i64 b.rail, .int .i64 b.frm, .int .i64 b.to] 79)) w' from fun wx h => by
    have h2 := h.alloc h.size (.cells #[.int .i64 a.rail, .int .i64 a.frm, .int .i64 a.to, .int .i64 b.rail, .int .i64 b.frm, .int .i64 b.to] 79)
    have := rCovers_any A A2 (some ⟨wx.heap.size, 0, none⟩) c c2 2 2 p [a, b] (wx.alloc (.cells #[.int .i64 a.rail, .int .i64 a.frm, .int .i64 a.to, .int .i64 b.rail, .int .i64 b.frm, .int .i64 b.to] 79)) (HPB.out _ h2) hv (by have := Sl.cov2 wx a b; simpa using this) rfl (by omega)
    rw [hcv] at this
    simpa using this)
  have hcc := touchB_iff.1 hcv
  have hca : coverB p a = true := by have := hcc.2; simp at this; exact this.1
  have hcb : coverB p b = true := by have := hcc.2; simp at this; exact this.2
  have hbb := cover_all hv hcb
  have hab : a.frm < a.to := by have h1 := hca; unfold coverB at h1; simp at h1; omega
  obtain ⟨rn, L, er, eL, hL⟩ := cover_rlo hv hca
  obtain ⟨rn2, L2, er2, eL2, hL2⟩ := cover_rlo hv hcb
  obtain ⟨m, hm⟩ : ∃ m, L.length = m + 1 := ⟨L.length - 1, by have := hL.le; omega⟩
  obtain ⟨m2, hm2⟩ : ∃ m, L2.length = m + 1 := ⟨L2.length - 1, by have := hL2.le; omega⟩
  have hzlen := zoneL_len rn L (fun k => (List.range m2).any fun j => foulB (stripAt rn L k) (stripAt rn2 L2 j) hx sx hy sy) m
  have hma := met_all hL hL2 er er2 eL eL2 hm hm2 hca hab hx sx hy sy hbb
  have hmo := met_out hL er er2 eL eL2 hm hm2 hca hcb hab hx sx hy sy
  have hzy := fun (wx : World) (hw : Below W1.heap.size W1 wx) => Zone_yes A A2 c c2 p rn rn2 m m2 L L2 hx sx hy sy wx (HPB.out wx hw) hv hL hL2 hm hm2 (prB_pr hpx) (prB_pr hpy) (by rw [hpx, hpy]; rfl)
  obtain ⟨zl, hzl⟩ : ∃ z, zoneL rn L (fun k => (List.range m2).any fun j => foulB (stripAt rn L k) (stripAt rn2 L2 j) hx sx hy sy) m = z := ⟨_, rfl⟩
  rw [hzl] at hma hmo hzy hzlen
  rw [← er, ← er2] at hzy
  have hn0 : zl.length ≤ 41 := by have := hL.le; omega
  obtain ⟨ins, hins⟩ : ∃ z, insideL zl a = z := ⟨_, rfl⟩
  obtain ⟨mt, hmt⟩ : ∃ z, metT p [a] [b] hx sx hy sy = z := ⟨_, rfl⟩
  obtain ⟨le, hle⟩ : ∃ z, lastEn p b.rail = z := ⟨_, rfl⟩
  rw [hle] at hma hbb
  rw [hins] at hma hmo
  rw [hmt] at hmo
  have HZY := Lib.hid hzy
  have HCL := Lib.hid (show ∀ wx1 wx2 wx : World, ∀ A3 A4 : Option Addr, Below W1.heap.size W1 wx → Sl wx wx.heap.size 3 CC A3 [a] → Sl wx wx.heap.size 3 CC A4 [b] → Calls Tryz.prog 41 #[.agg #[.slice A p.nodes.length c, .slice A2 p.rails.length c2], .slice A3 1 1, .agg #[.int .i64 hx, .int .i64 sx], .slice A4 1 1, .agg #[.int .i64 hy, .int .i64 sy]] wx fun e w' => e = .returned (.tuple #[.bool (!mt), .int .i64 0]) ∧ Below wx.heap.size wx w' from fun _ _ wx A3 A4 hw h3 h4 => (Clear_any A A2 A3 A4 c c2 1 1 1 1 p [a] [b] hx sx hy sy wx (HPB.out wx hw) h3 h4 rfl rfl).mono (by
    rintro e w' ⟨h, hb⟩
    rcases h with ⟨_, rfl⟩ | ⟨hn, _⟩
    · exact ⟨by rw [hmt], hb⟩
    · exact absurd ⟨hv, by rw [hpx, hpy]; rfl, ⟨by simp, by simp [hca]⟩, ⟨by simp, by simp [hcb]⟩⟩ hn))
  have HCA := Lib.hid (show ∀ wx1 wx2 wx : World, ∀ A3 A4 : Option Addr, Below W1.heap.size W1 wx → Sl wx wx.heap.size 3 CC A3 [a] → Sl wx wx.heap.size 3 CC A4 [(⟨b.rail, 0, le⟩ : C3)] → Calls Tryz.prog 41 #[.agg #[.slice A p.nodes.length c, .slice A2 p.rails.length c2], .slice A3 1 1, .agg #[.int .i64 hx, .int .i64 sx], .slice A4 1 1, .agg #[.int .i64 hy, .int .i64 sy]] wx fun e w' => e = .returned (.tuple #[.bool (!ins), .int .i64 0]) ∧ Below wx.heap.size wx w' from fun _ _ wx A3 A4 hw h3 h4 => (Clear_any A A2 A3 A4 c c2 1 1 1 1 p [a] [(⟨b.rail, 0, le⟩ : C3)] hx sx hy sy wx (HPB.out wx hw) h3 h4 rfl rfl).mono (by
    rintro e w' ⟨h, hb⟩
    rcases h with ⟨_, rfl⟩ | ⟨hn, _⟩
    · exact ⟨by rw [hma], hb⟩
    · exact absurd ⟨hv, by rw [hpx, hpy]; rfl, ⟨by simp, by simp [hca]⟩, ⟨by simp, by simp [hbb]⟩⟩ hn))
  have HLN := Lib.hid (show ∀ wx, Below W1.heap.size W1 wx → Calls Tryz.prog 44 #[.agg #[.slice A p.nodes.length c, .slice A2 p.rails.length c2], .int .i64 b.rail] wx fun e w' => e = .returned (.int .i64 le) ∧ Below wx.heap.size wx w' from fun wx hw => by
    have h3 := hcb
    unfold coverB at h3
    rw [Bool.and_eq_true] at h3
    have := rCov_len A A2 c c2 p b.rail wx (HPB.out wx hw) hv h3.1
    rwa [hle] at this)
  have HMO := Lib.hid hmo
  have HIN := Lib.hid hins
  clear hcc hca hcb hbb hab er er2 eL eL2 hL hL2 hm hm2 hzlen hma hmo hzy hzl hins hmt hle
  clear hb3 q1 q2 q3 q4 q5 hz1 hP
  go_enter Tryz.func12, Tryz.ntmps12
  go_wp2_with fail
  refine (HFW.out _ HB0.out).mono ?_
  rintro e w31 ⟨rfl, hb31⟩
  have HB31 := Lib.hid (HB0.out.trans (hb31.mono HB0.out.size))
  obtain ⟨r1, r2', r3, r4, r5⟩ := HR.out _ HB31.out
  have e0 := r1.cell 0; have e1 := r1.cell 1; have a0 := r2'.cell 0; have a1 := r2'.cell 1; have a2 := r2'.cell 2; have e2 := r3.cell 0; have e3 := r3.cell 1; have b0 := r4.cell 0; have b1 := r4.cell 1; have b2 := r4.cell 2; have e4 := r5.cell 0; have e5 := r5.cell 1
  clear r1 r2' r3 r4 r5
  clear hb31
  clear hW1
  go_wp2_with fail
  refine (HVL.out _ HB31.out).mono ?_
  rintro e w32 ⟨rfl, hb32⟩
  have HB32 := Lib.hid (HB31.out.trans (hb32.mono HB31.out.size))
  obtain ⟨r1, r2', r3, r4, r5⟩ := HR.out _ HB32.out
  have e0 := r1.cell 0; have e1 := r1.cell 1; have a0 := r2'.cell 0; have a1 := r2'.cell 1; have a2 := r2'.cell 2; have e2 := r3.cell 0; have e3 := r3.cell 1; have b0 := r4.cell 0; have b1 := r4.cell 1; have b2 := r4.cell 2; have e4 := r5.cell 0; have e5 := r5.cell 1
  clear r1 r2' r3 r4 r5
  clear hb32
  go_wp2_with fail
  refine (HP1.out _ HB32.out).mono ?_
  rintro e w33 ⟨rfl, hb33⟩
  have HB33 := Lib.hid (HB32.out.trans (hb33.mono HB32.out.size))
  obtain ⟨r1, r2', r3, r4, r5⟩ := HR.out _ HB33.out
  have e0 := r1.cell 0; have e1 := r1.cell 1; have a0 := r2'.cell 0; have a1 := r2'.cell 1; have a2 := r2'.cell 2; have e2 := r3.cell 0; have e3 := r3.cell 1; have b0 := r4.cell 0; have b1 := r4.cell 1; have b2 := r4.cell 2; have e4 := r5.cell 0; have e5 := r5.cell 1
  clear r1 r2' r3 r4 r5
  clear hb33
  go_wp2_with fail
  refine (HP2.out _ HB33.out).mono ?_
  rintro e w34 ⟨rfl, hb34⟩
  have HB34 := Lib.hid (HB33.out.trans (hb34.mono HB33.out.size))
  obtain ⟨r1, r2', r3, r4, r5⟩ := HR.out _ HB34.out
  have e0 := r1.cell 0; have e1 := r1.cell 1; have a0 := r2'.cell 0; have a1 := r2'.cell 1; have a2 := r2'.cell 2; have e2 := r3.cell 0; have e3 := r3.cell 1; have b0 := r4.cell 0; have b1 := r4.cell 1; have b2 := r4.cell 2; have e4 := r5.cell 0; have e5 := r5.cell 1
  clear r1 r2' r3 r4 r5
  clear hb34
  go_wp2_with fail
  refine (HCV.out _ HB34.out).mono ?_
  rintro e w35 ⟨rfl, hb35⟩
  have HB35 := Lib.hid ((HB34.out.alloc HB34.out.size _).trans (hb35.mono (by have := HB34.out.size; omega)))
  obtain ⟨r1, r2', r3, r4, r5⟩ := HR.out _ HB35.out
  have e0 := r1.cell 0; have e1 := r1.cell 1; have a0 := r2'.cell 0; have a1 := r2'.cell 1; have a2 := r2'.cell 2; have e2 := r3.cell 0; have e3 := r3.cell 1; have b0 := r4.cell 0; have b1 := r4.cell 1; have b2 := r4.cell 2; have e4 := r5.cell 0; have e5 := r5.cell 1
  clear r1 r2' r3 r4 r5
  clear hb35
  go_wp2_with fail
  refine (HZY.out _ HB35.out).mono ?_
  rintro e w36 ⟨vz, rfl, hoz, hb36⟩
  obtain ⟨Az, cz, rfl, _, _, _⟩ := hoz.form
  have HB36 := Lib.hid (HB35.out.trans (hb36.mono HB35.out.size))
  obtain ⟨r1, r2', r3, r4, r5⟩ := HR.out _ HB36.out
  have e0 := r1.cell 0; have e1 := r1.cell 1; have a0 := r2'.cell 0; have a1 := r2'.cell 1; have a2 := r2'.cell 2; have e2 := r3.cell 0; have e3 := r3.cell 1; have b0 := r4.cell 0; have b1 := r4.cell 1; have b2 := r4.cell 2; have e4 := r5.cell 0; have e5 := r5.cell 1
  clear r1 r2' r3 r4 r5
  have HOZ := Lib.hid hoz
  have HWZ := Lib.hid (show ∀ wx, Below w36.heap.size w36 wx → ∀ i z, zl[i]? = some z → ∃ bz oz, Az = some ⟨bz, oz, none⟩ ∧ wx.cell? ⟨bz, oz + i * 3 + 1, none⟩ = some (.int .i64 z.frm) ∧ wx.cell? ⟨bz, oz + i * 3 + 2, none⟩ = some (.int .i64 z.to) from fun wx hw i z hz => by
    obtain ⟨hi, e⟩ := List.getElem?_eq_some_iff.1 hz
    obtain ⟨bz, oz, cs, eA, hbz, hcc, hc⟩ := (HOZ.out.sl fC_len rfl).at_ hi
    subst hcc
    rw [e] at hc
    exact ⟨bz, oz, eA, (hw.cell (p := ⟨bz, oz + i * 3 + 1, none⟩) hbz).trans (hc 1 _ rfl), (hw.cell (p := ⟨bz, oz + i * 3 + 2, none⟩) hbz).trans (hc 2 _ rfl)⟩)
  clear hb36 hoz
  have hb4 := (HB36.out.alloc HB36.out.size (.cells #[.int .i64 a.rail, .int .i64 a.frm, .int .i64 a.to] 79)).alloc (by have := HB36.out.size; simp; omega) (.cells #[.int .i64 b.rail, .int .i64 b.frm, .int .i64 b.to] 79)
  have hs1 := Sl.cov1 w36 a
  have hs2 := Sl.cov1 (w36.alloc (.cells #[.int .i64 a.rail, .int .i64 a.frm, .int .i64 a.to] 79)) b
  have hs1' := (hs1.below ((Below.refl (w36.heap.size + 1) (w36.alloc (.cells #[.int .i64 a.rail, .int .i64 a.frm, .int .i64 a.to] 79))).alloc (by rw [World.size_alloc]; omega) (.cells #[.int .i64 b.rail, .int .i64 b.frm, .int .i64 b.to] 79))).more (fun _ _ h => h) (show w36.heap.size + 1 ≤ ((w36.alloc (.cells #[.int .i64 a.rail, .int .i64 a.frm, .int .i64 a.to] 79)).alloc (.cells #[.int .i64 b.rail, .int .i64 b.frm, .int .i64 b.to] 79)).heap.size by rw [World.size_alloc, World.size_alloc]; omega)
  rw [World.size_alloc] at hs2
  have hs2' := hs2.more (fun _ _ h => h) (show w36.heap.size + 1 + 1 ≤ ((w36.alloc (.cells #[.int .i64 a.rail, .int .i64 a.frm, .int .i64 a.to] 79)).alloc (.cells #[.int .i64 b.rail, .int .i64 b.frm, .int .i64 b.to] 79)).heap.size by rw [World.size_alloc, World.size_alloc]; omega)
  have HC1 := Lib.hid (HCL.out w w _ _ _ hb4 hs1' hs2')
  have HB4 := Lib.hid hb4
  have hbz4 := ((Below.refl w36.heap.size w36).alloc (Nat.le_refl _) (.cells #[.int .i64 a.rail, .int .i64 a.frm, .int .i64 a.to] 79)).alloc (by simp) (.cells #[.int .i64 b.rail, .int .i64 b.frm, .int .i64 b.to] 79)
  have HBZ4 := Lib.hid hbz4
  clear hb4 hs1 hs2 hs1' hs2' hbz4
  have l0 : w.heap.size + 5 ≤ w36.heap.size := by have h1 := HZ1.out; have h2 := HB36.out.size; omega
  have l1 : w.heap.size < w36.heap.size := by omega
  have l2 : w.heap.size + 1 < w36.heap.size := by omega
  have l3 : w.heap.size + 1 + 1 < w36.heap.size := by omega
  have l4 : w.heap.size + 1 + 1 + 1 < w36.heap.size := by omega
  have l5 : w.heap.size + 1 + 1 + 1 + 1 < w36.heap.size := by omega
  clear l0
  go_wp2_with fail
  refine (HC1.out).mono ?_
  rintro e w20 ⟨rfl, hb20⟩
  have HB20 := Lib.hid (HB4.out.trans (hb20.mono HB4.out.size))
  have HBZ := Lib.hid (HBZ4.out.trans (hb20.mono HBZ4.out.size))
  clear hb20 e0 e1 a0 a1 a2 b0 b1 b2 e2 e3 e4 e5
  have HRX := Lib.hid (show ∀ wx, Below w20.heap.size w20 wx → Rw wx w.heap.size 25 #[.slice A p.nodes.length c, .slice A2 p.rails.length c2] ∧ Rw wx (w.heap.size + 1) 79 #[.int .i64 a.rail, .int .i64 a.frm, .int .i64 a.to] ∧ Rw wx (w.heap.size + 1 + 1) 46 #[.int .i64 hx, .int .i64 sx] ∧ Rw wx (w.heap.size + 1 + 1 + 1) 79 #[.int .i64 b.rail, .int .i64 b.frm, .int .i64 b.to] ∧ Rw wx (w.heap.size + 1 + 1 + 1 + 1) 46 #[.int .i64 hy, .int .i64 sy] from fun wx h => HR.out wx (HB20.out.trans (h.mono HB20.out.size)))
  have HOC := Lib.hid (show ∀ wx, Below w20.heap.size w20 wx → OC w.heap.size A A2 p.nodes.length c p.rails.length c2 a b hx sx hy sy wx from fun wx h => by
    obtain ⟨s0, s1, s2, s3, s4⟩ := HRX.out wx h
    exact ⟨s0.cell 0, s0.cell 1, s1.cell 0, s1.cell 1, s1.cell 2, s2.cell 0, s2.cell 1, s3.cell 0, s3.cell 1, s3.cell 2, s4.cell 0, s4.cell 1⟩)
  go_upto_region 5 with (fail)
  have hbq : Below w20.heap.size w20 w20.drew := (Below.refl _ _).drew
  have HS := Lib.hid (HOC.out _ hbq)
  refine wp_region_held_drew (S := OC w.heap.size A A2 p.nodes.length c p.rails.length c2 a b hx sx hy sy) (by kernel_rfl) HS.out (fun _ => ?_)
  refine hTk (i := 0) (d := 69) (v := .agg #[.slice A p.nodes.length c, .slice A2 p.rails.length c2]) rfl rfl (Or.inl ⟨rfl, by rintro W' ⟨x0, x1, x2, x3, x4, x5, x6, x7, x8, x9, x10, x11⟩; go_simp⟩) HS.out ?_
  simp only [Act.put, sB, sZ, sS]
  refine hTk (i := 1) (d := 70) (v := .agg #[.int .i64 a.rail, .int .i64 a.frm, .int .i64 a.to]) rfl rfl (Or.inl ⟨rfl, by rintro W' ⟨x0, x1, x2, x3, x4, x5, x6, x7, x8, x9, x10, x11⟩; go_simp⟩) HS.out ?_
  simp only [Act.put, sB, sZ, sS]
  refine hTk (i := 3) (d := 72) (v := .agg #[.int .i64 hx, .int .i64 sx]) rfl rfl (Or.inl ⟨rfl, by rintro W' ⟨x0, x1, x2, x3, x4, x5, x6, x7, x8, x9, x10, x11⟩; go_simp⟩) HS.out ?_
  simp only [Act.put, sB, sZ, sS]
  refine hTk (i := 4) (d := 73) (v := .pointer (some ⟨w.heap.size + 1 + 1 + 1, 0, none⟩)) rfl rfl (Or.inl ⟨rfl, by rintro W' ⟨x0, x1, x2, x3, x4, x5, x6, x7, x8, x9, x10, x11⟩; go_simp⟩) HS.out ?_
  simp only [Act.put, sB, sZ, sS]
  refine hTk (i := 5) (d := 74) (v := .int .i64 b.rail) rfl rfl (Or.inl ⟨rfl, by rintro W' ⟨x0, x1, x2, x3, x4, x5, x6, x7, x8, x9, x10, x11⟩; go_simp⟩) HS.out ?_
  simp only [Act.put, sB, sZ, sS]
  refine hTk (i := 6) (d := 75) (v := .agg #[.slice A p.nodes.length c, .slice A2 p.rails.length c2]) rfl rfl (Or.inl ⟨rfl, by rintro W' ⟨x0, x1, x2, x3, x4, x5, x6, x7, x8, x9, x10, x11⟩; go_simp⟩) HS.out ?_
  simp only [Act.put, sB, sZ, sS]
  refine hTk (i := 7) (d := 76) (v := .pointer (some ⟨w.heap.size + 1 + 1 + 1, 0, none⟩)) rfl rfl (Or.inl ⟨rfl, by rintro W' ⟨x0, x1, x2, x3, x4, x5, x6, x7, x8, x9, x10, x11⟩; go_simp⟩) HS.out ?_
  simp only [Act.put, sB, sZ, sS]
  refine hTk (i := 8) (d := 77) (v := .int .i64 b.rail) rfl rfl (Or.inl ⟨rfl, by rintro W' ⟨x0, x1, x2, x3, x4, x5, x6, x7, x8, x9, x10, x11⟩; go_simp⟩) HS.out ?_
  simp only [Act.put, sB, sZ, sS]
  refine hTk (i := 12) (d := 81) (v := .agg #[.int .i64 hy, .int .i64 sy]) rfl rfl (Or.inl ⟨rfl, by rintro W' ⟨x0, x1, x2, x3, x4, x5, x6, x7, x8, x9, x10, x11⟩; go_simp⟩) HS.out ?_
  simp only [Act.put, sB, sZ, sS]
  refine wpAnyH_ready (rs := [2, 9]) (by kernel_rfl) (by simp) ?_
  refine AllReadyH.cons rfl (fun K hK => ?_) (AllReadyH.cons rfl (fun K hK => ?_) AllReadyH.nil)
  · rw [if_pos (by rfl)]
    go_simp
    have hbn : Below w20.heap.size w20 ((w20.alloc (.cells #[.int .i64 a.rail, .int .i64 a.frm, .int .i64 a.to] 79)).drew) := ((Below.refl _ _).alloc (Nat.le_refl _) _).drew
    replace hbq := hbn
    clear hbn
    have ha0 : Sl ((w20.alloc (.cells #[.int .i64 a.rail, .int .i64 a.frm, .int .i64 a.to] 79)).drew) (w20.heap.size + 1) 3 CC (some ⟨w20.heap.size, 0, none⟩) [a] := by
      have h0 := Sl.cov1 w20 a
      (try rw [World.size_alloc] at h0)
      exact h0
    have hba : Below (w20.heap.size + 1) ((w20.alloc (.cells #[.int .i64 a.rail, .int .i64 a.frm, .int .i64 a.to] 79)).drew) ((w20.alloc (.cells #[.int .i64 a.rail, .int .i64 a.frm, .int .i64 a.to] 79)).drew) := Below.refl _ _
    have HSa := Lib.hid (show ∀ wx, Below (w20.heap.size + 1) ((w20.alloc (.cells #[.int .i64 a.rail, .int .i64 a.frm, .int .i64 a.to] 79)).drew) wx → Sl wx wx.heap.size 3 CC (some ⟨w20.heap.size, 0, none⟩) [a] from fun wx h => (Sl.below (B := w20.heap.size + 1) ha0 h).more (fun _ _ h => h) (by have h1 := h.size; (try simp at h1 ⊢) <;> omega))
    clear ha0
    have HS := Lib.hid (HOC.out _ hbq)
    refine hK.out _ _ HS.out (fun _ => ?_)
    clear hK K
    try simp only [Act.put, sB, sZ, sS]
    refine wpAnyH_ready (rs := [9]) (by kernel_rfl) (by simp) ?_
    refine AllReadyH.cons rfl (fun K hK => ?_) AllReadyH.nil
    rw [if_pos (by rfl)]
    go_simp
    go_at_call 44
    (with_reducible refine (HLN.out _ (HB20.out.trans (hbq.mono HB20.out.size))).mono ?_)
    rintro e wc ⟨rfl, hbn⟩
    replace hba := hba.trans (hbn.mono (by have h1 := hba.size; (try simp at h1 ⊢) <;> omega))
    replace hbq := hbq.trans (hbn.mono hbq.size)
    clear hbn
    have HS := Lib.hid (HOC.out _ hbq)
    refine hK.out _ _ HS.out (fun _ => ?_)
    clear hK K
    try simp only [Act.put, sB, sZ, sS]
    refine hTk (i := 10) (d := 79) (v := .agg #[.int .i64 b.rail, .int .i64 0, .int .i64 le]) rfl rfl (Or.inl ⟨rfl, by rintro W' ⟨x0, x1, x2, x3, x4, x5, x6, x7, x8, x9, x10, x11⟩; go_simp⟩) HS.out ?_
    simp only [Act.put, sB, sZ, sS]
    refine wpAnyH_ready (rs := [11]) (by kernel_rfl) (by simp) ?_
    refine AllReadyH.cons rfl (fun K hK => ?_) AllReadyH.nil
    rw [if_pos (by rfl)]
    go_simp
    have hbn : Below wc.heap.size wc (wc.alloc (.cells #[.int .i64 b.rail, .int .i64 0, .int .i64 le] 79)) := (Below.refl _ _).alloc (Nat.le_refl _) _
    replace hba := hba.trans (hbn.mono (by have h1 := hba.size; (try simp at h1 ⊢) <;> omega))
    replace hbq := hbq.trans (hbn.mono hbq.size)
    clear hbn
    have hb0 : Sl ((wc.alloc (.cells #[.int .i64 b.rail, .int .i64 0, .int .i64 le] 79))) (wc.heap.size + 1) 3 CC (some ⟨wc.heap.size, 0, none⟩) [(⟨b.rail, 0, le⟩ : C3)] := by
      have h0 := Sl.cov1 wc (⟨b.rail, 0, le⟩ : C3)
      (try rw [World.size_alloc] at h0)
      exact h0
    have hbb : Below (wc.heap.size + 1) ((wc.alloc (.cells #[.int .i64 b.rail, .int .i64 0, .int .i64 le] 79))) ((wc.alloc (.cells #[.int .i64 b.rail, .int .i64 0, .int .i64 le] 79))) := Below.refl _ _
    have HSb := Lib.hid (show ∀ wx, Below (wc.heap.size + 1) ((wc.alloc (.cells #[.int .i64 b.rail, .int .i64 0, .int .i64 le] 79))) wx → Sl wx wx.heap.size 3 CC (some ⟨wc.heap.size, 0, none⟩) [(⟨b.rail, 0, le⟩ : C3)] from fun wx h => (Sl.below (B := wc.heap.size + 1) hb0 h).more (fun _ _ h => h) (by have h1 := h.size; (try simp at h1 ⊢) <;> omega))
    clear hb0
    have HS := Lib.hid (HOC.out _ hbq)
    refine hK.out _ _ HS.out (fun _ => ?_)
    clear hK K
    try simp only [Act.put, sB, sZ, sS]
    refine wpAnyH_ready (rs := [13]) (by kernel_rfl) (by simp) ?_
    refine AllReadyH.cons rfl (fun K hK => ?_) AllReadyH.nil
    rw [if_pos (by rfl)]
    go_simp
    go_at_call 41
    (with_reducible refine (HCA.out w w _ _ _ (HB20.out.trans (hbq.mono HB20.out.size)) (HSa.out _ hba) (HSb.out _ hbb)).mono ?_)
    rintro e w30 ⟨rfl, hbn⟩
    replace hbq := hbq.trans (hbn.mono hbq.size)
    clear hbn hba hbb
    have HS := Lib.hid (HOC.out _ hbq)
    refine hK.out _ _ HS.out (fun _ => ?_)
    clear hK K
    try simp only [Act.put, sB, sZ, sS]
    refine hTk (i := 14) (d := 68) (v := .tuple #[.bool (!ins), .int .i64 0]) rfl rfl (Or.inl ⟨rfl, by rintro W' ⟨x0, x1, x2, x3, x4, x5, x6, x7, x8, x9, x10, x11⟩; go_simp⟩) HS.out ?_
    simp only [Act.put, sB, sZ, sS]
    refine hTk (i := 15) (d := 83) (v := .bool (!ins)) rfl rfl (Or.inl ⟨rfl, by rintro W' ⟨x0, x1, x2, x3, x4, x5, x6, x7, x8, x9, x10, x11⟩; go_simp⟩) HS.out ?_
    simp only [Act.put, sB, sZ, sS]
    refine hTk (i := 16) (d := 84) (v := .int .i64 0) rfl rfl (Or.inl ⟨rfl, by rintro W' ⟨x0, x1, x2, x3, x4, x5, x6, x7, x8, x9, x10, x11⟩; go_simp⟩) HS.out ?_
    simp only [Act.put, sB, sZ, sS]
    refine hTk (i := 17) (d := 15) (v := .bool (!ins)) rfl rfl (Or.inl ⟨rfl, by rintro W' ⟨x0, x1, x2, x3, x4, x5, x6, x7, x8, x9, x10, x11⟩; go_simp⟩) HS.out ?_
    simp only [Act.put, sB, sZ, sS]
    refine hTk (i := 18) (d := 16) (v := .int .i64 0) rfl rfl (Or.inl ⟨rfl, by rintro W' ⟨x0, x1, x2, x3, x4, x5, x6, x7, x8, x9, x10, x11⟩; go_simp⟩) HS.out ?_
    simp only [Act.put, sB, sZ, sS]
    refine wpAnyH_done (by kernel_rfl) ?_ _
    have HBE := Lib.hid hbq
    clear hbq HS
    obtain ⟨n, hn⟩ : ∃ z, zl.length = z := ⟨_, rfl⟩
    rw [hn] at hn0
    have HN := Lib.hid hn
    rw [hn]
    clear hn
    go_wp2
    go_loopw [17, 18] (fun s17 s18 wr => ∃ i : Nat, i ≤ n ∧ s18 = .int .i64 (i : Int) ∧ s17 = .bool (insideL (zl.take i) a) ∧ Below w30.heap.size w30 wr) (fun _ s18 _ => n - (intOf s18).toNat)
    case atStart => exact ⟨0, Nat.zero_le _, rfl, rfl, Below.refl _ _⟩
    case round =>
      obtain ⟨i, hi, rfl, rfl, hb⟩ := hrel
      have HBR := Lib.hid hb
      have HBI := Lib.hid (HBE.out.trans (hb.mono HBE.out.size))
      obtain ⟨v, hv'⟩ : ∃ z, insideL (zl.take i) a = z := ⟨_, rfl⟩
      rw [hv']
      have HVV := Lib.hid hv'
      clear hb hv'
      by_cases hin : i < n
      · obtain ⟨z, hz⟩ : ∃ z, zl[i]? = some z := ⟨_, List.getElem?_eq_getElem (by have := HN.out; omega)⟩
        obtain ⟨bz, oz, eA, z1, z2⟩ := HWZ.out _ (HBZ.out.trans (HBI.out.mono HBZ.out.size)) i z hz
        subst eA
        have HNX := Lib.hid (show insideL (zl.take (i + 1)) a = (v || (decide (a.frm < z.to) && decide (z.frm < a.to))) from by
          obtain ⟨hl, e⟩ := List.getElem?_eq_some_iff.1 hz
          have h1 := HVV.out
          unfold insideL at h1 ⊢
          rw [List.take_succ_eq_append_getElem hl, List.any_append, e, h1, List.any_cons, List.any_nil, Bool.or_false])
        obtain ⟨r1, r2', r3, r4, r5⟩ := HRX.out _ HBI.out
        have a1 := r2'.cell 1; have a2 := r2'.cell 2
        have hbx := HBR.out
        have i1 : (i : Int) < (n : Int) := by omega
        have i0 : (0 : Int) ≤ (i : Int) := by omega
        clear hz r1 r2' r3 r4 r5
        cases v with
        | true =>
          have HX := Lib.hid hbx
          clear hbx
          go_upto_region 12 with (fail)
          have HS := Lib.hid (show True from trivial)
          refine wp_region_held_drew (S := fun _ => True) (by kernel_rfl) HS.out (fun _ => ?_)
          refine hTk (i := 0) (d := 101) (v := .bool true) rfl rfl (Or.inl ⟨rfl, by rintro W' s0; go_simp⟩) HS.out ?_
          simp only [Act.put, sB, sZ, sS]
          refine hTk (i := 1) (d := 102) (v := .bool true) rfl rfl (Or.inl ⟨rfl, by rintro W' s0; go_simp⟩) HS.out ?_
          simp only [Act.put, sB, sZ, sS]
          refine hTk (i := 2) (d := 103) (v := undef) rfl rfl (Or.inr ⟨rfl, rfl⟩) HS.out ?_
          simp only [Act.put, sB, sZ, sS]
          refine hTk (i := 3) (d := 104) (v := undef) rfl rfl (Or.inr ⟨rfl, rfl⟩) HS.out ?_
          simp only [Act.put, sB, sZ, sS]
          refine hTk (i := 4) (d := 105) (v := undef) rfl rfl (Or.inr ⟨rfl, rfl⟩) HS.out ?_
          simp only [Act.put, sB, sZ, sS]
          refine hTk (i := 5) (d := 106) (v := undef) rfl rfl (Or.inr ⟨rfl, rfl⟩) HS.out ?_
          simp only [Act.put, sB, sZ, sS]
          refine hTk (i := 6) (d := 107) (v := undef) rfl rfl (Or.inr ⟨rfl, rfl⟩) HS.out ?_
          simp only [Act.put, sB, sZ, sS]
          refine hTk (i := 7) (d := 108) (v := undef) rfl rfl (Or.inr ⟨rfl, rfl⟩) HS.out ?_
          simp only [Act.put, sB, sZ, sS]
          refine hTk (i := 8) (d := 109) (v := undef) rfl rfl (Or.inr ⟨rfl, rfl⟩) HS.out ?_
          simp only [Act.put, sB, sZ, sS]
          refine hTk (i := 9) (d := 110) (v := undef) rfl rfl (Or.inr ⟨rfl, rfl⟩) HS.out ?_
          simp only [Act.put, sB, sZ, sS]
          refine hTk (i := 10) (d := 111) (v := undef) rfl rfl (Or.inr ⟨rfl, rfl⟩) HS.out ?_
          simp only [Act.put, sB, sZ, sS]
          refine hTk (i := 11) (d := 112) (v := undef) rfl rfl (Or.inr ⟨rfl, rfl⟩) HS.out ?_
          simp only [Act.put, sB, sZ, sS]
          refine hTk (i := 12) (d := 113) (v := undef) rfl rfl (Or.inr ⟨rfl, rfl⟩) HS.out ?_
          simp only [Act.put, sB, sZ, sS]
          refine hTk (i := 13) (d := 114) (v := undef) rfl rfl (Or.inr ⟨rfl, rfl⟩) HS.out ?_
          simp only [Act.put, sB, sZ, sS]
          refine hTk (i := 14) (d := 115) (v := undef) rfl rfl (Or.inr ⟨rfl, rfl⟩) HS.out ?_
          simp only [Act.put, sB, sZ, sS]
          refine hTk (i := 15) (d := 116) (v := undef) rfl rfl (Or.inr ⟨rfl, rfl⟩) HS.out ?_
          simp only [Act.put, sB, sZ, sS]
          refine hTk (i := 16) (d := 117) (v := undef) rfl rfl (Or.inr ⟨rfl, rfl⟩) HS.out ?_
          simp only [Act.put, sB, sZ, sS]
          refine hTk (i := 17) (d := 118) (v := undef) rfl rfl (Or.inr ⟨rfl, rfl⟩) HS.out ?_
          simp only [Act.put, sB, sZ, sS]
          refine hTk (i := 18) (d := 119) (v := undef) rfl rfl (Or.inr ⟨rfl, rfl⟩) HS.out ?_
          simp only [Act.put, sB, sZ, sS]
          refine hTk (i := 19) (d := 120) (v := undef) rfl rfl (Or.inr ⟨rfl, rfl⟩) HS.out ?_
          simp only [Act.put, sB, sZ, sS]
          refine hTk (i := 20) (d := 121) (v := .bool true) rfl rfl (Or.inl ⟨rfl, by rintro W' s0; go_simp⟩) HS.out ?_
          simp only [Act.put, sB, sZ, sS]
          refine hTk (i := 21) (d := 17) (v := .bool true) rfl rfl (Or.inl ⟨rfl, by rintro W' s0; go_simp⟩) HS.out ?_
          simp only [Act.put, sB, sZ, sS]
          refine wpAnyH_done (by kernel_rfl) ?_ _
          go_wp2
          go_roundw
          case rel => exact ⟨i + 1, by omega, vi (by omega), by rw [HNX.out]; rfl, HX.out.drew⟩
          case measure => simp [intOf] <;> omega
        | false =>
          by_cases g1 : a.frm < z.to
          · by_cases g2 : z.frm < a.to
            · have HE := Lib.hid (show insideL (zl.take (i + 1)) a = true from by rw [HNX.out, decide_eq_true g1, decide_eq_true g2]; rfl)
              go_wp2
              go_quiet (fail)
              go_wp2
              go_roundw
              case rel => exact ⟨i + 1, by omega, vi (by omega), by rw [HE.out]; first | done | rfl | (simp; omega), bDrewN HBR.out _⟩
              case measure => simp [intOf] <;> omega
            · have HE := Lib.hid (show insideL (zl.take (i + 1)) a = false from by rw [HNX.out, decide_eq_false g2]; simp)
              have g2b : decide (z.frm < a.to) = false := decide_eq_false g2
              go_wp2
              go_quiet (fail)
              go_wp2
              go_roundw
              case rel => exact ⟨i + 1, by omega, vi (by omega), by rw [HE.out]; first | done | rfl | (simp; omega), bDrewN HBR.out _⟩
              case measure => simp [intOf] <;> omega
          · have HE := Lib.hid (show insideL (zl.take (i + 1)) a = false from by rw [HNX.out, decide_eq_false g1]; rfl)
            have g1b : decide (a.frm < z.to) = false := decide_eq_false g1
            go_wp2
            go_quiet (fail)
            go_wp2
            go_roundw
            case rel => exact ⟨i + 1, by omega, vi (by omega), by rw [HE.out]; first | done | rfl | (simp; omega), bDrewN HBR.out _⟩
            case measure => simp [intOf] <;> omega
      · obtain rfl : i = n := by omega
        obtain rfl : v = ins := by rw [← HVV.out, ← HIN.out, List.take_of_length_le (by rw [HN.out]; omega)]
        have HBF := Lib.hid (HB20.out.trans (HBI.out.mono HB20.out.size))
        cases v with
        | true =>
          go_wp2_with fail
          refine (HKN.out _ HBF.out).mono ?_
          rintro e w40 ⟨rfl, hb40⟩
          have HB40 := Lib.hid (HBF.out.trans (hb40.mono HBF.out.size))
          clear hb40
          go_wp2
          go_ret
          exact ⟨rfl, HB1.out.trans (HB40.out.mono HB1.out.size)⟩
        | false =>
          have hmf := HMO.out rfl
          subst hmf
          go_wp2_with fail
          refine (HKN.out _ HBF.out).mono ?_
          rintro e w40 ⟨rfl, hb40⟩
          have HB40 := Lib.hid (HBF.out.trans (hb40.mono HBF.out.size))
          clear hb40
          go_wp2
          go_ret
          exact ⟨rfl, HB1.out.trans (HB40.out.mono HB1.out.size)⟩
  · rw [if_pos (by rfl)]
    go_simp
    go_at_call 44
    (with_reducible refine (HLN.out _ (HB20.out.trans (hbq.mono HB20.out.size))).mono ?_)
    rintro e wc ⟨rfl, hbn⟩
    replace hbq := hbq.trans (hbn.mono hbq.size)
    clear hbn
    have HS := Lib.hid (HOC.out _ hbq)
    refine hK.out _ _ HS.out (fun _ => ?_)
    clear hK K
    try simp only [Act.put, sB, sZ, sS]
    refine hTk (i := 10) (d := 79) (v := .agg #[.int .i64 b.rail, .int .i64 0, .int .i64 le]) rfl rfl (Or.inl ⟨rfl, by rintro W' ⟨x0, x1, x2, x3, x4, x5, x6, x7, x8, x9, x10, x11⟩; go_simp⟩) HS.out ?_
    simp only [Act.put, sB, sZ, sS]
    refine wpAnyH_ready (rs := [2, 11]) (by kernel_rfl) (by simp) ?_
    refine AllReadyH.cons rfl (fun K hK => ?_) (AllReadyH.cons rfl (fun K hK => ?_) AllReadyH.nil)
    · rw [if_pos (by rfl)]
      go_simp
      have hbn : Below wc.heap.size wc (wc.alloc (.cells #[.int .i64 a.rail, .int .i64 a.frm, .int .i64 a.to] 79)) := (Below.refl _ _).alloc (Nat.le_refl _) _
      replace hbq := hbq.trans (hbn.mono hbq.size)
      clear hbn
      have ha0 : Sl ((wc.alloc (.cells #[.int .i64 a.rail, .int .i64 a.frm, .int .i64 a.to] 79))) (wc.heap.size + 1) 3 CC (some ⟨wc.heap.size, 0, none⟩) [a] := by
        have h0 := Sl.cov1 wc a
        (try rw [World.size_alloc] at h0)
        exact h0
      have hba : Below (wc.heap.size + 1) ((wc.alloc (.cells #[.int .i64 a.rail, .int .i64 a.frm, .int .i64 a.to] 79))) ((wc.alloc (.cells #[.int .i64 a.rail, .int .i64 a.frm, .int .i64 a.to] 79))) := Below.refl _ _
      have HSa := Lib.hid (show ∀ wx, Below (wc.heap.size + 1) ((wc.alloc (.cells #[.int .i64 a.rail, .int .i64 a.frm, .int .i64 a.to] 79))) wx → Sl wx wx.heap.size 3 CC (some ⟨wc.heap.size, 0, none⟩) [a] from fun wx h => (Sl.below (B := wc.heap.size + 1) ha0 h).more (fun _ _ h => h) (by have h1 := h.size; (try simp at h1 ⊢) <;> omega))
      clear ha0
      have HS := Lib.hid (HOC.out _ hbq)
      refine hK.out _ _ HS.out (fun _ => ?_)
      clear hK K
      try simp only [Act.put, sB, sZ, sS]
      refine wpAnyH_ready (rs := [11]) (by kernel_rfl) (by simp) ?_
      refine AllReadyH.cons rfl (fun K hK => ?_) AllReadyH.nil
      rw [if_pos (by rfl)]
      go_simp
      have hbn : Below (wc.alloc (.cells #[.int .i64 a.rail, .int .i64 a.frm, .int .i64 a.to] 79)).heap.size (wc.alloc (.cells #[.int .i64 a.rail, .int .i64 a.frm, .int .i64 a.to] 79)) ((wc.alloc (.cells #[.int .i64 a.rail, .int .i64 a.frm, .int .i64 a.to] 79)).alloc (.cells #[.int .i64 b.rail, .int .i64 0, .int .i64 le] 79)) := (Below.refl _ _).alloc (Nat.le_refl _) _
      replace hba := hba.trans (hbn.mono (by have h1 := hba.size; (try simp at h1 ⊢) <;> omega))
      replace hbq := hbq.trans (hbn.mono hbq.size)
      clear hbn
      have hb0 : Sl (((wc.alloc (.cells #[.int .i64 a.rail, .int .i64 a.frm, .int .i64 a.to] 79)).alloc (.cells #[.int .i64 b.rail, .int .i64 0, .int .i64 le] 79))) (wc.heap.size + 1 + 1) 3 CC (some ⟨wc.heap.size + 1, 0, none⟩) [(⟨b.rail, 0, le⟩ : C3)] := by
        have h0 := Sl.cov1 (wc.alloc (.cells #[.int .i64 a.rail, .int .i64 a.frm, .int .i64 a.to] 79)) (⟨b.rail, 0, le⟩ : C3)
        (try rw [World.size_alloc] at h0)
        exact h0
      have hbb : Below (wc.heap.size + 1 + 1) (((wc.alloc (.cells #[.int .i64 a.rail, .int .i64 a.frm, .int .i64 a.to] 79)).alloc (.cells #[.int .i64 b.rail, .int .i64 0, .int .i64 le] 79))) (((wc.alloc (.cells #[.int .i64 a.rail, .int .i64 a.frm, .int .i64 a.to] 79)).alloc (.cells #[.int .i64 b.rail, .int .i64 0, .int .i64 le] 79))) := Below.refl _ _
      have HSb := Lib.hid (show ∀ wx, Below (wc.heap.size + 1 + 1) (((wc.alloc (.cells #[.int .i64 a.rail, .int .i64 a.frm, .int .i64 a.to] 79)).alloc (.cells #[.int .i64 b.rail, .int .i64 0, .int .i64 le] 79))) wx → Sl wx wx.heap.size 3 CC (some ⟨wc.heap.size + 1, 0, none⟩) [(⟨b.rail, 0, le⟩ : C3)] from fun wx h => (Sl.below (B := wc.heap.size + 1 + 1) hb0 h).more (fun _ _ h => h) (by have h1 := h.size; (try simp at h1 ⊢) <;> omega))
      clear hb0
      have HS := Lib.hid (HOC.out _ hbq)
      refine hK.out _ _ HS.out (fun _ => ?_)
      clear hK K
      try simp only [Act.put, sB, sZ, sS]
      refine wpAnyH_ready (rs := [13]) (by kernel_rfl) (by simp) ?_
      refine AllReadyH.cons rfl (fun K hK => ?_) AllReadyH.nil
      rw [if_pos (by rfl)]
      go_simp
      go_at_call 41
      (with_reducible refine (HCA.out w w _ _ _ (HB20.out.trans (hbq.mono HB20.out.size)) (HSa.out _ hba) (HSb.out _ hbb)).mono ?_)
      rintro e w30 ⟨rfl, hbn⟩
      replace hbq := hbq.trans (hbn.mono hbq.size)
      clear hbn hba hbb
      have HS := Lib.hid (HOC.out _ hbq)
      refine hK.out _ _ HS.out (fun _ => ?_)
      clear hK K
      try simp only [Act.put, sB, sZ, sS]
      refine hTk (i := 14) (d := 68) (v := .tuple #[.bool (!ins), .int .i64 0]) rfl rfl (Or.inl ⟨rfl, by rintro W' ⟨x0, x1, x2, x3, x4, x5, x6, x7, x8, x9, x10, x11⟩; go_simp⟩) HS.out ?_
      simp only [Act.put, sB, sZ, sS]
      refine hTk (i := 15) (d := 83) (v := .bool (!ins)) rfl rfl (Or.inl ⟨rfl, by rintro W' ⟨x0, x1, x2, x3, x4, x5, x6, x7, x8, x9, x10, x11⟩; go_simp⟩) HS.out ?_
      simp only [Act.put, sB, sZ, sS]
      refine hTk (i := 16) (d := 84) (v := .int .i64 0) rfl rfl (Or.inl ⟨rfl, by rintro W' ⟨x0, x1, x2, x3, x4, x5, x6, x7, x8, x9, x10, x11⟩; go_simp⟩) HS.out ?_
      simp only [Act.put, sB, sZ, sS]
      refine hTk (i := 17) (d := 15) (v := .bool (!ins)) rfl rfl (Or.inl ⟨rfl, by rintro W' ⟨x0, x1, x2, x3, x4, x5, x6, x7, x8, x9, x10, x11⟩; go_simp⟩) HS.out ?_
      simp only [Act.put, sB, sZ, sS]
      refine hTk (i := 18) (d := 16) (v := .int .i64 0) rfl rfl (Or.inl ⟨rfl, by rintro W' ⟨x0, x1, x2, x3, x4, x5, x6, x7, x8, x9, x10, x11⟩; go_simp⟩) HS.out ?_
      simp only [Act.put, sB, sZ, sS]
      refine wpAnyH_done (by kernel_rfl) ?_ _
      have HBE := Lib.hid hbq
      clear hbq HS
      obtain ⟨n, hn⟩ : ∃ z, zl.length = z := ⟨_, rfl⟩
      rw [hn] at hn0
      have HN := Lib.hid hn
      rw [hn]
      clear hn
      go_wp2
      go_loopw [17, 18] (fun s17 s18 wr => ∃ i : Nat, i ≤ n ∧ s18 = .int .i64 (i : Int) ∧ s17 = .bool (insideL (zl.take i) a) ∧ Below w30.heap.size w30 wr) (fun _ s18 _ => n - (intOf s18).toNat)
      case atStart => exact ⟨0, Nat.zero_le _, rfl, rfl, Below.refl _ _⟩
      case round =>
        obtain ⟨i, hi, rfl, rfl, hb⟩ := hrel
        have HBR := Lib.hid hb
        have HBI := Lib.hid (HBE.out.trans (hb.mono HBE.out.size))
        obtain ⟨v, hv'⟩ : ∃ z, insideL (zl.take i) a = z := ⟨_, rfl⟩
        rw [hv']
        have HVV := Lib.hid hv'
        clear hb hv'
        by_cases hin : i < n
        · obtain ⟨z, hz⟩ : ∃ z, zl[i]? = some z := ⟨_, List.getElem?_eq_getElem (by have := HN.out; omega)⟩
          obtain ⟨bz, oz, eA, z1, z2⟩ := HWZ.out _ (HBZ.out.trans (HBI.out.mono HBZ.out.size)) i z hz
          subst eA
          have HNX := Lib.hid (show insideL (zl.take (i + 1)) a = (v || (decide (a.frm < z.to) && decide (z.frm < a.to))) from by
            obtain ⟨hl, e⟩ := List.getElem?_eq_some_iff.1 hz
            have h1 := HVV.out
            unfold insideL at h1 ⊢
            rw [List.take_succ_eq_append_getElem hl, List.any_append, e, h1, List.any_cons, List.any_nil, Bool.or_false])
          obtain ⟨r1, r2', r3, r4, r5⟩ := HRX.out _ HBI.out
          have a1 := r2'.cell 1; have a2 := r2'.cell 2
          have hbx := HBR.out
          have i1 : (i : Int) < (n : Int) := by omega
          have i0 : (0 : Int) ≤ (i : Int) := by omega
          clear hz r1 r2' r3 r4 r5
          cases v with
          | true =>
            have HX := Lib.hid hbx
            clear hbx
            go_upto_region 12 with (fail)
            have HS := Lib.hid (show True from trivial)
            refine wp_region_held_drew (S := fun _ => True) (by kernel_rfl) HS.out (fun _ => ?_)
            refine hTk (i := 0) (d := 101) (v := .bool true) rfl rfl (Or.inl ⟨rfl, by rintro W' s0; go_simp⟩) HS.out ?_
            simp only [Act.put, sB, sZ, sS]
            refine hTk (i := 1) (d := 102) (v := .bool true) rfl rfl (Or.inl ⟨rfl, by rintro W' s0; go_simp⟩) HS.out ?_
            simp only [Act.put, sB, sZ, sS]
            refine hTk (i := 2) (d := 103) (v := undef) rfl rfl (Or.inr ⟨rfl, rfl⟩) HS.out ?_
            simp only [Act.put, sB, sZ, sS]
            refine hTk (i := 3) (d := 104) (v := undef) rfl rfl (Or.inr ⟨rfl, rfl⟩) HS.out ?_
            simp only [Act.put, sB, sZ, sS]
            refine hTk (i := 4) (d := 105) (v := undef) rfl rfl (Or.inr ⟨rfl, rfl⟩) HS.out ?_
            simp only [Act.put, sB, sZ, sS]
            refine hTk (i := 5) (d := 106) (v := undef) rfl rfl (Or.inr ⟨rfl, rfl⟩) HS.out ?_
            simp only [Act.put, sB, sZ, sS]
            refine hTk (i := 6) (d := 107) (v := undef) rfl rfl (Or.inr ⟨rfl, rfl⟩) HS.out ?_
            simp only [Act.put, sB, sZ, sS]
            refine hTk (i := 7) (d := 108) (v := undef) rfl rfl (Or.inr ⟨rfl, rfl⟩) HS.out ?_
            simp only [Act.put, sB, sZ, sS]
            refine hTk (i := 8) (d := 109) (v := undef) rfl rfl (Or.inr ⟨rfl, rfl⟩) HS.out ?_
            simp only [Act.put, sB, sZ, sS]
            refine hTk (i := 9) (d := 110) (v := undef) rfl rfl (Or.inr ⟨rfl, rfl⟩) HS.out ?_
            simp only [Act.put, sB, sZ, sS]
            refine hTk (i := 10) (d := 111) (v := undef) rfl rfl (Or.inr ⟨rfl, rfl⟩) HS.out ?_
            simp only [Act.put, sB, sZ, sS]
            refine hTk (i := 11) (d := 112) (v := undef) rfl rfl (Or.inr ⟨rfl, rfl⟩) HS.out ?_
            simp only [Act.put, sB, sZ, sS]
            refine hTk (i := 12) (d := 113) (v := undef) rfl rfl (Or.inr ⟨rfl, rfl⟩) HS.out ?_
            simp only [Act.put, sB, sZ, sS]
            refine hTk (i := 13) (d := 114) (v := undef) rfl rfl (Or.inr ⟨rfl, rfl⟩) HS.out ?_
            simp only [Act.put, sB, sZ, sS]
            refine hTk (i := 14) (d := 115) (v := undef) rfl rfl (Or.inr ⟨rfl, rfl⟩) HS.out ?_
            simp only [Act.put, sB, sZ, sS]
            refine hTk (i := 15) (d := 116) (v := undef) rfl rfl (Or.inr ⟨rfl, rfl⟩) HS.out ?_
            simp only [Act.put, sB, sZ, sS]
            refine hTk (i := 16) (d := 117) (v := undef) rfl rfl (Or.inr ⟨rfl, rfl⟩) HS.out ?_
            simp only [Act.put, sB, sZ, sS]
            refine hTk (i := 17) (d := 118) (v := undef) rfl rfl (Or.inr ⟨rfl, rfl⟩) HS.out ?_
            simp only [Act.put, sB, sZ, sS]
            refine hTk (i := 18) (d := 119) (v := undef) rfl rfl (Or.inr ⟨rfl, rfl⟩) HS.out ?_
            simp only [Act.put, sB, sZ, sS]
            refine hTk (i := 19) (d := 120) (v := undef) rfl rfl (Or.inr ⟨rfl, rfl⟩) HS.out ?_
            simp only [Act.put, sB, sZ, sS]
            refine hTk (i := 20) (d := 121) (v := .bool true) rfl rfl (Or.inl ⟨rfl, by rintro W' s0; go_simp⟩) HS.out ?_
            simp only [Act.put, sB, sZ, sS]
            refine hTk (i := 21) (d := 17) (v := .bool true) rfl rfl (Or.inl ⟨rfl, by rintro W' s0; go_simp⟩) HS.out ?_
            simp only [Act.put, sB, sZ, sS]
            refine wpAnyH_done (by kernel_rfl) ?_ _
            go_wp2
            go_roundw
            case rel => exact ⟨i + 1, by omega, vi (by omega), by rw [HNX.out]; rfl, HX.out.drew⟩
            case measure => simp [intOf] <;> omega
          | false =>
            by_cases g1 : a.frm < z.to
            · by_cases g2 : z.frm < a.to
              · have HE := Lib.hid (show insideL (zl.take (i + 1)) a = true from by rw [HNX.out, decide_eq_true g1, decide_eq_true g2]; rfl)
                go_wp2
                go_quiet (fail)
                go_wp2
                go_roundw
                case rel => exact ⟨i + 1, by omega, vi (by omega), by rw [HE.out]; first | done | rfl | (simp; omega), bDrewN HBR.out _⟩
                case measure => simp [intOf] <;> omega
              · have HE := Lib.hid (show insideL (zl.take (i + 1)) a = false from by rw [HNX.out, decide_eq_false g2]; simp)
                have g2b : decide (z.frm < a.to) = false := decide_eq_false g2
                go_wp2
                go_quiet (fail)
                go_wp2
                go_roundw
                case rel => exact ⟨i + 1, by omega, vi (by omega), by rw [HE.out]; first | done | rfl | (simp; omega), bDrewN HBR.out _⟩
                case measure => simp [intOf] <;> omega
            · have HE := Lib.hid (show insideL (zl.take (i + 1)) a = false from by rw [HNX.out, decide_eq_false g1]; rfl)
              have g1b : decide (a.frm < z.to) = false := decide_eq_false g1
              go_wp2
              go_quiet (fail)
              go_wp2
              go_roundw
              case rel => exact ⟨i + 1, by omega, vi (by omega), by rw [HE.out]; first | done | rfl | (simp; omega), bDrewN HBR.out _⟩
              case measure => simp [intOf] <;> omega
        · obtain rfl : i = n := by omega
          obtain rfl : v = ins := by rw [← HVV.out, ← HIN.out, List.take_of_length_le (by rw [HN.out]; omega)]
          have HBF := Lib.hid (HB20.out.trans (HBI.out.mono HB20.out.size))
          cases v with
          | true =>
            go_wp2_with fail
            refine (HKN.out _ HBF.out).mono ?_
            rintro e w40 ⟨rfl, hb40⟩
            have HB40 := Lib.hid (HBF.out.trans (hb40.mono HBF.out.size))
            clear hb40
            go_wp2
            go_ret
            exact ⟨rfl, HB1.out.trans (HB40.out.mono HB1.out.size)⟩
          | false =>
            have hmf := HMO.out rfl
            subst hmf
            go_wp2_with fail
            refine (HKN.out _ HBF.out).mono ?_
            rintro e w40 ⟨rfl, hb40⟩
            have HB40 := Lib.hid (HBF.out.trans (hb40.mono HBF.out.size))
            clear hb40
            go_wp2
            go_ret
            exact ⟨rfl, HB1.out.trans (HB40.out.mono HB1.out.size)⟩
    · rw [if_pos (by rfl)]
      go_simp
      have hbn : Below wc.heap.size wc (wc.alloc (.cells #[.int .i64 b.rail, .int .i64 0, .int .i64 le] 79)) := (Below.refl _ _).alloc (Nat.le_refl _) _
      replace hbq := hbq.trans (hbn.mono hbq.size)
      clear hbn
      have hb0 : Sl ((wc.alloc (.cells #[.int .i64 b.rail, .int .i64 0, .int .i64 le] 79))) (wc.heap.size + 1) 3 CC (some ⟨wc.heap.size, 0, none⟩) [(⟨b.rail, 0, le⟩ : C3)] := by
        have h0 := Sl.cov1 wc (⟨b.rail, 0, le⟩ : C3)
        (try rw [World.size_alloc] at h0)
        exact h0
      have hbb : Below (wc.heap.size + 1) ((wc.alloc (.cells #[.int .i64 b.rail, .int .i64 0, .int .i64 le] 79))) ((wc.alloc (.cells #[.int .i64 b.rail, .int .i64 0, .int .i64 le] 79))) := Below.refl _ _
      have HSb := Lib.hid (show ∀ wx, Below (wc.heap.size + 1) ((wc.alloc (.cells #[.int .i64 b.rail, .int .i64 0, .int .i64 le] 79))) wx → Sl wx wx.heap.size 3 CC (some ⟨wc.heap.size, 0, none⟩) [(⟨b.rail, 0, le⟩ : C3)] from fun wx h => (Sl.below (B := wc.heap.size + 1) hb0 h).more (fun _ _ h => h) (by have h1 := h.size; (try simp at h1 ⊢) <;> omega))
      clear hb0
      have HS := Lib.hid (HOC.out _ hbq)
      refine hK.out _ _ HS.out (fun _ => ?_)
      clear hK K
      try simp only [Act.put, sB, sZ, sS]
      refine wpAnyH_ready (rs := [2]) (by kernel_rfl) (by simp) ?_
      refine AllReadyH.cons rfl (fun K hK => ?_) AllReadyH.nil
      rw [if_pos (by rfl)]
      go_simp
      have hbn : Below (wc.alloc (.cells #[.int .i64 b.rail, .int .i64 0, .int .i64 le] 79)).heap.size (wc.alloc (.cells #[.int .i64 b.rail, .int .i64 0, .int .i64 le] 79)) ((wc.alloc (.cells #[.int .i64 b.rail, .int .i64 0, .int .i64 le] 79)).alloc (.cells #[.int .i64 a.rail, .int .i64 a.frm, .int .i64 a.to] 79)) := (Below.refl _ _).alloc (Nat.le_refl _) _
      replace hbb := hbb.trans (hbn.mono (by have h1 := hbb.size; (try simp at h1 ⊢) <;> omega))
      replace hbq := hbq.trans (hbn.mono hbq.size)
      clear hbn
      have ha0 : Sl (((wc.alloc (.cells #[.int .i64 b.rail, .int .i64 0, .int .i64 le] 79)).alloc (.cells #[.int .i64 a.rail, .int .i64 a.frm, .int .i64 a.to] 79))) (wc.heap.size + 1 + 1) 3 CC (some ⟨wc.heap.size + 1, 0, none⟩) [a] := by
        have h0 := Sl.cov1 (wc.alloc (.cells #[.int .i64 b.rail, .int .i64 0, .int .i64 le] 79)) a
        (try rw [World.size_alloc] at h0)
        exact h0
      have hba : Below (wc.heap.size + 1 + 1) (((wc.alloc (.cells #[.int .i64 b.rail, .int .i64 0, .int .i64 le] 79)).alloc (.cells #[.int .i64 a.rail, .int .i64 a.frm, .int .i64 a.to] 79))) (((wc.alloc (.cells #[.int .i64 b.rail, .int .i64 0, .int .i64 le] 79)).alloc (.cells #[.int .i64 a.rail, .int .i64 a.frm, .int .i64 a.to] 79))) := Below.refl _ _
      have HSa := Lib.hid (show ∀ wx, Below (wc.heap.size + 1 + 1) (((wc.alloc (.cells #[.int .i64 b.rail, .int .i64 0, .int .i64 le] 79)).alloc (.cells #[.int .i64 a.rail, .int .i64 a.frm, .int .i64 a.to] 79))) wx → Sl wx wx.heap.size 3 CC (some ⟨wc.heap.size + 1, 0, none⟩) [a] from fun wx h => (Sl.below (B := wc.heap.size + 1 + 1) ha0 h).more (fun _ _ h => h) (by have h1 := h.size; (try simp at h1 ⊢) <;> omega))
      clear ha0
      have HS := Lib.hid (HOC.out _ hbq)
      refine hK.out _ _ HS.out (fun _ => ?_)
      clear hK K
      try simp only [Act.put, sB, sZ, sS]
      refine wpAnyH_ready (rs := [13]) (by kernel_rfl) (by simp) ?_
      refine AllReadyH.cons rfl (fun K hK => ?_) AllReadyH.nil
      rw [if_pos (by rfl)]
      go_simp
      go_at_call 41
      (with_reducible refine (HCA.out w w _ _ _ (HB20.out.trans (hbq.mono HB20.out.size)) (HSa.out _ hba) (HSb.out _ hbb)).mono ?_)
      rintro e w30 ⟨rfl, hbn⟩
      replace hbq := hbq.trans (hbn.mono hbq.size)
      clear hbn hba hbb
      have HS := Lib.hid (HOC.out _ hbq)
      refine hK.out _ _ HS.out (fun _ => ?_)
      clear hK K
      try simp only [Act.put, sB, sZ, sS]
      refine hTk (i := 14) (d := 68) (v := .tuple #[.bool (!ins), .int .i64 0]) rfl rfl (Or.inl ⟨rfl, by rintro W' ⟨x0, x1, x2, x3, x4, x5, x6, x7, x8, x9, x10, x11⟩; go_simp⟩) HS.out ?_
      simp only [Act.put, sB, sZ, sS]
      refine hTk (i := 15) (d := 83) (v := .bool (!ins)) rfl rfl (Or.inl ⟨rfl, by rintro W' ⟨x0, x1, x2, x3, x4, x5, x6, x7, x8, x9, x10, x11⟩; go_simp⟩) HS.out ?_
      simp only [Act.put, sB, sZ, sS]
      refine hTk (i := 16) (d := 84) (v := .int .i64 0) rfl rfl (Or.inl ⟨rfl, by rintro W' ⟨x0, x1, x2, x3, x4, x5, x6, x7, x8, x9, x10, x11⟩; go_simp⟩) HS.out ?_
      simp only [Act.put, sB, sZ, sS]
      refine hTk (i := 17) (d := 15) (v := .bool (!ins)) rfl rfl (Or.inl ⟨rfl, by rintro W' ⟨x0, x1, x2, x3, x4, x5, x6, x7, x8, x9, x10, x11⟩; go_simp⟩) HS.out ?_
      simp only [Act.put, sB, sZ, sS]
      refine hTk (i := 18) (d := 16) (v := .int .i64 0) rfl rfl (Or.inl ⟨rfl, by rintro W' ⟨x0, x1, x2, x3, x4, x5, x6, x7, x8, x9, x10, x11⟩; go_simp⟩) HS.out ?_
      simp only [Act.put, sB, sZ, sS]
      refine wpAnyH_done (by kernel_rfl) ?_ _
      have HBE := Lib.hid hbq
      clear hbq HS
      obtain ⟨n, hn⟩ : ∃ z, zl.length = z := ⟨_, rfl⟩
      rw [hn] at hn0
      have HN := Lib.hid hn
      rw [hn]
      clear hn
      go_wp2
      go_loopw [17, 18] (fun s17 s18 wr => ∃ i : Nat, i ≤ n ∧ s18 = .int .i64 (i : Int) ∧ s17 = .bool (insideL (zl.take i) a) ∧ Below w30.heap.size w30 wr) (fun _ s18 _ => n - (intOf s18).toNat)
      case atStart => exact ⟨0, Nat.zero_le _, rfl, rfl, Below.refl _ _⟩
      case round =>
        obtain ⟨i, hi, rfl, rfl, hb⟩ := hrel
        have HBR := Lib.hid hb
        have HBI := Lib.hid (HBE.out.trans (hb.mono HBE.out.size))
        obtain ⟨v, hv'⟩ : ∃ z, insideL (zl.take i) a = z := ⟨_, rfl⟩
        rw [hv']
        have HVV := Lib.hid hv'
        clear hb hv'
        by_cases hin : i < n
        · obtain ⟨z, hz⟩ : ∃ z, zl[i]? = some z := ⟨_, List.getElem?_eq_getElem (by have := HN.out; omega)⟩
          obtain ⟨bz, oz, eA, z1, z2⟩ := HWZ.out _ (HBZ.out.trans (HBI.out.mono HBZ.out.size)) i z hz
          subst eA
          have HNX := Lib.hid (show insideL (zl.take (i + 1)) a = (v || (decide (a.frm < z.to) && decide (z.frm < a.to))) from by
            obtain ⟨hl, e⟩ := List.getElem?_eq_some_iff.1 hz
            have h1 := HVV.out
            unfold insideL at h1 ⊢
            rw [List.take_succ_eq_append_getElem hl, List.any_append, e, h1, List.any_cons, List.any_nil, Bool.or_false])
          obtain ⟨r1, r2', r3, r4, r5⟩ := HRX.out _ HBI.out
          have a1 := r2'.cell 1; have a2 := r2'.cell 2
          have hbx := HBR.out
          have i1 : (i : Int) < (n : Int) := by omega
          have i0 : (0 : Int) ≤ (i : Int) := by omega
          clear hz r1 r2' r3 r4 r5
          cases v with
          | true =>
            have HX := Lib.hid hbx
            clear hbx
            go_upto_region 12 with (fail)
            have HS := Lib.hid (show True from trivial)
            refine wp_region_held_drew (S := fun _ => True) (by kernel_rfl) HS.out (fun _ => ?_)
            refine hTk (i := 0) (d := 101) (v := .bool true) rfl rfl (Or.inl ⟨rfl, by rintro W' s0; go_simp⟩) HS.out ?_
            simp only [Act.put, sB, sZ, sS]
            refine hTk (i := 1) (d := 102) (v := .bool true) rfl rfl (Or.inl ⟨rfl, by rintro W' s0; go_simp⟩) HS.out ?_
            simp only [Act.put, sB, sZ, sS]
            refine hTk (i := 2) (d := 103) (v := undef) rfl rfl (Or.inr ⟨rfl, rfl⟩) HS.out ?_
            simp only [Act.put, sB, sZ, sS]
            refine hTk (i := 3) (d := 104) (v := undef) rfl rfl (Or.inr ⟨rfl, rfl⟩) HS.out ?_
            simp only [Act.put, sB, sZ, sS]
            refine hTk (i := 4) (d := 105) (v := undef) rfl rfl (Or.inr ⟨rfl, rfl⟩) HS.out ?_
            simp only [Act.put, sB, sZ, sS]
            refine hTk (i := 5) (d := 106) (v := undef) rfl rfl (Or.inr ⟨rfl, rfl⟩) HS.out ?_
            simp only [Act.put, sB, sZ, sS]
            refine hTk (i := 6) (d := 107) (v := undef) rfl rfl (Or.inr ⟨rfl, rfl⟩) HS.out ?_
            simp only [Act.put, sB, sZ, sS]
            refine hTk (i := 7) (d := 108) (v := undef) rfl rfl (Or.inr ⟨rfl, rfl⟩) HS.out ?_
            simp only [Act.put, sB, sZ, sS]
            refine hTk (i := 8) (d := 109) (v := undef) rfl rfl (Or.inr ⟨rfl, rfl⟩) HS.out ?_
            simp only [Act.put, sB, sZ, sS]
            refine hTk (i := 9) (d := 110) (v := undef) rfl rfl (Or.inr ⟨rfl, rfl⟩) HS.out ?_
            simp only [Act.put, sB, sZ, sS]
            refine hTk (i := 10) (d := 111) (v := undef) rfl rfl (Or.inr ⟨rfl, rfl⟩) HS.out ?_
            simp only [Act.put, sB, sZ, sS]
            refine hTk (i := 11) (d := 112) (v := undef) rfl rfl (Or.inr ⟨rfl, rfl⟩) HS.out ?_
            simp only [Act.put, sB, sZ, sS]
            refine hTk (i := 12) (d := 113) (v := undef) rfl rfl (Or.inr ⟨rfl, rfl⟩) HS.out ?_
            simp only [Act.put, sB, sZ, sS]
            refine hTk (i := 13) (d := 114) (v := undef) rfl rfl (Or.inr ⟨rfl, rfl⟩) HS.out ?_
            simp only [Act.put, sB, sZ, sS]
            refine hTk (i := 14) (d := 115) (v := undef) rfl rfl (Or.inr ⟨rfl, rfl⟩) HS.out ?_
            simp only [Act.put, sB, sZ, sS]
            refine hTk (i := 15) (d := 116) (v := undef) rfl rfl (Or.inr ⟨rfl, rfl⟩) HS.out ?_
            simp only [Act.put, sB, sZ, sS]
            refine hTk (i := 16) (d := 117) (v := undef) rfl rfl (Or.inr ⟨rfl, rfl⟩) HS.out ?_
            simp only [Act.put, sB, sZ, sS]
            refine hTk (i := 17) (d := 118) (v := undef) rfl rfl (Or.inr ⟨rfl, rfl⟩) HS.out ?_
            simp only [Act.put, sB, sZ, sS]
            refine hTk (i := 18) (d := 119) (v := undef) rfl rfl (Or.inr ⟨rfl, rfl⟩) HS.out ?_
            simp only [Act.put, sB, sZ, sS]
            refine hTk (i := 19) (d := 120) (v := undef) rfl rfl (Or.inr ⟨rfl, rfl⟩) HS.out ?_
            simp only [Act.put, sB, sZ, sS]
            refine hTk (i := 20) (d := 121) (v := .bool true) rfl rfl (Or.inl ⟨rfl, by rintro W' s0; go_simp⟩) HS.out ?_
            simp only [Act.put, sB, sZ, sS]
            refine hTk (i := 21) (d := 17) (v := .bool true) rfl rfl (Or.inl ⟨rfl, by rintro W' s0; go_simp⟩) HS.out ?_
            simp only [Act.put, sB, sZ, sS]
            refine wpAnyH_done (by kernel_rfl) ?_ _
            go_wp2
            go_roundw
            case rel => exact ⟨i + 1, by omega, vi (by omega), by rw [HNX.out]; rfl, HX.out.drew⟩
            case measure => simp [intOf] <;> omega
          | false =>
            by_cases g1 : a.frm < z.to
            · by_cases g2 : z.frm < a.to
              · have HE := Lib.hid (show insideL (zl.take (i + 1)) a = true from by rw [HNX.out, decide_eq_true g1, decide_eq_true g2]; rfl)
                go_wp2
                go_quiet (fail)
                go_wp2
                go_roundw
                case rel => exact ⟨i + 1, by omega, vi (by omega), by rw [HE.out]; first | done | rfl | (simp; omega), bDrewN HBR.out _⟩
                case measure => simp [intOf] <;> omega
              · have HE := Lib.hid (show insideL (zl.take (i + 1)) a = false from by rw [HNX.out, decide_eq_false g2]; simp)
                have g2b : decide (z.frm < a.to) = false := decide_eq_false g2
                go_wp2
                go_quiet (fail)
                go_wp2
                go_roundw
                case rel => exact ⟨i + 1, by omega, vi (by omega), by rw [HE.out]; first | done | rfl | (simp; omega), bDrewN HBR.out _⟩
                case measure => simp [intOf] <;> omega
            · have HE := Lib.hid (show insideL (zl.take (i + 1)) a = false from by rw [HNX.out, decide_eq_false g1]; rfl)
              have g1b : decide (a.frm < z.to) = false := decide_eq_false g1
              go_wp2
              go_quiet (fail)
              go_wp2
              go_roundw
              case rel => exact ⟨i + 1, by omega, vi (by omega), by rw [HE.out]; first | done | rfl | (simp; omega), bDrewN HBR.out _⟩
              case measure => simp [intOf] <;> omega
        · obtain rfl : i = n := by omega
          obtain rfl : v = ins := by rw [← HVV.out, ← HIN.out, List.take_of_length_le (by rw [HN.out]; omega)]
          have HBF := Lib.hid (HB20.out.trans (HBI.out.mono HB20.out.size))
          cases v with
          | true =>
            go_wp2_with fail
            refine (HKN.out _ HBF.out).mono ?_
            rintro e w40 ⟨rfl, hb40⟩
            have HB40 := Lib.hid (HBF.out.trans (hb40.mono HBF.out.size))
            clear hb40
            go_wp2
            go_ret
            exact ⟨rfl, HB1.out.trans (HB40.out.mono HB1.out.size)⟩
          | false =>
            have hmf := HMO.out rfl
            subst hmf
            go_wp2_with fail
            refine (HKN.out _ HBF.out).mono ?_
            rintro e w40 ⟨rfl, hb40⟩
            have HB40 := Lib.hid (HBF.out.trans (hb40.mono HBF.out.size))
            clear hb40
            go_wp2
            go_ret
            exact ⟨rfl, HB1.out.trans (HB40.out.mono HB1.out.size)⟩

theorem SweepOutside_any (A A2 : Option Addr) (c c2 : Nat) (p : Pl) (a : C3) (hx sx : Int) (b : C3) (hy sy : Int) (w : World) (hP : PlAt w w.heap.size A c A2 c2 p) :
    Calls Tryz.prog 12 #[.agg #[.slice A p.nodes.length c, .slice A2 p.rails.length c2], .agg #[.int .i64 a.rail, .int .i64 a.frm, .int .i64 a.to], .agg #[.int .i64 hx, .int .i64 sx], .agg #[.int .i64 b.rail, .int .i64 b.frm, .int .i64 b.to], .agg #[.int .i64 hy, .int .i64 sy]] w fun e w' => e = .returned (.bool true) ∧ Below w.heap.size w w' := by
  cases hfew : fewB p with
  | false => exact outs_few A A2 c c2 p a b hx sx hy sy w hP hfew
  | true =>
    by_cases hv : Vld p
    · cases hpx : prB ⟨hx, sx⟩ with
      | false => exact outs_p1 A A2 c c2 p a b hx sx hy sy w hP hfew hv hpx
      | true =>
        cases hpy : prB ⟨hy, sy⟩ with
        | false => exact outs_p2 A A2 c c2 p a b hx sx hy sy w hP hfew hv hpx hpy
        | true =>
          cases hcv : touchB p [a, b] with
          | false => exact outs_c1 A A2 c c2 p a b hx sx hy sy w hP hfew hv hpx hpy hcv
          | true => exact outs_yes A A2 c c2 p a b hx sx hy sy w hP hfew hv hpx hpy hcv
    · exact outs_n1 A A2 c c2 p a b hx sx hy sy w hP hfew hv
end Go.Proofs.YtekambdnmaompaaGreat.SW
