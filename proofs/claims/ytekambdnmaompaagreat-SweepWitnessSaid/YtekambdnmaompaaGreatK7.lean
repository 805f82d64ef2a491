/- Contract: Witness, where something is not right. -/
import Derived.Test.YtekambdnmaompaaGreatK6
namespace Go.Proofs.YtekambdnmaompaaGreat.SW
set_option linter.unusedVariables false
set_option linter.unusedSimpArgs false
open Go.RowKit

set_option maxRecDepth 100000 in
set_option maxHeartbeats 8000000 in
theorem Witness_no (A A2 : Option Addr) (c c2 : Nat) (p : Pl) (r r2 : Int) (w : World) (hP : PlAt w w.heap.size A c A2 c2 p) (hno : ¬ (Vld p ∧ railIn p r = true ∧ railIn p r2 = true)) :
    Calls Tryz.prog 36 #[.agg #[.slice A p.nodes.length c, .slice A2 p.rails.length c2], .int .i64 r, .int .i64 r2] w fun e w' => e = .returned (.tuple #[.agg #[.int .i64 0, .int .i64 0], .agg #[.int .i64 0, .int .i64 0], .int .i64 0, .int .i64 2]) ∧ Below w.heap.size w w' := by
  have hb3 := ((Below.refl _ w).alloc (Nat.le_refl _) (.cells #[.slice A p.nodes.length c, .slice A2 p.rails.length c2] 25)).alloc (by simp) (.cells #[.int .i64 0, .int .i64 0] 34) |>.alloc (by simp; omega) (.cells #[.int .i64 0, .int .i64 0] 34)
  obtain ⟨q1, q2, q3⟩ := rows3 w #[.slice A p.nodes.length c, .slice A2 p.rails.length c2] #[.int .i64 0, .int .i64 0] #[.int .i64 0, .int .i64 0] 25 34 34
  have hz1 : (((w.alloc (.cells #[.slice A p.nodes.length c, .slice A2 p.rails.length c2] 25)).alloc (.cells #[.int .i64 0, .int .i64 0] 34)).alloc (.cells #[.int .i64 0, .int .i64 0] 34)).heap.size = w.heap.size + 3 := by simp
  obtain ⟨W1, hW1⟩ : ∃ z, (((w.alloc (.cells #[.slice A p.nodes.length c, .slice A2 p.rails.length c2] 25)).alloc (.cells #[.int .i64 0, .int .i64 0] 34)).alloc (.cells #[.int .i64 0, .int .i64 0] 34)) = z := ⟨_, rfl⟩
  rw [hW1] at hb3 q1 q2 q3 hz1
  have HB1 := Lib.hid hb3
  have HB0 := Lib.hid (Below.refl W1.heap.size W1)
  have HR := Lib.hid (show ∀ wx, Below W1.heap.size W1 wx → Rw wx w.heap.size 25 #[.slice A p.nodes.length c, .slice A2 p.rails.length c2] ∧ Rw wx (w.heap.size + 1) 34 #[.int .i64 0, .int .i64 0] ∧ Rw wx (w.heap.size + 1 + 1) 34 #[.int .i64 0, .int .i64 0] from fun wx h => ⟨q1.below h (by omega), q2.below h (by omega), q3.below h (by omega)⟩)
  have HPB := Lib.hid (show ∀ wx, Below W1.heap.size W1 wx → PlAt wx wx.heap.size A c A2 c2 p from fun wx h => ((hP.below hb3).below (h.mono hb3.size)).more (Nat.le_trans hb3.size h.size))
  have HCK := Lib.hid (show ∀ wx, Below W1.heap.size W1 wx → Calls Tryz.prog 48 #[.agg #[.slice A p.nodes.length c, .slice A2 p.rails.length c2]] wx (CheckPost p wx) from fun wx hx => Check_any A A2 c c2 p wx (HPB.out wx hx))
  have HH1 := Lib.hid (show ∀ wx, Below W1.heap.size W1 wx → Calls Tryz.prog 49 #[.agg #[.slice A p.nodes.length c, .slice A2 p.rails.length c2], .int .i64 r] wx fun e w' => e = .returned (.bool (railIn p r)) ∧ Below wx.heap.size wx w' from fun wx hx => hasRail2_any A A2 c c2 p r wx (HPB.out wx hx))
  have HH2 := Lib.hid (show ∀ wx, Below W1.heap.size W1 wx → Calls Tryz.prog 49 #[.agg #[.slice A p.nodes.length c, .slice A2 p.rails.length c2], .int .i64 r2] wx fun e w' => e = .returned (.bool (railIn p r2)) ∧ Below wx.heap.size wx w' from fun wx hx => hasRail2_any A A2 c c2 p r2 wx (HPB.out wx hx))
  have HNO := Lib.hid hno
  have e0 := q1.cell 0; have e1 := q1.cell 1
  clear hb3 q1 q2 q3 hP hz1 hno
  go_enter Tryz.func36, Tryz.ntmps36
  go_wp2_with fail
  refine (HCK.out _ HB0.out).mono ?_
  rintro e w2 ⟨h, hb2⟩
  have HB2 := Lib.hid hb2
  obtain ⟨r1, r2', r3⟩ := HR.out _ HB2.out
  have e0 := r1.cell 0; have e1 := r1.cell 1
  rcases h with ⟨hV, rfl⟩ | ⟨hV, rfl⟩
  case inr =>
    have e2 := r2'.cell 0; have e3 := r2'.cell 1; have e4 := r3.cell 0; have e5 := r3.cell 1
    have hf2 := r2'.frozen; have hf3 := r3.frozen
    have HQ := Lib.hid (And.intro r2' r3)
    clear r1 r2' r3 hW1 hb2
    go_wp2
    (try simp only [Exit.inBlock, Exit.then])
    exact bodyPost_ret (res_cctt rfl _ _ _ _ _ _ _ _ _ _ _ _ rfl rfl rfl rfl (HQ.out.1.set2.far2 (by omega)) ((HQ.out.2.far2 (by omega)).set2) Tryz.underlying34 rfl (by kernel_rfl) Tryz.underlying34 rfl (by kernel_rfl)) rfl ⟨rfl, by
      have hbb := HB1.out.trans (HB2.out.mono HB1.out.size)
      exact (((hbb.setCell (show w.heap.size ≤ w.heap.size + 1 by omega) _).setCell (show w.heap.size ≤ w.heap.size + 1 by omega) _).setCell (show w.heap.size ≤ w.heap.size + 1 + 1 by omega) _).setCell (show w.heap.size ≤ w.heap.size + 1 + 1 by omega) _⟩
  have HV := Lib.hid hV
  clear r1 r2' r3 hW1 hb2 hV
  go_wp2_with fail
  refine (HH1.out _ HB2.out).mono ?_
  rintro e w3 ⟨rfl, hb3⟩
  have HB3 := Lib.hid (HB2.out.trans (hb3.mono HB2.out.size))
  obtain ⟨r1, r2', r3⟩ := HR.out _ HB3.out
  have e0 := r1.cell 0; have e1 := r1.cell 1
  have e2 := r2'.cell 0; have e3 := r2'.cell 1; have e4 := r3.cell 0; have e5 := r3.cell 1
  have hf2 := r2'.frozen; have hf3 := r3.frozen
  have HQ := Lib.hid (And.intro r2' r3)
  clear hb3 r1 r2' r3
  cases hri : railIn p r with
  | false =>
    clear hri
    go_wp2
    (try simp only [Exit.inBlock, Exit.then])
    exact bodyPost_ret (res_cctt rfl _ _ _ _ _ _ _ _ _ _ _ _ rfl rfl rfl rfl (HQ.out.1.set2.far2 (by omega)) ((HQ.out.2.far2 (by omega)).set2) Tryz.underlying34 rfl (by kernel_rfl) Tryz.underlying34 rfl (by kernel_rfl)) rfl ⟨rfl, by
      have hbb := HB1.out.trans (HB3.out.mono HB1.out.size)
      exact (((hbb.setCell (show w.heap.size ≤ w.heap.size + 1 by omega) _).setCell (show w.heap.size ≤ w.heap.size + 1 by omega) _).setCell (show w.heap.size ≤ w.heap.size + 1 + 1 by omega) _).setCell (show w.heap.size ≤ w.heap.size + 1 + 1 by omega) _⟩
  | true =>
    have HRI := Lib.hid hri
    clear hri HQ e2 e3 e4 e5 hf2 hf3
    go_wp2_with fail
    refine (HH2.out _ HB3.out).mono ?_
    rintro e w4 ⟨rfl, hb4⟩
    have HB4 := Lib.hid (HB3.out.trans (hb4.mono HB3.out.size))
    obtain ⟨r1, r2', r3⟩ := HR.out _ HB4.out
    have e0 := r1.cell 0; have e1 := r1.cell 1
    have e2 := r2'.cell 0; have e3 := r2'.cell 1; have e4 := r3.cell 0; have e5 := r3.cell 1
    have hf2 := r2'.frozen; have hf3 := r3.frozen
    have HQ := Lib.hid (And.intro r2' r3)
    clear hb4 r1 r2' r3
    cases hrj : railIn p r2 with
    | false =>
      clear hrj
      go_wp2
      (try simp only [Exit.inBlock, Exit.then])
      exact bodyPost_ret (res_cctt rfl _ _ _ _ _ _ _ _ _ _ _ _ rfl rfl rfl rfl (HQ.out.1.set2.far2 (by omega)) ((HQ.out.2.far2 (by omega)).set2) Tryz.underlying34 rfl (by kernel_rfl) Tryz.underlying34 rfl (by kernel_rfl)) rfl ⟨rfl, by
        have hbb := HB1.out.trans (HB4.out.mono HB1.out.size)
        exact (((hbb.setCell (show w.heap.size ≤ w.heap.size + 1 by omega) _).setCell (show w.heap.size ≤ w.heap.size + 1 by omega) _).setCell (show w.heap.size ≤ w.heap.size + 1 + 1 by omega) _).setCell (show w.heap.size ≤ w.heap.size + 1 + 1 by omega) _⟩
    | true => exact absurd ⟨HV.out, HRI.out, hrj⟩ HNO.out
end Go.Proofs.YtekambdnmaompaaGreat.SW
