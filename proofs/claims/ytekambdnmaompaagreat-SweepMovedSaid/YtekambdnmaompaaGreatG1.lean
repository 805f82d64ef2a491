/- Contracts: survey: the network of a plan, and whether the plan is valid. -/
import Derived.Test.YtekambdnmaompaaGreatF2
import Derived.Test.YtekambdnmaompaaGreatNw
namespace Go.Proofs.YtekambdnmaompaaGreat
set_option linter.unusedVariables false
set_option linter.unusedSimpArgs false
open Go.RowKit

structure SurvPost (p : Pl) (w : World) (e : Ending) (w' : World) : Prop where
  be : Below w.heap.size w w'
  res : (¬ Vld p ∧ e = .returned (.tuple #[.pointer none, .bool false])) ∨ (Vld p ∧ ∃ g, e = .returned (.tuple #[.pointer (some ⟨g, 0, none⟩), .bool true]) ∧ w.heap.size ≤ g ∧ Nw w' w'.heap.size g p)

theorem Gr.row {g b : Nat} {w w' : World} {l : List Int} (h : Gr g w w') (hr : IRow w b l) (hb : b ≠ g) : IRow w' b l :=
  hr.of (h.block b hr.lt (by intro e; exact hb (Option.some.inj e)))

set_option maxRecDepth 100000 in
set_option maxHeartbeats 4000000 in
theorem survey_any (A A2 : Option Addr) (c c2 : Nat) (p : Pl) (w : World) (hP : PlAt w w.heap.size A c A2 c2 p) :
    Calls Tryz.prog 59 #[.agg #[.slice A p.nodes.length c, .slice A2 p.rails.length c2]] w (SurvPost p w) := by
  have HN := Lib.hid (show Net ((w.alloc (.cells #[.slice A p.nodes.length c, .slice A2 p.rails.length c2] 25)).alloc (.cells #[.slice A p.nodes.length c, .slice A2 p.rails.length c2, .slice none 0 0, .slice none 0 0, .slice none 0 0, .slice none 0 0] 118)) (w.heap.size + 1) A c A2 c2 p (.slice none 0 0) (.slice none 0 0) (.slice none 0 0) (.slice none 0 0) from
    ⟨by have := heap_alloc_new (w.alloc (.cells #[.slice A p.nodes.length c, .slice A2 p.rails.length c2] 25)) (.cells #[.slice A p.nodes.length c, .slice A2 p.rails.length c2, .slice none 0 0, .slice none 0 0, .slice none 0 0, .slice none 0 0] 118); simpa using this,
     (hP.below (((Below.refl _ w).alloc (Nat.le_refl _) _).alloc (by simp) _)).more (by omega)⟩)
  have hb0 : Below w.heap.size w ((w.alloc (.cells #[.slice A p.nodes.length c, .slice A2 p.rails.length c2] 25)).alloc (.cells #[.slice A p.nodes.length c, .slice A2 p.rails.length c2, .slice none 0 0, .slice none 0 0, .slice none 0 0, .slice none 0 0] 118)) :=
    ((Below.refl _ w).alloc (Nat.le_refl _) _).alloc (by simp) _
  have HB0 := Lib.hid hb0
  clear hb0 hP
  obtain ⟨W1, hW1⟩ : ∃ W1, ((w.alloc (.cells #[.slice A p.nodes.length c, .slice A2 p.rails.length c2] 25)).alloc (.cells #[.slice A p.nodes.length c, .slice A2 p.rails.length c2, .slice none 0 0, .slice none 0 0, .slice none 0 0, .slice none 0 0] 118)) = W1 := ⟨_, rfl⟩
  go_enter Tryz.func59, Tryz.ntmps59
  go_wp2_with fail
  rw [hW1] at HN HB0
  clear hW1
  refine (sizesRight_any _ A A2 c c2 p _ _ _ _ _ HN.out).mono ?_
  rintro e w1 ⟨rfl, hb1⟩
  have HN1 := Lib.hid (HN.out.below hb1 HN.out.lt)
  have HB1 := Lib.hid (HB0.out.trans (hb1.mono HB0.out.size))
  clear hb1 HN HB0
  cases hs : sizesB p
  · have HV := Lib.hid (show ¬ Vld p from fun h => by have := h.sizes; rw [hs] at this; cases this)
    go_wp2
    go_ret2
    exact ⟨HB1.out, .inl ⟨HV.out, rfl⟩⟩
  have HS := Lib.hid hs; clear hs
  go_wp2_with fail
  refine (nodesRight_any _ A A2 c c2 p _ _ _ _ _ HN1.out).mono ?_
  rintro e w2 ⟨rfl, hb2⟩
  have HN2 := Lib.hid (HN1.out.below hb2 HN1.out.lt)
  have HB2 := Lib.hid (HB1.out.trans (hb2.mono HB1.out.size))
  clear hb2 HN1 HB1
  cases hn : p.nodes.all nodeB
  · have HV := Lib.hid (show ¬ Vld p from fun h => by have := h.nodes; rw [hn] at this; cases this)
    go_wp2
    go_ret2
    exact ⟨HB2.out, .inl ⟨HV.out, rfl⟩⟩
  have HNo := Lib.hid hn; clear hn
  have hm400 : p.rails.length ≤ 400 := by have := of_decide_eq_true HS.out; omega
  have hn300 : p.nodes.length ≤ 300 := by have := of_decide_eq_true HS.out; omega
  go_wp2_with fail
  refine (railsRight_any _ A A2 c c2 p _ _ _ _ _ HN2.out (spots_ok HNo.out) hm400).mono ?_
  rintro e w3 ⟨rfl, hg3, lb, hlb, hN3, hR3⟩
  have HB3 := Lib.hid (HB2.out.trans (hg3.toBelow (by have := HN2.out.lt; omega) |>.mono (by omega)))
  have hgl : w.heap.size + 1 < w2.heap.size := HN2.out.lt
  have HG3 := Lib.hid hg3
  cases hr : railsB p
  · have HV := Lib.hid (show ¬ Vld p from fun h => by have := h.rails; rw [hr] at this; cases this)
    clear hR3 hN3 hg3
    go_wp2
    go_ret2
    exact ⟨HB3.out, .inl ⟨HV.out, rfl⟩⟩
  have HR3 := Lib.hid (hR3 hr)
  have HRr := Lib.hid hr
  have HN3 := Lib.hid hN3
  clear hr hR3 hN3 hg3
  go_wp2_with fail
  refine (endsRight_any _ A A2 c c2 p _ _ _ _ _ HN3.out (ends_le4 HNo.out) hm400 hn300).mono ?_
  rintro e w4 ⟨⟨r, rfl, hrk, sb, hsb, hN4, hS4⟩, hg4⟩
  have hz3 : w2.heap.size ≤ w3.heap.size := HG3.out.size
  have HB4 := Lib.hid (HB3.out.trans ((hg4.toBelow (by omega)).mono (by omega)))
  have hlb2 : w.heap.size + 1 ≠ lb := by omega
  have HR4 := Lib.hid (hg4.row HR3.out (by omega))
  have HG4 := Lib.hid hg4
  clear hg4
  cases r
  · have HV := Lib.hid (show ¬ Vld p from fun h => by have := hrk.2 h.ends; cases this)
    clear hrk hS4 hN4
    go_wp2
    go_ret2
    exact ⟨HB4.out, .inl ⟨HV.out, rfl⟩⟩
  have HV := Lib.hid (show Vld p from ⟨HS.out, HNo.out, HRr.out, hrk.1 rfl⟩)
  have HS4 := Lib.hid (hS4 rfl)
  have HN4 := Lib.hid hN4
  clear hrk hS4 hN4
  go_wp2_with fail
  refine (link_any _ sb A A2 c c2 p _ _ _ _ HV.out HN4.out HS4.out (by omega)).mono ?_
  rintro e w5 ⟨rfl, hg5, vs, us, hrw, hN5⟩
  have hz4 : w3.heap.size ≤ w4.heap.size := HG4.out.size
  have hz5 : w4.heap.size ≤ w5.heap.size := hg5.size
  have HB5 := Lib.hid (HB4.out.trans ((hg5.toBelow (by omega)).mono (by omega)))
  have HQ := Lib.hid (show Nw w5 w5.heap.size (w.heap.size + 1) p from
    ⟨HV.out, by omega, A, c, A2, c2, lb, sb, _, _, hN5, Nat.lt_of_lt_of_le HR4.out.lt hz5, Nat.lt_of_lt_of_le HS4.out.lt hz5, hg5.row HR4.out (by omega), hg5.row HS4.out (by omega), SlRow.of hrw.nk hrw.nl (Nat.le_refl _) hrw.fo, SlRow.of hrw.bk hrw.bl (Nat.le_refl _) hrw.ho⟩)
  clear hg5 hrw hN5
  go_wp2
  go_ret2
  exact ⟨HB5.out, .inr ⟨HV.out, _, rfl, by omega, HQ.out⟩⟩
end Go.Proofs.YtekambdnmaompaaGreat
