/- Contract: Zone, in all cases. -/
import Derived.Test.YtekambdnmaompaaGreatK10
import Derived.Test.YtekambdnmaompaaGreatJ5
namespace Go.Proofs.YtekambdnmaompaaGreat.SW
set_option linter.unusedVariables false
set_option linter.unusedSimpArgs false
open Go.RowKit

theorem right4 (hx sx hy sy : Int) (wx : World) : Calls Tryz.prog 66 #[.slice (some ⟨wx.heap.size, 0, none⟩) 2 2] (wx.alloc (.cells #[.int .i64 hx, .int .i64 sx, .int .i64 hy, .int .i64 sy] 46)) fun e w' => e = .returned (.bool (prB ⟨hx, sx⟩ && prB ⟨hy, sy⟩)) ∧ Below (wx.heap.size + 1) (wx.alloc (.cells #[.int .i64 hx, .int .i64 sx, .int .i64 hy, .int .i64 sy] 46)) w' := by
  have h := right_any (some ⟨wx.heap.size, 0, none⟩) 2 2 [⟨hx, sx⟩, ⟨hy, sy⟩] (wx.alloc (.cells #[.int .i64 hx, .int .i64 sx, .int .i64 hy, .int .i64 sy] 46)) rfl (by omega) (by have := Sl.two wx 46 hx sx hy sy; simpa using this)
  simpa using h
theorem Zone_yes (A A2 : Option Addr) (c c2 : Nat) (p : Pl) (r r2 m m2 : Nat) (L L2 : List S) (hx sx hy sy : Int) (w : World) (hP : PlAt w w.heap.size A c A2 c2 p) (hV : Vld p) (h : RlOk p r L) (h2 : RlOk p r2 L2) (hm : L.length = m + 1) (hm2 : L2.length = m2 + 1) (hX : Pr hx sx) (hY : Pr hy sy) (hpx : (prB ⟨hx, sx⟩ && prB ⟨hy, sy⟩) = true) :
    Calls Tryz.prog 38 #[.agg #[.slice A p.nodes.length c, .slice A2 p.rails.length c2], .int .i64 (r : Int), .agg #[.int .i64 hx, .int .i64 sx], .int .i64 (r2 : Int), .agg #[.int .i64 hy, .int .i64 sy]] w fun e w' => ∃ v, e = .returned (.tuple #[v, .int .i64 0]) ∧ Own w' w.heap.size 79 3 fC v (zoneL r L (fun k => (List.range m2).any fun j => foulB (stripAt r L k) (stripAt r2 L2 j) hx sx hy sy) m) ∧ Below w.heap.size w w' := by
  have hh := Zone_core A A2 c c2 p r r2 m m2 L L2 hx sx hy sy w hP h h2 hm hm2 hX hY hpx (fun wx hw => (Check_any A A2 c c2 p wx hw).mono (by
    rintro e w' ⟨h, hb⟩
    rcases h with ⟨_, rfl⟩ | ⟨hn, rfl⟩
    · exact ⟨rfl, hb⟩
    · exact absurd hV hn)) (fun wx => by have := right4 hx sx hy sy wx; rwa [hpx] at this)
  have e : (fun k => (alongL r2 L2).any fun y => foulB (stripAt r L k) y hx sx hy sy) = fun k => (List.range m2).any fun j => foulB (stripAt r L k) (stripAt r2 L2 j) hx sx hy sy := by
    funext k
    unfold alongL
    rw [List.any_map, show L2.length - 1 = m2 by omega]
    rfl
  rw [e] at hh
  exact hh
set_option maxRecDepth 100000 in
set_option maxHeartbeats 8000000 in
theorem Zone_no (A A2 : Option Addr) (c c2 : Nat) (p : Pl) (r r2 : Int) (hx sx hy sy : Int) (w : World) (hP : PlAt w w.heap.size A c A2 c2 p) (hno : ¬ (Vld p ∧ railIn p r = true ∧ railIn p r2 = true ∧ (prB ⟨hx, sx⟩ && prB ⟨hy, sy⟩) = true)) :
    Calls Tryz.prog 38 #[.agg #[.slice A p.nodes.length c, .slice A2 p.rails.length c2], .int .i64 r, .agg #[.int .i64 hx, .int .i64 sx], .int .i64 r2, .agg #[.int .i64 hy, .int .i64 sy]] w fun e w' => e = .returned (.tuple #[.slice none 0 0, .int .i64 2]) ∧ Below w.heap.size w w' := by
  have hb3 := (((Below.refl _ w).alloc (Nat.le_refl _) (.cells #[.slice A p.nodes.length c, .slice A2 p.rails.length c2] 25)).alloc (by simp) (.cells #[.int .i64 hx, .int .i64 sx] 46)).alloc (by simp; omega) (.cells #[.int .i64 hy, .int .i64 sy] 46)
  obtain ⟨q1, q2, q3⟩ := rows3 w #[.slice A p.nodes.length c, .slice A2 p.rails.length c2] #[.int .i64 hx, .int .i64 sx] #[.int .i64 hy, .int .i64 sy] 25 46 46
  have hz1 : (((w.alloc (.cells #[.slice A p.nodes.length c, .slice A2 p.rails.length c2] 25)).alloc (.cells #[.int .i64 hx, .int .i64 sx] 46)).alloc (.cells #[.int .i64 hy, .int .i64 sy] 46)).heap.size = w.heap.size + 3 := by simp
  obtain ⟨W1, hW1⟩ : ∃ z, (((w.alloc (.cells #[.slice A p.nodes.length c, .slice A2 p.rails.length c2] 25)).alloc (.cells #[.int .i64 hx, .int .i64 sx] 46)).alloc (.cells #[.int .i64 hy, .int .i64 sy] 46)) = z := ⟨_, rfl⟩
  rw [hW1] at hb3 q1 q2 q3 hz1
  have HB1 := Lib.hid hb3
  have HB0 := Lib.hid (Below.refl W1.heap.size W1)
  have HR := Lib.hid (show ∀ wx, Below W1.heap.size W1 wx → Rw wx w.heap.size 25 #[.slice A p.nodes.length c, .slice A2 p.rails.length c2] ∧ Rw wx (w.heap.size + 1) 46 #[.int .i64 hx, .int .i64 sx] ∧ Rw wx (w.heap.size + 1 + 1) 46 #[.int .i64 hy, .int .i64 sy] from fun wx h => ⟨q1.below h (by omega), q2.below h (by omega), q3.below h (by omega)⟩)
  have HPB := Lib.hid (show ∀ wx, Below W1.heap.size W1 wx → PlAt wx wx.heap.size A c A2 c2 p from fun wx h => ((hP.below hb3).below (h.mono hb3.size)).more (Nat.le_trans hb3.size h.size))
  have HCK := Lib.hid (show ∀ wx, Below W1.heap.size W1 wx → Calls Tryz.prog 48 #[.agg #[.slice A p.nodes.length c, .slice A2 p.rails.length c2]] wx (CheckPost p wx) from fun wx hw => Check_any A A2 c c2 p wx (HPB.out wx hw))
  have HH1 := Lib.hid (show ∀ wx, Below W1.heap.size W1 wx → Calls Tryz.prog 49 #[.agg #[.slice A p.nodes.length c, .slice A2 p.rails.length c2], .int .i64 r] wx fun e w' => e = .returned (.bool (railIn p r)) ∧ Below wx.heap.size wx w' from fun wx hw => hasRail2_any A A2 c c2 p r wx (HPB.out wx hw))
  have HH2 := Lib.hid (show ∀ wx, Below W1.heap.size W1 wx → Calls Tryz.prog 49 #[.agg #[.slice A p.nodes.length c, .slice A2 p.rails.length c2], .int .i64 r2] wx fun e w' => e = .returned (.bool (railIn p r2)) ∧ Below wx.heap.size wx w' from fun wx hw => hasRail2_any A A2 c c2 p r2 wx (HPB.out wx hw))
  have HRT := Lib.hid (fun wx => right4 hx sx hy sy wx)
  have HNO := Lib.hid hno
  have e0 := q1.cell 0; have e1 := q1.cell 1
  clear hb3 q1 q2 q3 hP hz1 hno
  go_enter Tryz.func38, Tryz.ntmps38
  go_wp2_with fail
  refine (HCK.out _ HB0.out).mono ?_
  rintro e w2 ⟨h, hb2⟩
  have HB2 := Lib.hid hb2
  obtain ⟨r1, r2', r3⟩ := HR.out _ HB2.out
  have e0 := r1.cell 0; have e1 := r1.cell 1
  clear r1 r2' r3 hb2 hW1
  rcases h with ⟨hV, rfl⟩ | ⟨hV, rfl⟩
  case inr =>
    clear hV
    go_wp2
    go_ret2
    exact ⟨rfl, HB1.out.trans (HB2.out.mono HB1.out.size)⟩
  have HV := Lib.hid hV
  clear hV
  go_wp2_with fail
  refine (HH1.out _ HB2.out).mono ?_
  rintro e w3 ⟨rfl, hb3⟩
  have HB3 := Lib.hid (HB2.out.trans (hb3.mono HB2.out.size))
  obtain ⟨r1, r2', r3⟩ := HR.out _ HB3.out
  have e0 := r1.cell 0; have e1 := r1.cell 1
  clear hb3 r1 r2' r3
  cases hri : railIn p r with
  | false =>
    clear hri
    go_wp2
    go_ret2
    exact ⟨rfl, HB1.out.trans (HB3.out.mono HB1.out.size)⟩
  | true =>
    have HRI := Lib.hid hri
    clear hri
    go_wp2_with fail
    refine (HH2.out _ HB3.out).mono ?_
    rintro e w4 ⟨rfl, hb4⟩
    have HB4 := Lib.hid (HB3.out.trans (hb4.mono HB3.out.size))
    obtain ⟨r1, r2', r3⟩ := HR.out _ HB4.out
    have e2 := r2'.cell 0; have e3 := r2'.cell 1; have e4 := r3.cell 0; have e5 := r3.cell 1
    clear hb4 r1 r2' r3
    cases hrj : railIn p r2 with
    | false =>
      clear hrj
      go_wp2
      go_ret2
      exact ⟨rfl, HB1.out.trans (HB4.out.mono HB1.out.size)⟩
    | true =>
      have HRJ := Lib.hid hrj
      clear hrj
      go_wp2_with fail
      refine (HRT.out _).mono ?_
      rintro e w5 ⟨rfl, hb5⟩
      have HB5 := Lib.hid ((HB4.out.alloc HB4.out.size _).trans (hb5.mono (by have := HB4.out.size; omega)))
      clear hb5
      cases hpr : (prB ⟨hx, sx⟩ && prB ⟨hy, sy⟩) with
      | true => exact absurd ⟨HV.out, HRI.out, HRJ.out, hpr⟩ HNO.out
      | false =>
        clear hpr
        go_wp2
        go_ret2
        exact ⟨rfl, HB1.out.trans (HB5.out.mono HB1.out.size)⟩
end Go.Proofs.YtekambdnmaompaaGreat.SW
