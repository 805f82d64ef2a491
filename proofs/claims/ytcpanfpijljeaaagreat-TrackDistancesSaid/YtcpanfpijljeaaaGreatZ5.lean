/- Contracts of the specification: Between, where the second move follows the first; Next, which answers what the program's Next answers. -/
import Derived.Test.YtcpanfpijljeaaaGreatZ3
namespace Go.Proofs.YtcpanfpijljeaaaGreat
set_option linter.unusedVariables false
set_option linter.unusedSimpArgs false
open Go.RowKit

theorem set2z {w : World} {K : Nat} {a b x y : Value} (e0 : w.cell? ⟨K, 0, none⟩ = some a) (e1 : w.cell? ⟨K, 1, none⟩ = some b) :
    ((w.setCell ⟨K, 0, none⟩ x).setCell ⟨K, 1, none⟩ y).cell? ⟨K, 0, none⟩ = some x ∧ ((w.setCell ⟨K, 0, none⟩ x).setCell ⟨K, 1, none⟩ y).cell? ⟨K, 1, none⟩ = some y :=
  ⟨by simp [go_sem, e0], by simp [go_sem, e1]⟩
theorem far2 {w : World} {K : Nat} {x y : Value} {a : Addr} {v : Option Value} (h : w.cell? a = v) (hne : K ≠ a.block) : ((w.setCell ⟨K, 0, none⟩ x).setCell ⟨K, 1, none⟩ y).cell? a = v :=
  ((World.cell?_setCell_far _ _ _ _ hne).trans (World.cell?_setCell_far _ _ _ _ hne)).trans h
theorem set_ref {p : Pl} (hV : Vld p) {m n : E} (hm : railIn p m.rail = true) (hn : railIn p n.rail = true) (hf : folB p (keyE m) (endNo n) = true) :
    ∃ i : Nat, ∃ hi : i < p.nodes.length, ∃ a b : Nat, a ≤ 3 ∧ b ≤ 3 ∧ nodeAtZ p (endNo (opE m)) = i ∧ slAt p (keyE (opE m)) = a ∧ nodeAtZ p (endNo n) = i ∧ slAt p (keyE n) = b ∧
      settingV p (keyE m) (keyE n) = if p.nodes[i].kind = 4 then .tuple #[.agg #[.int .i64 (i : Int), .int .i64 (max (a : Int) (b : Int))], .bool true] else .tuple #[.agg #[.int .i64 0, .int .i64 0], .bool false] := by
  obtain ⟨i, hi, a, ha, h1, h2, h3, ⟨h4, b, hb, h5, _⟩ | ⟨_, h4⟩⟩ := fol_ref hV hm hn
  · refine ⟨i, hi, a, b, ha, hb, h1, h2, h4, h5, ?_⟩
    have h6 : nodeAtZ p ((flip (keyE m) : Nat) : Int) = i := by rw [← (op_in hm).2]; exact h1
    rw [(op_in hm).1] at h2
    unfold settingV setZ
    rw [h3, h6, h2, h5, show (if (b : Int) > (a : Int) then (b : Int) else (a : Int)) = max (a : Int) (b : Int) by rw [Int.max_def]; split <;> split <;> omega]
  · rw [hf] at h4; cases h4

set_option maxRecDepth 100000 in
set_option maxHeartbeats 4000000 in
theorem rBetween_any (A A2 : Option Addr) (c c2 : Nat) (p : Pl) (m n : E) (w : World) (hP : PlAt w w.heap.size A c A2 c2 p) (hv : Vld p) (hm : railIn p m.rail = true) (hn : railIn p n.rail = true) (hf : folB p (keyE m) (endNo n) = true) :
    Calls Tryz.prog 64 #[.agg #[.slice A p.nodes.length c, .slice A2 p.rails.length c2], .agg #[.int .i64 m.rail, .bool m.last], .agg #[.int .i64 n.rail, .bool n.last]] w fun e w' => e = .returned (settingV p (keyE m) (keyE n)) ∧ Below w.heap.size w w' := by
  obtain ⟨i, hi, a, b, ha3, hb3, hnd, hsl, hnd2, hsl2, hset⟩ := set_ref hv hm hn hf
  have hm0 := (key_in hm).1
  have hm1 : m.rail < p.rails.length := (of_decide_eq_true hm).2
  have HC43 := Lib.hid (show ∀ w, PlAt w w.heap.size A c A2 c2 p → Calls Tryz.prog 45 #[.agg #[.slice A p.nodes.length c, .slice A2 p.rails.length c2], .agg #[.int .i64 m.rail, .bool !m.last]] w fun e w' => e = .returned (.int .i64 (i : Int)) ∧ Below w.heap.size w w' from fun w hP => by
    have := at_any A A2 c c2 p (opE m) w hP hm0 hm1
    rw [show atZ p (opE m) = (i : Int) by rw [← hnd]; exact (nodeAtZ_end p (opE m) hm0).symm] at this
    exact this)
  have HC53a := Lib.hid (show ∀ (AN : Option Addr) (cN : Nat) (w : World), Sl w w.heap.size 2 CE AN p.nodes[i].ends → p.nodes[i].ends.length ≤ 140737488351232 → Calls Tryz.prog 90 #[.agg #[.int .i64 p.nodes[i].spot.x, .int .i64 p.nodes[i].spot.y, .int .i64 p.nodes[i].kind, .slice AN p.nodes[i].ends.length cN, .int .i64 p.nodes[i].normal], .agg #[.int .i64 m.rail, .bool !m.last]] w fun e w' => e = .returned (.int .i64 (a : Int)) ∧ Below w.heap.size w w' from fun AN cN w hS hl =>
    (rindex_any AN p.nodes[i].ends cN p.nodes[i].spot.x p.nodes[i].spot.y p.nodes[i].kind p.nodes[i].normal m.rail (!m.last) w hS hl).mono fun e w' ⟨⟨r, h1, h2⟩, h3⟩ => by
      have h4 := ix_at hv.ends hi (e := opE m) hm h2
      rw [if_pos hnd, hsl] at h4
      exact ⟨by rw [h1, h4], h3⟩)
  have HC53b := Lib.hid (show ∀ (AN : Option Addr) (cN : Nat) (w : World), Sl w w.heap.size 2 CE AN p.nodes[i].ends → p.nodes[i].ends.length ≤ 140737488351232 → Calls Tryz.prog 90 #[.agg #[.int .i64 p.nodes[i].spot.x, .int .i64 p.nodes[i].spot.y, .int .i64 p.nodes[i].kind, .slice AN p.nodes[i].ends.length cN, .int .i64 p.nodes[i].normal], .agg #[.int .i64 n.rail, .bool n.last]] w fun e w' => e = .returned (.int .i64 (b : Int)) ∧ Below w.heap.size w w' from fun AN cN w hS hl =>
    (rindex_any AN p.nodes[i].ends cN p.nodes[i].spot.x p.nodes[i].spot.y p.nodes[i].kind p.nodes[i].normal n.rail n.last w hS hl).mono fun e w' ⟨⟨r, h1, h2⟩, h3⟩ => by
      have h4 := ix_at hv.ends hi (e := n) hn h2
      rw [if_pos hnd2, hsl2] at h4
      exact ⟨by rw [h1, h4], h3⟩)
  have H1 := Lib.hid ((G3st.start m n hP).next ((Below.refl _ _).alloc (Nat.le_refl _) (.cells #[.int .i64 0, .int .i64 0] 38)))
  have HI := Lib.hid hi
  have HK4 := Lib.hid hset
  clear hP hv hm hn hnd hsl hnd2 hsl2 hm0 hm1 hset hf
  go_enter Tryz.func64, Tryz.ntmps64
  go_upto_region 1 with (fail)
  obtain ⟨k0, k1, m0, m1, n0, n1, _, _, hz2⟩ := H1.out
  have hr := fun j => box_cells4 w #[.slice A p.nodes.length c, .slice A2 p.rails.length c2] #[.int .i64 m.rail, .bool m.last] #[.int .i64 n.rail, .bool n.last] #[.int .i64 0, .int .i64 0] 25 27 27 38 j
  have r0 := (hr 0).2.2.1; have r1 := (hr 1).2.2.1; have f0 := (hr 0).2.2.2; have f1 := (hr 1).2.2.2
  simp only [List.getElem?_toArray, List.getElem?_cons_zero, List.getElem?_cons_succ] at r0 r1
  have hz3 : w.heap.size + 1 + 1 + 1 < ((((w.alloc (.cells #[.slice A p.nodes.length c, .slice A2 p.rails.length c2] 25)).alloc (.cells #[.int .i64 m.rail, .bool m.last] 27)).alloc (.cells #[.int .i64 n.rail, .bool n.last] 27)).alloc (.cells #[.int .i64 0, .int .i64 0] 38)).heap.size := by simp
  clear hr
  generalize ((((w.alloc (.cells #[.slice A p.nodes.length c, .slice A2 p.rails.length c2] 25)).alloc (.cells #[.int .i64 m.rail, .bool m.last] 27)).alloc (.cells #[.int .i64 n.rail, .bool n.last] 27)).alloc (.cells #[.int .i64 0, .int .i64 0] 38)) = w4 at *
  have hz1 : w.heap.size + 1 < w4.heap.size := by omega
  have hz0 : w.heap.size < w4.heap.size := by omega
  go_cut [8] (fun s7 wx => s7 = .int .i64 (i : Int) ∧ Below w4.heap.size w4 wx)
  case first =>
    have hbq : Below w4.heap.size w4 w4.drew := (Below.refl _ _).drew
    first
      | (go_region_held3 (fun w' => w'.cell? ⟨w.heap.size, 0, none⟩ = some (.slice A p.nodes.length c) ∧ w'.cell? ⟨w.heap.size, 1, none⟩ = some (.slice A2 p.rails.length c2) ∧ w'.cell? ⟨w.heap.size + 1, 0, none⟩ = some (.int .i64 m.rail) ∧ w'.cell? ⟨w.heap.size + 1, 1, none⟩ = some (.bool m.last))
          (exact ⟨(hbq.cell (p := ⟨w.heap.size, 0, none⟩) hz0).trans k0, (hbq.cell (p := ⟨w.heap.size, 1, none⟩) hz0).trans k1, (hbq.cell (p := ⟨w.heap.size + 1, 0, none⟩) hz1).trans m0, (hbq.cell (p := ⟨w.heap.size + 1, 1, none⟩) hz1).trans m1⟩)
          ((first
            | (go_at_call 89; refine (arrives_any _ _ _).mono ?_; rintro e w5 ⟨rfl, hb5⟩; replace hbq := hbq.trans (hb5.mono hbq.size))
            | (go_at_call 45; refine (HC43.out _ ((H1.out.pl.below hbq).more hbq.size)).mono ?_; rintro e w6 ⟨rfl, hb6⟩; replace hbq := hbq.trans (hb6.mono hbq.size)))))
      | fail "held3"
    all_goals
      go_wp2_with fail
      go_meet
      exact ⟨rfl, hbq⟩
  case rest =>
  obtain ⟨rfl, hbq⟩ := hcut
  have H5 := Lib.hid (H1.out.next hbq)
  have HR := Lib.hid (show wc.cell? ⟨w.heap.size + 1 + 1 + 1, 0, none⟩ = some (.int .i64 0) ∧ wc.cell? ⟨w.heap.size + 1 + 1 + 1, 1, none⟩ = some (.int .i64 0) ∧ wc.frozen? ⟨w.heap.size + 1 + 1 + 1, 0, none⟩ = false ∧ wc.frozen? ⟨w.heap.size + 1 + 1 + 1, 1, none⟩ = false ∧ w.heap.size + 1 + 1 + 1 < wc.heap.size from
    ⟨(hbq.cell (p := ⟨w.heap.size + 1 + 1 + 1, 0, none⟩) hz3).trans r0, (hbq.cell (p := ⟨w.heap.size + 1 + 1 + 1, 1, none⟩) hz3).trans r1, (hbq.frozen (p := ⟨w.heap.size + 1 + 1 + 1, 0, none⟩) hz3).trans f0, (hbq.frozen (p := ⟨w.heap.size + 1 + 1 + 1, 1, none⟩) hz3).trans f1, Nat.lt_of_lt_of_le hz3 hbq.size⟩)
  clear hbq H1 k0 k1 m0 m1 n0 n1 hz0 hz1 hz2 hz3 r0 r1 f0 f1 HC43
  obtain ⟨k0, k1, _, _, _, _, hpl, _, hz2⟩ := H5.out
  have hil := HI.out
  obtain ⟨bN, oN, AN, cN, rfl, hbN, hE, hE1, hE2, z0, z1, z2, z3, z4⟩ := hpl.node hil
  have hnc := hpl.nc; have hnm := hpl.nm
  have HE := Lib.hid hE
  have j2 : (0 : Int) ≤ (i : Int) := by omega
  have j3 : (i : Int) < (p.nodes.length : Int) := by omega
  clear hpl hE
  go_upto_region 3 with (fail)
  obtain ⟨r0, r1, f0, f1, hz3⟩ := HR.out
  have hc8 := fun b o hb => (((Below.refl wc.heap.size wc).alloc (Nat.le_refl _) (.cells #[.int .i64 p.nodes[i].spot.x, .int .i64 p.nodes[i].spot.y, .int .i64 p.nodes[i].kind, .slice AN p.nodes[i].ends.length cN, .int .i64 p.nodes[i].normal] 86)).cell (p := ⟨b, o, none⟩) hb)
  have hf8 := fun b o hb => (((Below.refl wc.heap.size wc).alloc (Nat.le_refl _) (.cells #[.int .i64 p.nodes[i].spot.x, .int .i64 p.nodes[i].spot.y, .int .i64 p.nodes[i].kind, .slice AN p.nodes[i].ends.length cN, .int .i64 p.nodes[i].normal] 86)).frozen (p := ⟨b, o, none⟩) hb)
  replace r0 := (hc8 _ 0 hz3).trans r0; replace r1 := (hc8 _ 1 hz3).trans r1; replace f0 := (hf8 _ 0 hz3).trans f0; replace f1 := (hf8 _ 1 hz3).trans f1
  clear hc8 hf8
  have H8 := Lib.hid (H5.out.next ((Below.refl _ wc).alloc (Nat.le_refl _) (.cells #[.int .i64 p.nodes[i].spot.x, .int .i64 p.nodes[i].spot.y, .int .i64 p.nodes[i].kind, .slice AN p.nodes[i].ends.length cN, .int .i64 p.nodes[i].normal] 86)))
  have hyy := fun j => cell_new1 wc #[.int .i64 p.nodes[i].spot.x, .int .i64 p.nodes[i].spot.y, .int .i64 p.nodes[i].kind, .slice AN p.nodes[i].ends.length cN, .int .i64 p.nodes[i].normal] 86 j
  have y0 := hyy 0; have y1 := hyy 1; have y2 := hyy 2; have y3 := hyy 3; have y4 := hyy 4
  simp only [List.getElem?_toArray, List.getElem?_cons_zero, List.getElem?_cons_succ] at y0 y1 y2 y3 y4
  have HE8 := Lib.hid ((HE.out.below ((Below.refl _ wc).alloc (Nat.le_refl _) (.cells #[.int .i64 p.nodes[i].spot.x, .int .i64 p.nodes[i].spot.y, .int .i64 p.nodes[i].kind, .slice AN p.nodes[i].ends.length cN, .int .i64 p.nodes[i].normal] 86))).more (fun _ _ h => h) (by simp : wc.heap.size ≤ (wc.alloc (.cells #[.int .i64 p.nodes[i].spot.x, .int .i64 p.nodes[i].spot.y, .int .i64 p.nodes[i].kind, .slice AN p.nodes[i].ends.length cN, .int .i64 p.nodes[i].normal] 86)).heap.size))
  have hz8 : wc.heap.size < (wc.alloc (.cells #[.int .i64 p.nodes[i].spot.x, .int .i64 p.nodes[i].spot.y, .int .i64 p.nodes[i].kind, .slice AN p.nodes[i].ends.length cN, .int .i64 p.nodes[i].normal] 86)).heap.size := by simp
  have hz38 := Nat.lt_trans hz3 hz8
  have hk8 : w.heap.size + 1 + 1 + 1 ≠ wc.heap.size := Nat.ne_of_lt hz3
  clear hyy H5 HE HR hz3 k0 k1 z0 z1 z2 z3 z4 hbN hz2
  have hl8 : p.nodes[i].ends.length ≤ 140737488351232 := by omega
  obtain ⟨_, _, m0, m1, n0, n1, _, _, hz2⟩ := H8.out
  generalize wc.alloc (.cells #[.int .i64 p.nodes[i].spot.x, .int .i64 p.nodes[i].spot.y, .int .i64 p.nodes[i].kind, .slice AN p.nodes[i].ends.length cN, .int .i64 p.nodes[i].normal] 86) = w8 at *
  generalize wc.heap.size = K8 at *
  have hz1 : w.heap.size + 1 < w8.heap.size := by omega
  by_cases h4 : p.nodes[i].kind = 4
  · have e1 : (p.nodes[i].kind != 4) = false := by simp [h4]
    have e2 : (!(p.nodes[i].kind == 4)) = false := by simp [h4]
    have HS := Lib.hid (HK4.out.trans (if_pos h4))
    clear h4
    go_upto_region 5 with (fail)
    clear e1 e2
    go_cut [7] (fun s7 wx => s7 = .bool true ∧ wx.cell? ⟨w.heap.size + 1 + 1 + 1, 0, none⟩ = some (.int .i64 (i : Int)) ∧ wx.cell? ⟨w.heap.size + 1 + 1 + 1, 1, none⟩ = some (.int .i64 (max (a : Int) (b : Int))) ∧ Below w.heap.size w wx)
    case first =>
      have hbq : Below w8.heap.size w8 w8.drew := (Below.refl _ _).drew
      have hk1 : w.heap.size + 1 + 1 + 1 ≠ w.heap.size + 1 := by omega
      have hk2 : w.heap.size + 1 + 1 + 1 ≠ w.heap.size + 1 + 1 := by omega
      (go_region_held3 (fun w' => w'.cell? ⟨K8, 0, none⟩ = some (.int .i64 p.nodes[i].spot.x) ∧ w'.cell? ⟨K8, 1, none⟩ = some (.int .i64 p.nodes[i].spot.y) ∧ w'.cell? ⟨K8, 2, none⟩ = some (.int .i64 p.nodes[i].kind) ∧ w'.cell? ⟨K8, 3, none⟩ = some (.slice AN p.nodes[i].ends.length cN) ∧ w'.cell? ⟨K8, 4, none⟩ = some (.int .i64 p.nodes[i].normal) ∧ w'.cell? ⟨w.heap.size + 1, 0, none⟩ = some (.int .i64 m.rail) ∧ w'.cell? ⟨w.heap.size + 1, 1, none⟩ = some (.bool m.last) ∧ w'.cell? ⟨w.heap.size + 1 + 1, 0, none⟩ = some (.int .i64 n.rail) ∧ w'.cell? ⟨w.heap.size + 1 + 1, 1, none⟩ = some (.bool n.last))
            (first
              | exact ⟨(hbq.cell (p := ⟨K8, 0, none⟩) hz8).trans y0, (hbq.cell (p := ⟨K8, 1, none⟩) hz8).trans y1, (hbq.cell (p := ⟨K8, 2, none⟩) hz8).trans y2, (hbq.cell (p := ⟨K8, 3, none⟩) hz8).trans y3, (hbq.cell (p := ⟨K8, 4, none⟩) hz8).trans y4, (hbq.cell (p := ⟨w.heap.size + 1, 0, none⟩) hz1).trans m0, (hbq.cell (p := ⟨w.heap.size + 1, 1, none⟩) hz1).trans m1, (hbq.cell (p := ⟨w.heap.size + 1 + 1, 0, none⟩) hz2).trans n0, (hbq.cell (p := ⟨w.heap.size + 1 + 1, 1, none⟩) hz2).trans n1⟩
              | exact ⟨far2 ((hbq.cell (p := ⟨K8, 0, none⟩) hz8).trans y0) hk8, far2 ((hbq.cell (p := ⟨K8, 1, none⟩) hz8).trans y1) hk8, far2 ((hbq.cell (p := ⟨K8, 2, none⟩) hz8).trans y2) hk8, far2 ((hbq.cell (p := ⟨K8, 3, none⟩) hz8).trans y3) hk8, far2 ((hbq.cell (p := ⟨K8, 4, none⟩) hz8).trans y4) hk8, far2 ((hbq.cell (p := ⟨w.heap.size + 1, 0, none⟩) hz1).trans m0) hk1, far2 ((hbq.cell (p := ⟨w.heap.size + 1, 1, none⟩) hz1).trans m1) hk1, far2 ((hbq.cell (p := ⟨w.heap.size + 1 + 1, 0, none⟩) hz2).trans n0) hk2, far2 ((hbq.cell (p := ⟨w.heap.size + 1 + 1, 1, none⟩) hz2).trans n1) hk2⟩)
            ((first
              | (go_at_call 89; refine (arrives_any _ _ _).mono ?_; rintro e w5 ⟨rfl, hb5⟩; replace hbq := hbq.trans (hb5.mono hbq.size); have e0 := (hbq.cell (p := ⟨w.heap.size + 1 + 1 + 1, 0, none⟩) hz38).trans r0; have e1 := (hbq.cell (p := ⟨w.heap.size + 1 + 1 + 1, 1, none⟩) hz38).trans r1; have e2 := (hbq.frozen (p := ⟨w.heap.size + 1 + 1 + 1, 0, none⟩) hz38).trans f0; have e3 := (hbq.frozen (p := ⟨w.heap.size + 1 + 1 + 1, 1, none⟩) hz38).trans f1)
              | (go_at_call 91; refine (leaves_any _ _ _).mono ?_; rintro e w5 ⟨rfl, hb5⟩; replace hbq := hbq.trans (hb5.mono hbq.size); have e0 := (hbq.cell (p := ⟨w.heap.size + 1 + 1 + 1, 0, none⟩) hz38).trans r0; have e1 := (hbq.cell (p := ⟨w.heap.size + 1 + 1 + 1, 1, none⟩) hz38).trans r1; have e2 := (hbq.frozen (p := ⟨w.heap.size + 1 + 1 + 1, 0, none⟩) hz38).trans f0; have e3 := (hbq.frozen (p := ⟨w.heap.size + 1 + 1 + 1, 1, none⟩) hz38).trans f1)
              | (go_at_call 90; have hS8 := (HE8.out.below hbq).more (fun _ _ h => h) hbq.size; (with_reducible refine (HC53a.out _ _ _ hS8 hl8).mono ?_); rintro e w6 ⟨rfl, hb6⟩; replace hbq := hbq.trans (hb6.mono hbq.size); have e0 := (hbq.cell (p := ⟨w.heap.size + 1 + 1 + 1, 0, none⟩) hz38).trans r0; have e1 := (hbq.cell (p := ⟨w.heap.size + 1 + 1 + 1, 1, none⟩) hz38).trans r1; have e2 := (hbq.frozen (p := ⟨w.heap.size + 1 + 1 + 1, 0, none⟩) hz38).trans f0; have e3 := (hbq.frozen (p := ⟨w.heap.size + 1 + 1 + 1, 1, none⟩) hz38).trans f1)
              | (go_at_call 90; have hS8 := (HE8.out.below hbq).more (fun _ _ h => h) hbq.size; (with_reducible refine (HC53b.out _ _ _ hS8 hl8).mono ?_); rintro e w6 ⟨rfl, hb6⟩; replace hbq := hbq.trans (hb6.mono hbq.size); have e0 := (hbq.cell (p := ⟨w.heap.size + 1 + 1 + 1, 0, none⟩) hz38).trans r0; have e1 := (hbq.cell (p := ⟨w.heap.size + 1 + 1 + 1, 1, none⟩) hz38).trans r1; have e2 := (hbq.frozen (p := ⟨w.heap.size + 1 + 1 + 1, 0, none⟩) hz38).trans f0; have e3 := (hbq.frozen (p := ⟨w.heap.size + 1 + 1 + 1, 1, none⟩) hz38).trans f1))))
      all_goals
        go_wp2_with fail
        go_meet
        exact ⟨rfl, (set2z e0 e1).1, (set2z e0 e1).2, ((H8.out.be.trans (hbq.mono H8.out.be.size)).setCell (by simp; omega) _).setCell (by simp; omega) _⟩
    case rest =>
    obtain ⟨rfl, c0, c1, hbe⟩ := hcut
    have HB := Lib.hid hbe
    clear hbe
    go_wp2
    exact bodyPost_ret (v := .tuple #[.agg #[.int .i64 (i : Int), .int .i64 (max (a : Int) (b : Int))], .bool true]) (by simp [results, Tryz.results64, go_sem, c0, c1]) rfl ⟨by rw [HS.out], HB.out⟩
  · have e1 : (p.nodes[i].kind != 4) = true := by simp [h4]
    have e2 : (!(p.nodes[i].kind == 4)) = true := by simp [h4]
    have HS := Lib.hid (HK4.out.trans (if_neg h4))
    have HB := Lib.hid H8.out.be
    clear h4
    go_wp2
    exact bodyPost_ret (v := .tuple #[.agg #[.int .i64 0, .int .i64 0], .bool false]) (by simp [results, Tryz.results64, go_sem, r0, r1]) rfl ⟨by rw [HS.out], (HB.out.setCell (by simp; omega) _).setCell (by simp; omega) _⟩

theorem asc_ext : ∀ {l m : List Int}, l.Pairwise (· < ·) → m.Pairwise (· < ·) → (∀ x, x ∈ l ↔ x ∈ m) → l = m
  | [], [], _, _, _ => rfl
  | [], y :: m, _, _, h => by have := (h y).2 (by simp); simp at this
  | x :: l, [], _, _, h => by have := (h x).1 (by simp); simp at this
  | x :: l, y :: m, hl, hm, h => by
    obtain ⟨l1, l2⟩ := List.pairwise_cons.1 hl
    obtain ⟨m1, m2⟩ := List.pairwise_cons.1 hm
    have hxy : x = y := by
      rcases List.mem_cons.1 ((h x).1 (by simp)) with e | e
      · exact e
      · rcases List.mem_cons.1 ((h y).2 (by simp)) with e' | e'
        · exact e'.symm
        · have := m1 x e; have := l1 y e'; omega
    subst hxy
    rw [asc_ext l2 m2 fun z => by
      constructor
      · intro hz
        rcases List.mem_cons.1 ((h z).1 (List.mem_cons_of_mem _ hz)) with e | e
        · have := l1 z hz; omega
        · exact e
      · intro hz
        rcases List.mem_cons.1 ((h z).2 (List.mem_cons_of_mem _ hz)) with e | e
        · have := m1 z hz; omega
        · exact e]
theorem thru_nodup (k nm a : Int) : (thru k nm a).Pairwise (· ≠ ·) := by
  unfold thru
  (repeat' split) <;> simp
theorem leaveL_nodup {p : Pl} (hV : Vld p) {m : Nat} (hm : m < 2 * p.rails.length) : (leaveL p m).Pairwise (· ≠ ·) := by
  have hx := flip_lt hm
  obtain ⟨i, hi, k, hk, h1, h2, h3⟩ := slots_spec hV.ends hx
  have hxl : flip m < (slotsOf p).length := by rw [slots_len]; exact hx
  rw [leaveL_eq (m := m) h2 hi rfl hxl (h3 hxl), List.pairwise_map]
  have hLb := thru_lt (List.all_eq_true.1 hV.nodes _ (List.getElem_mem hi)) hk
  refine (thru_nodup _ _ _).imp_of_mem fun {a b} ha hb hne he => ?_
  obtain ⟨a0, a1⟩ := hLb a ha
  obtain ⟨b0, b1⟩ := hLb b hb
  obtain ⟨s, rfl⟩ := Int.eq_ofNat_of_zero_le a0
  obtain ⟨t, rfl⟩ := Int.eq_ofNat_of_zero_le b0
  have hs : s < p.nodes[i].ends.length := by omega
  have ht : t < p.nodes[i].ends.length := by omega
  rw [endAt_nat hs, endAt_nat ht] at he
  have q1 := (at_place hV.ends hi hs).2.1
  have q2 := (at_place hV.ends hi ht).2.1
  unfold keyE at q1 q2
  rw [he] at q1
  rw [q1] at q2
  exact hne q2
theorem nextL_asc {p : Pl} (hV : Vld p) {m : Nat} (hm : m < 2 * p.rails.length) : (nextL p m).Pairwise (· < ·) := by
  have h1 : (nextL p m).Pairwise (fun a b => decide (a ≤ b) = true) := by
    unfold nextL
    exact List.pairwise_mergeSort (le := fun x y => decide (x ≤ y)) (fun a b c h1 h2 => by simp at *; omega) (fun a b => by simp; omega) _
  have h2 : (nextL p m).Pairwise (· ≠ ·) := by
    unfold nextL
    exact ((List.mergeSort_perm _ _).pairwise_iff (fun h => Ne.symm h)).2 (leaveL_nodup hV hm)
  refine (h1.and h2).imp fun {a b} h => ?_
  obtain ⟨h3, h4⟩ := h
  simp at h3
  omega
/-- the moves below k that follow -/
def fltr (p : Pl) (m k : Nat) : List Int := ((List.range k).filter fun x : Nat => folB p m (x : Int)).map fun x : Nat => (x : Int)
theorem fltr_all {p : Pl} (hV : Vld p) {m : Nat} (hm : m < 2 * p.rails.length) : fltr p m (2 * p.rails.length) = nextL p m := by
  refine asc_ext ?_ (nextL_asc hV hm) fun x => ?_
  · unfold fltr
    rw [List.pairwise_map]
    exact (List.pairwise_lt_range.filter _).imp fun h => by omega
  · unfold fltr
    simp only [List.mem_map, List.mem_filter, List.mem_range]
    constructor
    · rintro ⟨y, ⟨h1, h2⟩, rfl⟩
      exact (folB_iff _ _ _).1 h2
    · intro hx
      obtain ⟨h1, h2⟩ := nextL_bd hV hm x hx
      exact ⟨x.toNat, ⟨by omega, by rw [show ((x.toNat : Nat) : Int) = x by omega]; exact (folB_iff _ _ _).2 hx⟩, by omega⟩
theorem fltr_yes {p : Pl} {m k : Nat} (h : folB p m (k : Int) = true) : fltr p m (k + 1) = fltr p m k ++ [(k : Int)] := by
  unfold fltr; rw [List.range_succ, List.filter_append, List.map_append]; simp [h]
theorem fltr_no {p : Pl} {m k : Nat} (h : folB p m (k : Int) = false) : fltr p m (k + 1) = fltr p m k := by
  unfold fltr; rw [List.range_succ, List.filter_append, List.map_append]; simp [h]
theorem fltr_len (p : Pl) (m k : Nat) : (fltr p m k).length ≤ k := by
  unfold fltr; rw [List.length_map]; exact Nat.le_trans (List.length_filter_le _ _) (by simp)
theorem endNo_move {x : Int} : endNo (moveE x) = x := by
  unfold endNo moveE
  by_cases h : x % 2 = 1
  · simp [h]; omega
  · simp [h]; omega

set_option maxRecDepth 100000 in
set_option maxHeartbeats 4000000 in
theorem rNext_any (A A2 : Option Addr) (c c2 : Nat) (p : Pl) (m : E) (w : World) (hP : PlAt w w.heap.size A c A2 c2 p) (hv : Vld p) (hm : railIn p m.rail = true) :
    Calls Tryz.prog 65 #[.agg #[.slice A p.nodes.length c, .slice A2 p.rails.length c2], .agg #[.int .i64 m.rail, .bool m.last]] w fun e w' => (∃ v, e = .returned v ∧ Own w' w.heap.size 27 2 fE v ((nextL p (keyE m)).map moveE)) ∧ Below w.heap.size w w' := by
  obtain ⟨i0, hi, hz0, hz1, hz2⟩ := info_parts info27
  have hsz := of_decide_eq_true hv.sizes
  have hR : p.rails.length ≤ 400 := by omega
  have hrc := hP.rc; have hrm := hP.rm
  obtain ⟨km, hkm⟩ : ∃ x, keyE m = x := ⟨_, rfl⟩
  have HFA := Lib.hid (show fltr p km (2 * p.rails.length) = nextL p (keyE m) by rw [← hkm]; exact fltr_all hv (key_in hm).2.1)
  have HC := Lib.hid (show ∀ (k : Nat), k < 2 * p.rails.length → ∀ w, PlAt w w.heap.size A c A2 c2 p → Calls Tryz.prog 63 #[.agg #[.slice A p.nodes.length c, .slice A2 p.rails.length c2], .agg #[.int .i64 m.rail, .bool m.last], .agg #[.int .i64 (moveE (k : Int)).rail, .bool (moveE (k : Int)).last]] w fun e w' => e = .returned (.bool (folB p km (k : Int))) ∧ Below w.heap.size w w' from fun k hk w hP => by
    have := rFollows_any A A2 c c2 p m (moveE (k : Int)) w hP hv hm (show decide (0 ≤ (k : Int) / 2 ∧ (k : Int) / 2 < p.rails.length) = true from decide_eq_true (by omega))
    rw [endNo_move, hkm] at this; exact this)
  have hb0 : Below w.heap.size w ((w.alloc (.cells #[.slice A p.nodes.length c, .slice A2 p.rails.length c2] 25)).alloc (.cells #[.int .i64 m.rail, .bool m.last] 27)) := ((Below.refl _ w).alloc (Nat.le_refl _) _).alloc (by simp) _
  have HP1 := Lib.hid ((hP.box (.cells #[.slice A p.nodes.length c, .slice A2 p.rails.length c2] 25)).box (.cells #[.int .i64 m.rail, .bool m.last] 27))
  have HX := Lib.hid (show ∀ j : Nat, ((w.alloc (.cells #[.slice A p.nodes.length c, .slice A2 p.rails.length c2] 25)).alloc (.cells #[.int .i64 m.rail, .bool m.last] 27)).cell? ⟨w.heap.size, j, none⟩ = #[.slice A p.nodes.length c, .slice A2 p.rails.length c2][j]? ∧ ((w.alloc (.cells #[.slice A p.nodes.length c, .slice A2 p.rails.length c2] 25)).alloc (.cells #[.int .i64 m.rail, .bool m.last] 27)).cell? ⟨w.heap.size + 1, j, none⟩ = #[.int .i64 m.rail, .bool m.last][j]? from fun j => by
    have h1 := cell_keep1 (o := .cells #[.int .i64 m.rail, .bool m.last] 27) (cell_new1 w #[.slice A p.nodes.length c, .slice A2 p.rails.length c2] 25 j) (by simp)
    have h2 := cell_new1 (w.alloc (.cells #[.slice A p.nodes.length c, .slice A2 p.rails.length c2] 25)) #[.int .i64 m.rail, .bool m.last] 27 j
    rw [show (w.alloc (.cells #[.slice A p.nodes.length c, .slice A2 p.rails.length c2] 25)).heap.size = w.heap.size + 1 by simp] at h2
    exact ⟨h1, h2⟩)
  have hz3 : ((w.alloc (.cells #[.slice A p.nodes.length c, .slice A2 p.rails.length c2] 25)).alloc (.cells #[.int .i64 m.rail, .bool m.last] 27)).heap.size = w.heap.size + 1 + 1 := by simp
  have HB0 := Lib.hid hb0
  clear hP hv hm hsz hb0 hkm
  go_enter Tryz.func65, Tryz.ntmps65
  go_wp2
  generalize ((w.alloc (.cells #[.slice A p.nodes.length c, .slice A2 p.rails.length c2] 25)).alloc (.cells #[.int .i64 m.rail, .bool m.last] 27)) = W1 at *
  go_loopw [5, 6] (fun v i wr => ∃ k : Nat, k ≤ 2 * p.rails.length ∧ i = .int .i64 k ∧ Own wr W1.heap.size 27 2 fE v ((fltr p km k).map moveE) ∧ Below W1.heap.size W1 wr) (fun _ i _ => 2 * p.rails.length - (intOf i).toNat)
  case atStart => exact ⟨0, Nat.zero_le _, rfl, Own.nil _ _ _ _ _, Below.refl _ _⟩
  case round =>
    obtain ⟨k, hk, rfl, ho, hb⟩ := hrel
    have hzw := hb.size
    have ha0 : w.heap.size < W1.heap.size := by omega
    have ha1 : w.heap.size + 1 < W1.heap.size := by omega
    have k0 := (hb.cell (p := ⟨w.heap.size, 0, none⟩) ha0).trans (HX.out 0).1
    have k1 := (hb.cell (p := ⟨w.heap.size, 1, none⟩) ha0).trans (HX.out 1).1
    have m0 := (hb.cell (p := ⟨w.heap.size + 1, 0, none⟩) ha1).trans (HX.out 0).2
    have m1 := (hb.cell (p := ⟨w.heap.size + 1, 1, none⟩) ha1).trans (HX.out 1).2
    simp only [List.getElem?_toArray, List.getElem?_cons_zero, List.getElem?_cons_succ] at k0 k1 m0 m1
    have HO := Lib.hid ho; have HB := Lib.hid hb
    have HPw := Lib.hid ((HP1.out.below hb).more hzw)
    clear ho hb
    have hr0 : w.heap.size < wr.heap.size := by omega
    have hr1 : w.heap.size + 1 < wr.heap.size := by omega
    by_cases hlt : k < 2 * p.rails.length
    · have hlt2 : (k : Int) < 2 * (p.rails.length : Int) := by omega
      have hk0 : (0 : Int) ≤ (k : Int) := by omega
      have hk1 : (k : Int) ≤ 1000000 := by omega
      have HCk := Lib.hid (HC.out k hlt)
      go_upto_region 5 with (fail)
      go_cut [19] from 7 to 24 (fun s19 wx => s19 = .bool (folB p km (k : Int)) ∧ Below wr.heap.size wr wx)
      case first =>
        have hbq : Below wr.heap.size wr wr.drew := (Below.refl _ _).drew
        (go_region_held3 (fun w' => w'.cell? ⟨w.heap.size, 0, none⟩ = some (.slice A p.nodes.length c) ∧ w'.cell? ⟨w.heap.size, 1, none⟩ = some (.slice A2 p.rails.length c2) ∧ w'.cell? ⟨w.heap.size + 1, 0, none⟩ = some (.int .i64 m.rail) ∧ w'.cell? ⟨w.heap.size + 1, 1, none⟩ = some (.bool m.last))
            (exact ⟨(hbq.cell (p := ⟨w.heap.size, 0, none⟩) hr0).trans k0, (hbq.cell (p := ⟨w.heap.size, 1, none⟩) hr0).trans k1, (hbq.cell (p := ⟨w.heap.size + 1, 0, none⟩) hr1).trans m0, (hbq.cell (p := ⟨w.heap.size + 1, 1, none⟩) hr1).trans m1⟩)
            ((first
              | (go_at_call 66; refine (Of_any (k : Int) _ hk0 hk1).mono ?_; rintro e w5 ⟨rfl, hb5⟩; replace hbq := hbq.trans (hb5.mono hbq.size))
              | (go_at_call 63; have hpw := (HPw.out.below hbq).more hbq.size; (with_reducible refine (HCk.out _ hpw).mono ?_); rintro e w6 ⟨rfl, hb6⟩; replace hbq := hbq.trans (hb6.mono hbq.size)))))
        all_goals
          go_wp2_with fail
          go_meet
          exact ⟨rfl, hbq⟩
      case rest =>
      obtain ⟨rfl, hbq⟩ := hcut
      have hzc := hbq.size
      have HO2 := Lib.hid (HO.out.below hbq (Nat.le_refl _))
      have HB2 := Lib.hid (HB.out.trans (hbq.mono hzw))
      clear hbq HO HB HPw k0 k1 m0 m1 hr0 hr1
      cases hf : folB p km (k : Int)
      · have HN := Lib.hid (fltr_no hf)
        clear hf
        go_wp2
        go_roundw
        case rel => exact ⟨k + 1, by omega, by go_num, by rw [HN.out]; exact HO2.out, HB2.out⟩
        case measure => simp [intOf]; omega
      · have HY := Lib.hid (show (fltr p km (k + 1)).map moveE = (fltr p km k).map moveE ++ [moveE (k : Int)] by rw [fltr_yes hf, List.map_append]; rfl)
        have hlen : (fltr p km k).length ≤ k := fltr_len p km k
        clear hf
        go_wp2_with fail
        refine (Of_any (k : Int) _ hk0 hk1).mono ?_
        rintro e w1 ⟨rfl, hb1⟩
        have hz1' := hb1.size
        have HO1 := Lib.hid (HO2.out.below hb1 (Nat.le_refl _))
        have HB1 := Lib.hid (HB2.out.trans (hb1.mono (by omega)))
        clear hb1
        go_wp2_with (at_builtin; go_must (refine wpList_app _ rfl (.tmp 20) (.tmp 23) _ rfl W1.heap.size 27 i0 _ 2 16 Tryz.underlying31 hi hz0 hz1 hz2 rfl (by omega) fE_len fE_one u5 _ rfl (HO1.out.alloc _) _ _ [moveE (k : Int)] 1 rfl (Sl.new _ _ (moveE (k : Int)) _ rfl) (by simp [maxLen]; omega) (by simp; omega) (by simp; omega) (fun _ => .inr ⟨_, rfl⟩) ?_); intro v2 w2 o2 gr2 at2 ne2)
        go_roundw
        case rel => exact ⟨k + 1, by omega, by go_num, by rw [HY.out]; exact o2, (HB1.out.alloc (by omega) _).grown gr2 (by simp; omega) (fun k hk => (HO1.out.lt k hk).1)⟩
        case measure => simp [intOf]; omega
    · obtain rfl : k = 2 * p.rails.length := by omega
      have HQ := Lib.hid (show Own wr W1.heap.size 27 2 fE u5 ((nextL p (keyE m)).map moveE) by rw [← HFA.out]; exact HO.out)
      have hge : ¬ ((2 * p.rails.length : Nat) : Int) < 2 * (p.rails.length : Int) := by omega
      go_wp2
      go_ret
      exact ⟨⟨_, rfl, HQ.out.lower (by omega)⟩, HB0.out.trans (HB.out.mono (by omega))⟩
end Go.Proofs.YtcpanfpijljeaaaGreat
