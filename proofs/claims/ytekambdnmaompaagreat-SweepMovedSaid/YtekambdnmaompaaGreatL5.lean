/- Contract: whether two profiles reach far enough for one of the tests. -/
import Derived.Test.YtekambdnmaompaaGreatJ2
namespace Go.Proofs.YtekambdnmaompaaGreat.SW
set_option linter.unusedVariables false
set_option linter.unusedSimpArgs false
open Go.RowKit
def metB (v0 v1 v2 v3 hx sx hy sy : Int) : Bool := decide (hx + hy ≥ v0) || (decide (hx + sx + hy ≥ v1) || (decide (hx + hy + sy ≥ v2) || decide (hx + sx + hy + sy ≥ v3)))
set_option maxRecDepth 100000 in
set_option maxHeartbeats 8000000 in
theorem met_any (v0 v1 v2 v3 hx sx hy sy : Int) (w : World) (hP : Pr hx sx) (hQ : Pr hy sy) :
    Calls Tryz.prog 125 #[.agg #[.int .i64 v0, .int .i64 v1, .int .i64 v2, .int .i64 v3], .agg #[.int .i64 hx, .int .i64 sx], .agg #[.int .i64 hy, .int .i64 sy]] w fun e w' => e = .returned (.bool (metB v0 v1 v2 v3 hx sx hy sy)) ∧ Below w.heap.size w w' := by
  have hb1 := (((Below.refl _ w).alloc (Nat.le_refl _) (.cells #[.int .i64 v0, .int .i64 v1, .int .i64 v2, .int .i64 v3] 164)).alloc (by simp) (.cells #[.int .i64 hx, .int .i64 sx] 46)).alloc (by simp; omega) (.cells #[.int .i64 hy, .int .i64 sy] 46)
  have hz : (((w.alloc (.cells #[.int .i64 v0, .int .i64 v1, .int .i64 v2, .int .i64 v3] 164)).alloc (.cells #[.int .i64 hx, .int .i64 sx] 46)).alloc (.cells #[.int .i64 hy, .int .i64 sy] 46)).heap.size = w.heap.size + 3 := by simp
  have hb3 := fun i => box_cells3 w #[.int .i64 v0, .int .i64 v1, .int .i64 v2, .int .i64 v3] #[.int .i64 hx, .int .i64 sx] #[.int .i64 hy, .int .i64 sy] 164 46 46 i
  have hv := fun i => (((((Below.refl _ (w.alloc (.cells #[.int .i64 v0, .int .i64 v1, .int .i64 v2, .int .i64 v3] 164))).alloc (Nat.le_refl _) (.cells #[.int .i64 hx, .int .i64 sx] 46)).alloc (by simp) (.cells #[.int .i64 hy, .int .i64 sy] 46)).cell (p := ⟨w.heap.size, i, none⟩) (by simp)).trans (cell_new1 w #[.int .i64 v0, .int .i64 v1, .int .i64 v2, .int .i64 v3] 164 i))
  obtain ⟨W1, hW1⟩ : ∃ z, (((w.alloc (.cells #[.int .i64 v0, .int .i64 v1, .int .i64 v2, .int .i64 v3] 164)).alloc (.cells #[.int .i64 hx, .int .i64 sx] 46)).alloc (.cells #[.int .i64 hy, .int .i64 sy] 46)) = z := ⟨_, rfl⟩
  rw [hW1] at hb1 hz
  have hv' := fun i => (show W1.cell? ⟨w.heap.size, i, none⟩ = #[.int .i64 v0, .int .i64 v1, .int .i64 v2, .int .i64 v3][i]? from by rw [← hW1]; exact hv i)
  have hc := fun i => (show W1.cell? ⟨w.heap.size + 1, i, none⟩ = #[.int .i64 hx, .int .i64 sx][i]? ∧ W1.cell? ⟨w.heap.size + 1 + 1, i, none⟩ = #[.int .i64 hy, .int .i64 sy][i]? from by rw [← hW1]; exact hb3 i)
  have HB1 := Lib.hid hb1
  have HP := Lib.hid (show ∀ wx, Below W1.heap.size W1 wx → (wx.cell? ⟨w.heap.size + 1, 0, none⟩ = some (.int .i64 hx) ∧ wx.cell? ⟨w.heap.size + 1, 1, none⟩ = some (.int .i64 sx) ∧ wx.cell? ⟨w.heap.size + 1 + 1, 0, none⟩ = some (.int .i64 hy) ∧ wx.cell? ⟨w.heap.size + 1 + 1, 1, none⟩ = some (.int .i64 sy)) from fun wx h =>
    ⟨(h.cell (p := ⟨w.heap.size + 1, 0, none⟩) (by simp; omega)).trans (hc 0).1, (h.cell (p := ⟨w.heap.size + 1, 1, none⟩) (by simp; omega)).trans (hc 1).1, (h.cell (p := ⟨w.heap.size + 1 + 1, 0, none⟩) (by simp; omega)).trans (hc 0).2, (h.cell (p := ⟨w.heap.size + 1 + 1, 1, none⟩) (by simp; omega)).trans (hc 1).2⟩)
  have HV0 := Lib.hid (show ∀ wx, Below W1.heap.size W1 wx → wx.cell? ⟨w.heap.size, 0, none⟩ = some (.int .i64 v0) from fun wx h => (h.cell (p := ⟨w.heap.size, 0, none⟩) (by simp; omega)).trans (hv' 0))
  have HV1 := Lib.hid (show ∀ wx, Below W1.heap.size W1 wx → wx.cell? ⟨w.heap.size, 1, none⟩ = some (.int .i64 v1) from fun wx h => (h.cell (p := ⟨w.heap.size, 1, none⟩) (by simp; omega)).trans (hv' 1))
  have HV2 := Lib.hid (show ∀ wx, Below W1.heap.size W1 wx → wx.cell? ⟨w.heap.size, 2, none⟩ = some (.int .i64 v2) from fun wx h => (h.cell (p := ⟨w.heap.size, 2, none⟩) (by simp; omega)).trans (hv' 2))
  have HV3 := Lib.hid (show ∀ wx, Below W1.heap.size W1 wx → wx.cell? ⟨w.heap.size, 3, none⟩ = some (.int .i64 v3) from fun wx h => (h.cell (p := ⟨w.heap.size, 3, none⟩) (by simp; omega)).trans (hv' 3))
  obtain ⟨p1, p2, p3, p4⟩ := hP
  obtain ⟨q1, q2, q3, q4⟩ := hQ
  have HR1 := Lib.hid (fun w => reach1_any hx sx hy sy w p1 p2 p3 p4 q1 q2 q3 q4)
  have HR2 := Lib.hid (fun w => reach2_any hx sx hy sy w p1 p2 p3 p4 q1 q2 q3 q4)
  have HR3 := Lib.hid (fun w => reach3_any hx sx hy sy w p1 p2 p3 p4 q1 q2 q3 q4)
  have HR4 := Lib.hid (fun w => reach4_any hx sx hy sy w p1 p2 p3 p4 q1 q2 q3 q4)
  have HM := Lib.hid (show metB v0 v1 v2 v3 hx sx hy sy = (decide (hx + hy ≥ v0) || (decide (hx + sx + hy ≥ v1) || (decide (hx + hy + sy ≥ v2) || decide (hx + sx + hy + sy ≥ v3)))) from rfl)
  obtain ⟨r1, e1⟩ : ∃ z, hx + hy = z := ⟨_, rfl⟩
  obtain ⟨r2, e2⟩ : ∃ z, hx + sx + hy = z := ⟨_, rfl⟩
  obtain ⟨r3, e3⟩ : ∃ z, hx + hy + sy = z := ⟨_, rfl⟩
  obtain ⟨r4, e4⟩ : ∃ z, hx + sx + hy + sy = z := ⟨_, rfl⟩
  rw [e4, e3, e2, e1] at HM
  rw [e1] at HR1; rw [e2] at HR2; rw [e3] at HR3; rw [e4] at HR4
  obtain ⟨mt, hmt⟩ : ∃ z, metB v0 v1 v2 v3 hx sx hy sy = z := ⟨_, rfl⟩
  rw [hmt] at HM ⊢
  clear hb3 hc hv hv' hz hb1 e1 e2 e3 e4 hmt p1 p2 p3 p4 q1 q2 q3 q4
  go_enter Tryz.func125, Tryz.ntmps125
  go_wp2_with fail
  refine (tests_any _).mono ?_
  rintro e w2 ⟨⟨g, rfl, hts, hgl⟩, hb2⟩
  clear hW1
  have HB2 := Lib.hid hb2
  have HTS := Lib.hid (show ∀ wx, Below w2.heap.size w2 wx → Ts g wx from fun wx h => hts.keep h hgl)
  clear hts hgl hb2
  go_wp2
  go_loopw [11] (fun s11 wr => Below w2.heap.size w2 wr ∧ ((s11 = .int .i64 0) ∨ (s11 = .int .i64 1 ∧ decide (r1 ≥ v0) = false) ∨ (s11 = .int .i64 2 ∧ decide (r1 ≥ v0) = false ∧ decide (r2 ≥ v1) = false) ∨ (s11 = .int .i64 3 ∧ decide (r1 ≥ v0) = false ∧ decide (r2 ≥ v1) = false ∧ decide (r3 ≥ v2) = false) ∨ (s11 = .int .i64 4 ∧ decide (r1 ≥ v0) = false ∧ decide (r2 ≥ v1) = false ∧ decide (r3 ≥ v2) = false ∧ decide (r4 ≥ v3) = false))) (fun s11 _ => 4 - (intOf s11).toNat)
  case atStart => exact ⟨Below.refl _ _, .inl rfl⟩
  case round =>
    obtain ⟨hb, rfl | ⟨rfl, z1⟩ | ⟨rfl, z1, z2⟩ | ⟨rfl, z1, z2, z3⟩ | ⟨rfl, z1, z2, z3, z4⟩⟩ := hrel
    · have HBC := Lib.hid hb
      have hts := HTS.out wr hb
      obtain ⟨c0, c1, c2, c3, c4, c5, c6, c7⟩ := hts
      have hbe := (Below.refl wr.heap.size wr).alloc (Nat.le_refl _) (.cells #[.func (.func 116) #[] #[], .func (.func 62) #[] #[]] 158)
      have k0 := cell_new1 wr #[.func (.func 116) #[] #[], .func (.func 62) #[] #[]] 158 0
      have hzz : (wr.alloc (.cells #[.func (.func 116) #[] #[], .func (.func 62) #[] #[]] 158)).heap.size = wr.heap.size + 1 := by simp
      obtain ⟨W3, hW3⟩ : ∃ z, wr.alloc (.cells #[.func (.func 116) #[] #[], .func (.func 62) #[] #[]] 158) = z := ⟨_, rfl⟩
      rw [hW3] at hbe k0 hzz
      have HQ3 := Lib.hid (hb.trans (hbe.mono hb.size))
      have HCELL := Lib.hid (show ∀ wx, Below W3.heap.size W3 wx → wx.cell? ⟨wr.heap.size, 0, none⟩ = some (.func (.func 116) #[] #[]) ∧ wx.cell? ⟨w.heap.size, 0, none⟩ = some (.int .i64 v0) ∧ wx.cell? ⟨w.heap.size + 1, 0, none⟩ = some (.int .i64 hx) ∧ wx.cell? ⟨w.heap.size + 1, 1, none⟩ = some (.int .i64 sx) ∧ wx.cell? ⟨w.heap.size + 1 + 1, 0, none⟩ = some (.int .i64 hy) ∧ wx.cell? ⟨w.heap.size + 1 + 1, 1, none⟩ = some (.int .i64 sy) from fun wx h => by
        have h1 := HB2.out.trans ((HQ3.out.trans (h.mono HQ3.out.size)).mono HB2.out.size)
        exact ⟨(h.cell (p := ⟨wr.heap.size, 0, none⟩) (by simp; omega)).trans k0, HV0.out wx h1, HP.out wx h1⟩)
      clear hb hbe k0 hzz
      go_wp2_with fail
      go_upto_region 4 with (fail)
      clear hW3 c0 c1 c2 c3 c4 c5 c6 c7
      have hbq : Below W3.heap.size W3 W3.drew := (Below.refl _ _).drew
      have HS := Lib.hid (HCELL.out _ hbq)
      refine wp_region_held_drew (S := fun wx => wx.cell? ⟨wr.heap.size, 0, none⟩ = some (.func (.func 116) #[] #[]) ∧ wx.cell? ⟨w.heap.size, 0, none⟩ = some (.int .i64 v0) ∧ wx.cell? ⟨w.heap.size + 1, 0, none⟩ = some (.int .i64 hx) ∧ wx.cell? ⟨w.heap.size + 1, 1, none⟩ = some (.int .i64 sx) ∧ wx.cell? ⟨w.heap.size + 1 + 1, 0, none⟩ = some (.int .i64 hy) ∧ wx.cell? ⟨w.heap.size + 1 + 1, 1, none⟩ = some (.int .i64 sy)) (by kernel_rfl) HS.out (fun _ => ?_)
      refine hTake (i := 0) (d := 16) (v := .pointer (some ⟨wr.heap.size, 0, none⟩)) rfl rfl (by kernel_rfl) (by kernel_rfl) (by kernel_rfl) (fun _ _ _ h => h) (Or.inl ⟨rfl, ?gr⟩) HS.out ?_
      case gr =>
        rintro W' ⟨s0, s1, s2, s3, s4, s5⟩
        go_simp
      simp only [Act.put, List.setIfInBounds_toArray, List.set_cons_zero, List.set_cons_succ]
      refine hTake (i := 1) (d := 17) (v := .func (.func 116) #[] #[]) rfl rfl (by kernel_rfl) (by kernel_rfl) (by kernel_rfl) (fun _ _ _ h => h) (Or.inl ⟨rfl, ?gr⟩) HS.out ?_
      case gr =>
        rintro W' ⟨s0, s1, s2, s3, s4, s5⟩
        go_simp
      simp only [Act.put, List.setIfInBounds_toArray, List.set_cons_zero, List.set_cons_succ]
      refine hTake (i := 2) (d := 18) (v := .agg #[.int .i64 hx, .int .i64 sx]) rfl rfl (by kernel_rfl) (by kernel_rfl) (by kernel_rfl) (fun _ _ _ h => h) (Or.inl ⟨rfl, ?gr⟩) HS.out ?_
      case gr =>
        rintro W' ⟨s0, s1, s2, s3, s4, s5⟩
        go_simp
      simp only [Act.put, List.setIfInBounds_toArray, List.set_cons_zero, List.set_cons_succ]
      refine hTake (i := 3) (d := 19) (v := .agg #[.int .i64 hy, .int .i64 sy]) rfl rfl (by kernel_rfl) (by kernel_rfl) (by kernel_rfl) (fun _ _ _ h => h) (Or.inl ⟨rfl, ?gr⟩) HS.out ?_
      case gr =>
        rintro W' ⟨s0, s1, s2, s3, s4, s5⟩
        go_simp
      simp only [Act.put, List.setIfInBounds_toArray, List.set_cons_zero, List.set_cons_succ]
      refine hTake (i := 5) (d := 21) (v := .int .i64 0) rfl rfl (by kernel_rfl) (by kernel_rfl) (by kernel_rfl) (fun _ _ _ h => h) (Or.inl ⟨rfl, ?gr⟩) HS.out ?_
      case gr =>
        rintro W' ⟨s0, s1, s2, s3, s4, s5⟩
        go_simp
      simp only [Act.put, List.setIfInBounds_toArray, List.set_cons_zero, List.set_cons_succ]
      refine hTake (i := 6) (d := 22) (v := .pointer (some ⟨w.heap.size, 0, none⟩)) rfl rfl (by kernel_rfl) (by kernel_rfl) (by kernel_rfl) (fun _ _ _ h => h) (Or.inl ⟨rfl, ?gr⟩) HS.out ?_
      case gr =>
        rintro W' ⟨s0, s1, s2, s3, s4, s5⟩
        go_simp
      simp only [Act.put, List.setIfInBounds_toArray, List.set_cons_zero, List.set_cons_succ]
      refine hTake (i := 7) (d := 23) (v := .int .i64 v0) rfl rfl (by kernel_rfl) (by kernel_rfl) (by kernel_rfl) (fun _ _ _ h => h) (Or.inl ⟨rfl, ?gr⟩) HS.out ?_
      case gr =>
        rintro W' ⟨s0, s1, s2, s3, s4, s5⟩
        go_simp
      simp only [Act.put, List.setIfInBounds_toArray, List.set_cons_zero, List.set_cons_succ]
      refine wpAnyH_ready (rs := [4]) (by kernel_rfl) (by simp) ?_
      refine AllReadyH.cons rfl (fun K hK => ?_) AllReadyH.nil
      rw [if_pos (by rfl)]
      go_simp
      (with_reducible refine (HR1.out _).mono ?_)
      rintro e wc ⟨rfl, hbc⟩
      replace hbq := hbq.trans (hbc.mono hbq.size)
      have HS := Lib.hid (HCELL.out _ hbq)
      clear hbc
      refine hK.out _ _ HS.out (fun _ => ?_)
      clear hK K
      try simp only [Act.put, List.setIfInBounds_toArray, List.set_cons_zero, List.set_cons_succ]
      refine hTake (i := 8) (d := 24) (v := .bool (decide (r1 ≥ v0))) rfl rfl (by kernel_rfl) (by kernel_rfl) (by kernel_rfl) (fun _ _ _ h => h) (Or.inl ⟨rfl, ?gr⟩) HS.out ?_
      case gr =>
        rintro W' ⟨s0, s1, s2, s3, s4, s5⟩
        go_simp
      simp only [Act.put, List.setIfInBounds_toArray, List.set_cons_zero, List.set_cons_succ]
      refine wpAnyH_done (by kernel_rfl) ?_ _
      obtain ⟨d, hd⟩ : ∃ z, decide (r1 ≥ v0) = z := ⟨_, rfl⟩
      rw [hd]
      have HD := Lib.hid hd
      clear hd
      cases d with
      | true =>
        have HT := Lib.hid (show mt = true by rw [HM.out, HD.out]; simp)
        go_wp2
        try rw [Exit.noGoto_ret]
        go_ret
        exact ⟨by rw [HT.out]; rfl, HB1.out.trans ((HB2.out.trans ((HQ3.out.trans (hbq.mono HQ3.out.size)).mono HB2.out.size)).mono HB1.out.size)⟩
      | false =>
        go_wp2
        go_roundw
        case rel => exact ⟨HQ3.out.trans (hbq.mono HQ3.out.size), .inr (.inl ⟨rfl, HD.out⟩)⟩
        case measure => simp [intOf]
    · have HBC := Lib.hid hb
      have HZ1 := Lib.hid z1
      have hts := HTS.out wr hb
      obtain ⟨c0, c1, c2, c3, c4, c5, c6, c7⟩ := hts
      have hbe := (Below.refl wr.heap.size wr).alloc (Nat.le_refl _) (.cells #[.func (.func 117) #[] #[], .func (.func 118) #[] #[]] 158)
      have k0 := cell_new1 wr #[.func (.func 117) #[] #[], .func (.func 118) #[] #[]] 158 0
      have hzz : (wr.alloc (.cells #[.func (.func 117) #[] #[], .func (.func 118) #[] #[]] 158)).heap.size = wr.heap.size + 1 := by simp
      obtain ⟨W3, hW3⟩ : ∃ z, wr.alloc (.cells #[.func (.func 117) #[] #[], .func (.func 118) #[] #[]] 158) = z := ⟨_, rfl⟩
      rw [hW3] at hbe k0 hzz
      have HQ3 := Lib.hid (hb.trans (hbe.mono hb.size))
      have HCELL := Lib.hid (show ∀ wx, Below W3.heap.size W3 wx → wx.cell? ⟨wr.heap.size, 0, none⟩ = some (.func (.func 117) #[] #[]) ∧ wx.cell? ⟨w.heap.size, 1, none⟩ = some (.int .i64 v1) ∧ wx.cell? ⟨w.heap.size + 1, 0, none⟩ = some (.int .i64 hx) ∧ wx.cell? ⟨w.heap.size + 1, 1, none⟩ = some (.int .i64 sx) ∧ wx.cell? ⟨w.heap.size + 1 + 1, 0, none⟩ = some (.int .i64 hy) ∧ wx.cell? ⟨w.heap.size + 1 + 1, 1, none⟩ = some (.int .i64 sy) from fun wx h => by
        have h1 := HB2.out.trans ((HQ3.out.trans (h.mono HQ3.out.size)).mono HB2.out.size)
        exact ⟨(h.cell (p := ⟨wr.heap.size, 0, none⟩) (by simp; omega)).trans k0, HV1.out wx h1, HP.out wx h1⟩)
      clear hb hbe k0 hzz z1
      go_wp2_with fail
      go_upto_region 4 with (fail)
      clear hW3 c0 c1 c2 c3 c4 c5 c6 c7
      have hbq : Below W3.heap.size W3 W3.drew := (Below.refl _ _).drew
      have HS := Lib.hid (HCELL.out _ hbq)
      refine wp_region_held_drew (S := fun wx => wx.cell? ⟨wr.heap.size, 0, none⟩ = some (.func (.func 117) #[] #[]) ∧ wx.cell? ⟨w.heap.size, 1, none⟩ = some (.int .i64 v1) ∧ wx.cell? ⟨w.heap.size + 1, 0, none⟩ = some (.int .i64 hx) ∧ wx.cell? ⟨w.heap.size + 1, 1, none⟩ = some (.int .i64 sx) ∧ wx.cell? ⟨w.heap.size + 1 + 1, 0, none⟩ = some (.int .i64 hy) ∧ wx.cell? ⟨w.heap.size + 1 + 1, 1, none⟩ = some (.int .i64 sy)) (by kernel_rfl) HS.out (fun _ => ?_)
      refine hTake (i := 0) (d := 16) (v := .pointer (some ⟨wr.heap.size, 0, none⟩)) rfl rfl (by kernel_rfl) (by kernel_rfl) (by kernel_rfl) (fun _ _ _ h => h) (Or.inl ⟨rfl, ?gr⟩) HS.out ?_
      case gr =>
        rintro W' ⟨s0, s1, s2, s3, s4, s5⟩
        go_simp
      simp only [Act.put, List.setIfInBounds_toArray, List.set_cons_zero, List.set_cons_succ]
      refine hTake (i := 1) (d := 17) (v := .func (.func 117) #[] #[]) rfl rfl (by kernel_rfl) (by kernel_rfl) (by kernel_rfl) (fun _ _ _ h => h) (Or.inl ⟨rfl, ?gr⟩) HS.out ?_
      case gr =>
        rintro W' ⟨s0, s1, s2, s3, s4, s5⟩
        go_simp
      simp only [Act.put, List.setIfInBounds_toArray, List.set_cons_zero, List.set_cons_succ]
      refine hTake (i := 2) (d := 18) (v := .agg #[.int .i64 hx, .int .i64 sx]) rfl rfl (by kernel_rfl) (by kernel_rfl) (by kernel_rfl) (fun _ _ _ h => h) (Or.inl ⟨rfl, ?gr⟩) HS.out ?_
      case gr =>
        rintro W' ⟨s0, s1, s2, s3, s4, s5⟩
        go_simp
      simp only [Act.put, List.setIfInBounds_toArray, List.set_cons_zero, List.set_cons_succ]
      refine hTake (i := 3) (d := 19) (v := .agg #[.int .i64 hy, .int .i64 sy]) rfl rfl (by kernel_rfl) (by kernel_rfl) (by kernel_rfl) (fun _ _ _ h => h) (Or.inl ⟨rfl, ?gr⟩) HS.out ?_
      case gr =>
        rintro W' ⟨s0, s1, s2, s3, s4, s5⟩
        go_simp
      simp only [Act.put, List.setIfInBounds_toArray, List.set_cons_zero, List.set_cons_succ]
      refine hTake (i := 5) (d := 21) (v := .int .i64 1) rfl rfl (by kernel_rfl) (by kernel_rfl) (by kernel_rfl) (fun _ _ _ h => h) (Or.inl ⟨rfl, ?gr⟩) HS.out ?_
      case gr =>
        rintro W' ⟨s0, s1, s2, s3, s4, s5⟩
        go_simp
      simp only [Act.put, List.setIfInBounds_toArray, List.set_cons_zero, List.set_cons_succ]
      refine hTake (i := 6) (d := 22) (v := .pointer (some ⟨w.heap.size, 1, none⟩)) rfl rfl (by kernel_rfl) (by kernel_rfl) (by kernel_rfl) (fun _ _ _ h => h) (Or.inl ⟨rfl, ?gr⟩) HS.out ?_
      case gr =>
        rintro W' ⟨s0, s1, s2, s3, s4, s5⟩
        go_simp
      simp only [Act.put, List.setIfInBounds_toArray, List.set_cons_zero, List.set_cons_succ]
      refine hTake (i := 7) (d := 23) (v := .int .i64 v1) rfl rfl (by kernel_rfl) (by kernel_rfl) (by kernel_rfl) (fun _ _ _ h => h) (Or.inl ⟨rfl, ?gr⟩) HS.out ?_
      case gr =>
        rintro W' ⟨s0, s1, s2, s3, s4, s5⟩
        go_simp
      simp only [Act.put, List.setIfInBounds_toArray, List.set_cons_zero, List.set_cons_succ]
      refine wpAnyH_ready (rs := [4]) (by kernel_rfl) (by simp) ?_
      refine AllReadyH.cons rfl (fun K hK => ?_) AllReadyH.nil
      rw [if_pos (by rfl)]
      go_simp
      (with_reducible refine (HR2.out _).mono ?_)
      rintro e wc ⟨rfl, hbc⟩
      replace hbq := hbq.trans (hbc.mono hbq.size)
      have HS := Lib.hid (HCELL.out _ hbq)
      clear hbc
      refine hK.out _ _ HS.out (fun _ => ?_)
      clear hK K
      try simp only [Act.put, List.setIfInBounds_toArray, List.set_cons_zero, List.set_cons_succ]
      refine hTake (i := 8) (d := 24) (v := .bool (decide (r2 ≥ v1))) rfl rfl (by kernel_rfl) (by kernel_rfl) (by kernel_rfl) (fun _ _ _ h => h) (Or.inl ⟨rfl, ?gr⟩) HS.out ?_
      case gr =>
        rintro W' ⟨s0, s1, s2, s3, s4, s5⟩
        go_simp
      simp only [Act.put, List.setIfInBounds_toArray, List.set_cons_zero, List.set_cons_succ]
      refine wpAnyH_done (by kernel_rfl) ?_ _
      obtain ⟨d, hd⟩ : ∃ z, decide (r2 ≥ v1) = z := ⟨_, rfl⟩
      rw [hd]
      have HD := Lib.hid hd
      clear hd
      cases d with
      | true =>
        have HT := Lib.hid (show mt = true by rw [HM.out, HD.out]; simp)
        go_wp2
        try rw [Exit.noGoto_ret]
        go_ret
        exact ⟨by rw [HT.out]; rfl, HB1.out.trans ((HB2.out.trans ((HQ3.out.trans (hbq.mono HQ3.out.size)).mono HB2.out.size)).mono HB1.out.size)⟩
      | false =>
        go_wp2
        go_roundw
        case rel => exact ⟨HQ3.out.trans (hbq.mono HQ3.out.size), .inr (.inr (.inl ⟨rfl, HZ1.out, HD.out⟩))⟩
        case measure => simp [intOf]
    · have HBC := Lib.hid hb
      have HZ1 := Lib.hid z1
      have HZ2 := Lib.hid z2
      have hts := HTS.out wr hb
      obtain ⟨c0, c1, c2, c3, c4, c5, c6, c7⟩ := hts
      have hbe := (Below.refl wr.heap.size wr).alloc (Nat.le_refl _) (.cells #[.func (.func 119) #[] #[], .func (.func 120) #[] #[]] 158)
      have k0 := cell_new1 wr #[.func (.func 119) #[] #[], .func (.func 120) #[] #[]] 158 0
      have hzz : (wr.alloc (.cells #[.func (.func 119) #[] #[], .func (.func 120) #[] #[]] 158)).heap.size = wr.heap.size + 1 := by simp
      obtain ⟨W3, hW3⟩ : ∃ z, wr.alloc (.cells #[.func (.func 119) #[] #[], .func (.func 120) #[] #[]] 158) = z := ⟨_, rfl⟩
      rw [hW3] at hbe k0 hzz
      have HQ3 := Lib.hid (hb.trans (hbe.mono hb.size))
      have HCELL := Lib.hid (show ∀ wx, Below W3.heap.size W3 wx → wx.cell? ⟨wr.heap.size, 0, none⟩ = some (.func (.func 119) #[] #[]) ∧ wx.cell? ⟨w.heap.size, 2, none⟩ = some (.int .i64 v2) ∧ wx.cell? ⟨w.heap.size + 1, 0, none⟩ = some (.int .i64 hx) ∧ wx.cell? ⟨w.heap.size + 1, 1, none⟩ = some (.int .i64 sx) ∧ wx.cell? ⟨w.heap.size + 1 + 1, 0, none⟩ = some (.int .i64 hy) ∧ wx.cell? ⟨w.heap.size + 1 + 1, 1, none⟩ = some (.int .i64 sy) from fun wx h => by
        have h1 := HB2.out.trans ((HQ3.out.trans (h.mono HQ3.out.size)).mono HB2.out.size)
        exact ⟨(h.cell (p := ⟨wr.heap.size, 0, none⟩) (by simp; omega)).trans k0, HV2.out wx h1, HP.out wx h1⟩)
      clear hb hbe k0 hzz z1 z2
      go_wp2_with fail
      go_upto_region 4 with (fail)
      clear hW3 c0 c1 c2 c3 c4 c5 c6 c7
      have hbq : Below W3.heap.size W3 W3.drew := (Below.refl _ _).drew
      have HS := Lib.hid (HCELL.out _ hbq)
      refine wp_region_held_drew (S := fun wx => wx.cell? ⟨wr.heap.size, 0, none⟩ = some (.func (.func 119) #[] #[]) ∧ wx.cell? ⟨w.heap.size, 2, none⟩ = some (.int .i64 v2) ∧ wx.cell? ⟨w.heap.size + 1, 0, none⟩ = some (.int .i64 hx) ∧ wx.cell? ⟨w.heap.size + 1, 1, none⟩ = some (.int .i64 sx) ∧ wx.cell? ⟨w.heap.size + 1 + 1, 0, none⟩ = some (.int .i64 hy) ∧ wx.cell? ⟨w.heap.size + 1 + 1, 1, none⟩ = some (.int .i64 sy)) (by kernel_rfl) HS.out (fun _ => ?_)
      refine hTake (i := 0) (d := 16) (v := .pointer (some ⟨wr.heap.size, 0, none⟩)) rfl rfl (by kernel_rfl) (by kernel_rfl) (by kernel_rfl) (fun _ _ _ h => h) (Or.inl ⟨rfl, ?gr⟩) HS.out ?_
      case gr =>
        rintro W' ⟨s0, s1, s2, s3, s4, s5⟩
        go_simp
      simp only [Act.put, List.setIfInBounds_toArray, List.set_cons_zero, List.set_cons_succ]
      refine hTake (i := 1) (d := 17) (v := .func (.func 119) #[] #[]) rfl rfl (by kernel_rfl) (by kernel_rfl) (by kernel_rfl) (fun _ _ _ h => h) (Or.inl ⟨rfl, ?gr⟩) HS.out ?_
      case gr =>
        rintro W' ⟨s0, s1, s2, s3, s4, s5⟩
        go_simp
      simp only [Act.put, List.setIfInBounds_toArray, List.set_cons_zero, List.set_cons_succ]
      refine hTake (i := 2) (d := 18) (v := .agg #[.int .i64 hx, .int .i64 sx]) rfl rfl (by kernel_rfl) (by kernel_rfl) (by kernel_rfl) (fun _ _ _ h => h) (Or.inl ⟨rfl, ?gr⟩) HS.out ?_
      case gr =>
        rintro W' ⟨s0, s1, s2, s3, s4, s5⟩
        go_simp
      simp only [Act.put, List.setIfInBounds_toArray, List.set_cons_zero, List.set_cons_succ]
      refine hTake (i := 3) (d := 19) (v := .agg #[.int .i64 hy, .int .i64 sy]) rfl rfl (by kernel_rfl) (by kernel_rfl) (by kernel_rfl) (fun _ _ _ h => h) (Or.inl ⟨rfl, ?gr⟩) HS.out ?_
      case gr =>
        rintro W' ⟨s0, s1, s2, s3, s4, s5⟩
        go_simp
      simp only [Act.put, List.setIfInBounds_toArray, List.set_cons_zero, List.set_cons_succ]
      refine hTake (i := 5) (d := 21) (v := .int .i64 2) rfl rfl (by kernel_rfl) (by kernel_rfl) (by kernel_rfl) (fun _ _ _ h => h) (Or.inl ⟨rfl, ?gr⟩) HS.out ?_
      case gr =>
        rintro W' ⟨s0, s1, s2, s3, s4, s5⟩
        go_simp
      simp only [Act.put, List.setIfInBounds_toArray, List.set_cons_zero, List.set_cons_succ]
      refine hTake (i := 6) (d := 22) (v := .pointer (some ⟨w.heap.size, 2, none⟩)) rfl rfl (by kernel_rfl) (by kernel_rfl) (by kernel_rfl) (fun _ _ _ h => h) (Or.inl ⟨rfl, ?gr⟩) HS.out ?_
      case gr =>
        rintro W' ⟨s0, s1, s2, s3, s4, s5⟩
        go_simp
      simp only [Act.put, List.setIfInBounds_toArray, List.set_cons_zero, List.set_cons_succ]
      refine hTake (i := 7) (d := 23) (v := .int .i64 v2) rfl rfl (by kernel_rfl) (by kernel_rfl) (by kernel_rfl) (fun _ _ _ h => h) (Or.inl ⟨rfl, ?gr⟩) HS.out ?_
      case gr =>
        rintro W' ⟨s0, s1, s2, s3, s4, s5⟩
        go_simp
      simp only [Act.put, List.setIfInBounds_toArray, List.set_cons_zero, List.set_cons_succ]
      refine wpAnyH_ready (rs := [4]) (by kernel_rfl) (by simp) ?_
      refine AllReadyH.cons rfl (fun K hK => ?_) AllReadyH.nil
      rw [if_pos (by rfl)]
      go_simp
      (with_reducible refine (HR3.out _).mono ?_)
      rintro e wc ⟨rfl, hbc⟩
      replace hbq := hbq.trans (hbc.mono hbq.size)
      have HS := Lib.hid (HCELL.out _ hbq)
      clear hbc
      refine hK.out _ _ HS.out (fun _ => ?_)
      clear hK K
      try simp only [Act.put, List.setIfInBounds_toArray, List.set_cons_zero, List.set_cons_succ]
      refine hTake (i := 8) (d := 24) (v := .bool (decide (r3 ≥ v2))) rfl rfl (by kernel_rfl) (by kernel_rfl) (by kernel_rfl) (fun _ _ _ h => h) (Or.inl ⟨rfl, ?gr⟩) HS.out ?_
      case gr =>
        rintro W' ⟨s0, s1, s2, s3, s4, s5⟩
        go_simp
      simp only [Act.put, List.setIfInBounds_toArray, List.set_cons_zero, List.set_cons_succ]
      refine wpAnyH_done (by kernel_rfl) ?_ _
      obtain ⟨d, hd⟩ : ∃ z, decide (r3 ≥ v2) = z := ⟨_, rfl⟩
      rw [hd]
      have HD := Lib.hid hd
      clear hd
      cases d with
      | true =>
        have HT := Lib.hid (show mt = true by rw [HM.out, HD.out]; simp)
        go_wp2
        try rw [Exit.noGoto_ret]
        go_ret
        exact ⟨by rw [HT.out]; rfl, HB1.out.trans ((HB2.out.trans ((HQ3.out.trans (hbq.mono HQ3.out.size)).mono HB2.out.size)).mono HB1.out.size)⟩
      | false =>
        go_wp2
        go_roundw
        case rel => exact ⟨HQ3.out.trans (hbq.mono HQ3.out.size), .inr (.inr (.inr (.inl ⟨rfl, HZ1.out, HZ2.out, HD.out⟩)))⟩
        case measure => simp [intOf]
    · have HBC := Lib.hid hb
      have HZ1 := Lib.hid z1
      have HZ2 := Lib.hid z2
      have HZ3 := Lib.hid z3
      have hts := HTS.out wr hb
      obtain ⟨c0, c1, c2, c3, c4, c5, c6, c7⟩ := hts
      have hbe := (Below.refl wr.heap.size wr).alloc (Nat.le_refl _) (.cells #[.func (.func 121) #[] #[], .func (.func 122) #[] #[]] 158)
      have k0 := cell_new1 wr #[.func (.func 121) #[] #[], .func (.func 122) #[] #[]] 158 0
      have hzz : (wr.alloc (.cells #[.func (.func 121) #[] #[], .func (.func 122) #[] #[]] 158)).heap.size = wr.heap.size + 1 := by simp
      obtain ⟨W3, hW3⟩ : ∃ z, wr.alloc (.cells #[.func (.func 121) #[] #[], .func (.func 122) #[] #[]] 158) = z := ⟨_, rfl⟩
      rw [hW3] at hbe k0 hzz
      have HQ3 := Lib.hid (hb.trans (hbe.mono hb.size))
      have HCELL := Lib.hid (show ∀ wx, Below W3.heap.size W3 wx → wx.cell? ⟨wr.heap.size, 0, none⟩ = some (.func (.func 121) #[] #[]) ∧ wx.cell? ⟨w.heap.size, 3, none⟩ = some (.int .i64 v3) ∧ wx.cell? ⟨w.heap.size + 1, 0, none⟩ = some (.int .i64 hx) ∧ wx.cell? ⟨w.heap.size + 1, 1, none⟩ = some (.int .i64 sx) ∧ wx.cell? ⟨w.heap.size + 1 + 1, 0, none⟩ = some (.int .i64 hy) ∧ wx.cell? ⟨w.heap.size + 1 + 1, 1, none⟩ = some (.int .i64 sy) from fun wx h => by
        have h1 := HB2.out.trans ((HQ3.out.trans (h.mono HQ3.out.size)).mono HB2.out.size)
        exact ⟨(h.cell (p := ⟨wr.heap.size, 0, none⟩) (by simp; omega)).trans k0, HV3.out wx h1, HP.out wx h1⟩)
      clear hb hbe k0 hzz z1 z2 z3
      go_wp2_with fail
      go_upto_region 4 with (fail)
      clear hW3 c0 c1 c2 c3 c4 c5 c6 c7
      have hbq : Below W3.heap.size W3 W3.drew := (Below.refl _ _).drew
      have HS := Lib.hid (HCELL.out _ hbq)
      refine wp_region_held_drew (S := fun wx => wx.cell? ⟨wr.heap.size, 0, none⟩ = some (.func (.func 121) #[] #[]) ∧ wx.cell? ⟨w.heap.size, 3, none⟩ = some (.int .i64 v3) ∧ wx.cell? ⟨w.heap.size + 1, 0, none⟩ = some (.int .i64 hx) ∧ wx.cell? ⟨w.heap.size + 1, 1, none⟩ = some (.int .i64 sx) ∧ wx.cell? ⟨w.heap.size + 1 + 1, 0, none⟩ = some (.int .i64 hy) ∧ wx.cell? ⟨w.heap.size + 1 + 1, 1, none⟩ = some (.int .i64 sy)) (by kernel_rfl) HS.out (fun _ => ?_)
      refine hTake (i := 0) (d := 16) (v := .pointer (some ⟨wr.heap.size, 0, none⟩)) rfl rfl (by kernel_rfl) (by kernel_rfl) (by kernel_rfl) (fun _ _ _ h => h) (Or.inl ⟨rfl, ?gr⟩) HS.out ?_
      case gr =>
        rintro W' ⟨s0, s1, s2, s3, s4, s5⟩
        go_simp
      simp only [Act.put, List.setIfInBounds_toArray, List.set_cons_zero, List.set_cons_succ]
      refine hTake (i := 1) (d := 17) (v := .func (.func 121) #[] #[]) rfl rfl (by kernel_rfl) (by kernel_rfl) (by kernel_rfl) (fun _ _ _ h => h) (Or.inl ⟨rfl, ?gr⟩) HS.out ?_
      case gr =>
        rintro W' ⟨s0, s1, s2, s3, s4, s5⟩
        go_simp
      simp only [Act.put, List.setIfInBounds_toArray, List.set_cons_zero, List.set_cons_succ]
      refine hTake (i := 2) (d := 18) (v := .agg #[.int .i64 hx, .int .i64 sx]) rfl rfl (by kernel_rfl) (by kernel_rfl) (by kernel_rfl) (fun _ _ _ h => h) (Or.inl ⟨rfl, ?gr⟩) HS.out ?_
      case gr =>
        rintro W' ⟨s0, s1, s2, s3, s4, s5⟩
        go_simp
      simp only [Act.put, List.setIfInBounds_toArray, List.set_cons_zero, List.set_cons_succ]
      refine hTake (i := 3) (d := 19) (v := .agg #[.int .i64 hy, .int .i64 sy]) rfl rfl (by kernel_rfl) (by kernel_rfl) (by kernel_rfl) (fun _ _ _ h => h) (Or.inl ⟨rfl, ?gr⟩) HS.out ?_
      case gr =>
        rintro W' ⟨s0, s1, s2, s3, s4, s5⟩
        go_simp
      simp only [Act.put, List.setIfInBounds_toArray, List.set_cons_zero, List.set_cons_succ]
      refine hTake (i := 5) (d := 21) (v := .int .i64 3) rfl rfl (by kernel_rfl) (by kernel_rfl) (by kernel_rfl) (fun _ _ _ h => h) (Or.inl ⟨rfl, ?gr⟩) HS.out ?_
      case gr =>
        rintro W' ⟨s0, s1, s2, s3, s4, s5⟩
        go_simp
      simp only [Act.put, List.setIfInBounds_toArray, List.set_cons_zero, List.set_cons_succ]
      refine hTake (i := 6) (d := 22) (v := .pointer (some ⟨w.heap.size, 3, none⟩)) rfl rfl (by kernel_rfl) (by kernel_rfl) (by kernel_rfl) (fun _ _ _ h => h) (Or.inl ⟨rfl, ?gr⟩) HS.out ?_
      case gr =>
        rintro W' ⟨s0, s1, s2, s3, s4, s5⟩
        go_simp
      simp only [Act.put, List.setIfInBounds_toArray, List.set_cons_zero, List.set_cons_succ]
      refine hTake (i := 7) (d := 23) (v := .int .i64 v3) rfl rfl (by kernel_rfl) (by kernel_rfl) (by kernel_rfl) (fun _ _ _ h => h) (Or.inl ⟨rfl, ?gr⟩) HS.out ?_
      case gr =>
        rintro W' ⟨s0, s1, s2, s3, s4, s5⟩
        go_simp
      simp only [Act.put, List.setIfInBounds_toArray, List.set_cons_zero, List.set_cons_succ]
      refine wpAnyH_ready (rs := [4]) (by kernel_rfl) (by simp) ?_
      refine AllReadyH.cons rfl (fun K hK => ?_) AllReadyH.nil
      rw [if_pos (by rfl)]
      go_simp
      (with_reducible refine (HR4.out _).mono ?_)
      rintro e wc ⟨rfl, hbc⟩
      replace hbq := hbq.trans (hbc.mono hbq.size)
      have HS := Lib.hid (HCELL.out _ hbq)
      clear hbc
      refine hK.out _ _ HS.out (fun _ => ?_)
      clear hK K
      try simp only [Act.put, List.setIfInBounds_toArray, List.set_cons_zero, List.set_cons_succ]
      refine hTake (i := 8) (d := 24) (v := .bool (decide (r4 ≥ v3))) rfl rfl (by kernel_rfl) (by kernel_rfl) (by kernel_rfl) (fun _ _ _ h => h) (Or.inl ⟨rfl, ?gr⟩) HS.out ?_
      case gr =>
        rintro W' ⟨s0, s1, s2, s3, s4, s5⟩
        go_simp
      simp only [Act.put, List.setIfInBounds_toArray, List.set_cons_zero, List.set_cons_succ]
      refine wpAnyH_done (by kernel_rfl) ?_ _
      obtain ⟨d, hd⟩ : ∃ z, decide (r4 ≥ v3) = z := ⟨_, rfl⟩
      rw [hd]
      have HD := Lib.hid hd
      clear hd
      cases d with
      | true =>
        have HT := Lib.hid (show mt = true by rw [HM.out, HD.out]; simp)
        go_wp2
        try rw [Exit.noGoto_ret]
        go_ret
        exact ⟨by rw [HT.out]; rfl, HB1.out.trans ((HB2.out.trans ((HQ3.out.trans (hbq.mono HQ3.out.size)).mono HB2.out.size)).mono HB1.out.size)⟩
      | false =>
        go_wp2
        go_roundw
        case rel => exact ⟨HQ3.out.trans (hbq.mono HQ3.out.size), .inr (.inr (.inr (.inr (⟨rfl, HZ1.out, HZ2.out, HZ3.out, HD.out⟩))))⟩
        case measure => simp [intOf]
    · have HD := Lib.hid (show mt = false by rw [HM.out, z1, z2, z3, z4]; rfl)
      have HBC := Lib.hid hb
      clear hb z1 z2 z3 z4
      go_wp2
      try rw [Exit.noGoto_ret]
      go_ret
      exact ⟨by rw [HD.out]; rfl, HB1.out.trans ((HB2.out.trans (HBC.out.mono HB2.out.size)).mono HB1.out.size)⟩
end Go.Proofs.YtekambdnmaompaaGreat.SW
