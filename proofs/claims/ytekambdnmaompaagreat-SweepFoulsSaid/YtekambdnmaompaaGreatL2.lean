/- Contract of the specification: Fouls. -/
import Derived.Test.YtekambdnmaompaaGreatL2A
import Derived.Test.YtekambdnmaompaaGreatJ5
import Derived.Test.YtekambdnmaompaaGreatJ6
namespace Go.Proofs.YtekambdnmaompaaGreat.SW
set_option linter.unusedVariables false
set_option linter.unusedSimpArgs false
open Go.RowKit

set_option maxRecDepth 100000 in
set_option maxHeartbeats 8000000 in
theorem rFouls_any (A A2 AP : Option Addr) (c c2 cp N n : Nat) (p : Pl) (l : List S) (w : World) (hP : PlAt w w.heap.size A c A2 c2 p) (hV : Vld p) (hN : p.rails.length = N) (hN2 : N ≤ 12) (hn : l.length = n) (hn2 : n ≤ 6) (hS : Sl w w.heap.size 2 CS AP l) (hpr : ∀ x ∈ l, prB x = true) :
    Calls Tryz.prog 34 #[.agg #[.slice A p.nodes.length c, .slice A2 N c2], .slice AP n cp] w fun e w' => ∃ v, e = .returned v ∧ Own w' w.heap.size 60 4 fF v (foulsL p l) ∧ Below w.heap.size w w' := by
  obtain ⟨i0, hi, hz0, hz1, hz2⟩ := info_parts info60
  have hb1 := (Below.refl _ w).alloc (Nat.le_refl _) (.cells #[.slice A p.nodes.length c, .slice A2 N c2] 25)
  have q1 := Rw.new w #[.slice A p.nodes.length c, .slice A2 N c2] 25
  have hzz : (w.alloc (.cells #[.slice A p.nodes.length c, .slice A2 N c2] 25)).heap.size = w.heap.size + 1 := by simp
  obtain ⟨W1, hW1⟩ : ∃ z, w.alloc (.cells #[.slice A p.nodes.length c, .slice A2 N c2] 25) = z := ⟨_, rfl⟩
  rw [hW1] at hb1 q1 hzz
  have HB1 := Lib.hid hb1
  have HZ1 := Lib.hid hzz
  have HR := Lib.hid (show ∀ wx, Below W1.heap.size W1 wx → Rw wx w.heap.size 25 #[.slice A p.nodes.length c, .slice A2 N c2] from fun wx h => q1.below h (by omega))
  have HSL := Lib.hid (show ∀ wx, Below W1.heap.size W1 wx → ∀ i x, l[i]? = some x → ∃ b o, AP = some ⟨b, o, none⟩ ∧ wx.cell? ⟨b, o + i * 2, none⟩ = some (.int .i64 x.x) ∧ wx.cell? ⟨b, o + i * 2 + 1, none⟩ = some (.int .i64 x.y) from fun wx hx i x hi => by
    obtain ⟨hl, e⟩ := List.getElem?_eq_some_iff.1 hi
    obtain ⟨b, o, rfl, hb, p0, p1⟩ := spot_at hS hl
    rw [e] at p0 p1
    have hbb := hb1.trans (hx.mono hb1.size)
    exact ⟨b, o, rfl, (hbb.cell (p := ⟨b, o + i * 2, none⟩) hb).trans p0, (hbb.cell (p := ⟨b, o + i * 2 + 1, none⟩) hb).trans p1⟩)
  have HRL := Lib.hid (show ∀ a x b y, a < N → b < N → ∀ u v, l[x]? = some u → l[y]? = some v → ∀ wx, Below W1.heap.size W1 wx → Calls Tryz.prog 71 #[.agg #[.slice A p.nodes.length c, .slice A2 N c2], .int .i64 (a : Int), .agg #[.int .i64 u.x, .int .i64 u.y], .int .i64 (b : Int), .agg #[.int .i64 v.x, .int .i64 v.y]] wx fun e w' => e = .returned (.bool (rF p l a x b y)) ∧ Below wx.heap.size wx w' from fun a x b y ha hb u v hu hv wx hw => by
    have h1 := Vld.rl hV (show a < p.rails.length by omega)
    have h2 := Vld.rl hV (show b < p.rails.length by omega)
    have pu := hpr u (List.mem_of_getElem? hu)
    have pv := hpr v (List.mem_of_getElem? hv)
    have := rRails_any A A2 c c2 p a b _ _ u.x u.y v.x v.y wx (((hP.below hb1).below (hw.mono hb1.size)).more (Nat.le_trans hb1.size hw.size)) h1 h2 (prB_pr pu) (prB_pr pv)
    have e : rF p l a x b y = railsB (lineOf p p.rails[a]) (lineOf p p.rails[b]) a b u.x u.y v.x v.y := by unfold rF; rw [hu, hv, lnR_eq (show a < p.rails.length by omega), lnR_eq (show b < p.rails.length by omega)]
    rw [e]
    clear e
    subst hN
    exact this)
  have HN := Lib.hid hn
  have hfl : foulsL p l = f1 (rF p l) N n N := by unfold foulsL; rw [hN, hn]
  rw [hfl]
  obtain ⟨R, hR⟩ : ∃ R, rF p l = R := ⟨_, rfl⟩
  rw [hR] at HRL ⊢
  have HPL := Lib.hid (And.intro hN2 hn2)
  clear hb1 q1 hP hV hN hS hpr hn hfl hR hzz
  go_enter Tryz.func34, Tryz.ntmps34
  go_wp2
  go_loopw [5, 6] (fun s5 s6 wr => ∃ a : Nat, a ≤ N ∧ s6 = .int .i64 (a : Int) ∧ Own wr W1.heap.size 60 4 fF s5 (f1 R N n a) ∧ Below W1.heap.size W1 wr) (fun _ s6 _ => N - (intOf s6).toNat)
  case atStart => exact ⟨0, Nat.zero_le _, rfl, Own.nil _ _ _ _ _, Below.refl _ _⟩
  case round =>
    obtain ⟨a, ha, rfl, hown, hb⟩ := hrel
    have HO := Lib.hid hown; have HB := Lib.hid hb
    have r1 := HR.out _ hb
    have e0 := r1.cell 0; have e1 := r1.cell 1
    have ha12 : a ≤ 12 := by have := HPL.out; omega
    clear hown hb r1
    by_cases haN : a < N
    · have haa : (a : Int) < (N : Int) := by omega
      have HA := Lib.hid haN
      go_wp2
      go_loopw [5, 7] (fun s5 s7 wr => ∃ x : Nat, x ≤ n ∧ s7 = .int .i64 (x : Int) ∧ Own wr W1.heap.size 60 4 fF s5 (f1 R N n a ++ f2 R N n a x) ∧ Below W1.heap.size W1 wr) (fun _ s7 _ => n - (intOf s7).toNat)
      case atStart => exact ⟨0, Nat.zero_le _, rfl, by simpa [f2] using HO.out, HB.out⟩
      case round =>
        obtain ⟨x, hx, rfl, hown, hb⟩ := hrel
        have HO2 := Lib.hid hown; have HB2 := Lib.hid hb
        have hx6 : x ≤ 6 := by have := HPL.out; omega
        clear hown
        by_cases hxn : x < n
        · have hxx : (x : Int) < (n : Int) := by omega
          have HXN := Lib.hid hxn
          obtain ⟨u, hu⟩ : ∃ z, l[x]? = some z := ⟨_, List.getElem?_eq_getElem (by have := HN.out; omega)⟩
          have HU := Lib.hid hu
          obtain ⟨bp, op, eA, -, -⟩ := HSL.out _ hb x u hu
          subst eA
          clear hb hu
          go_wp2
          go_loopw [5, 8] (fun s5 s8 wr => ∃ j : Nat, j ≤ N - a ∧ s8 = .int .i64 ((a + j : Nat) : Int) ∧ Own wr W1.heap.size 60 4 fF s5 ((f1 R N n a ++ f2 R N n a x) ++ f3 R n a x j) ∧ Below W1.heap.size W1 wr) (fun _ s8 _ => N - (intOf s8).toNat)
          case atStart => exact ⟨0, Nat.zero_le _, rfl, by simpa [f3] using HO2.out, HB2.out⟩
          case round =>
            obtain ⟨j, hj, rfl, hown, hb⟩ := hrel
            have HO3 := Lib.hid hown; have HB3 := Lib.hid hb
            have r1 := HR.out _ hb
            have e0 := r1.cell 0; have e1 := r1.cell 1
            have hj12 : j ≤ 12 := by omega
            obtain ⟨b, hbj⟩ : ∃ b, a + j = b := ⟨_, rfl⟩
            rw [hbj]
            have HBJ := Lib.hid hbj
            have hb24 : b ≤ 24 := by omega
            have hab : a ≤ b := by omega
            clear hown hb r1 hbj
            by_cases hbN : b < N
            · have hbb : (b : Int) < (N : Int) := by omega
              have HBN := Lib.hid hbN
              have HAB := Lib.hid hab
              go_wp2
              go_loopw [5, 9] (fun s5 s9 wr => ∃ y : Nat, y ≤ n ∧ s9 = .int .i64 (y : Int) ∧ Own wr W1.heap.size 60 4 fF s5 (((f1 R N n a ++ f2 R N n a x) ++ f3 R n a x j) ++ f4 R a x b y) ∧ Below W1.heap.size W1 wr) (fun _ s9 _ => n - (intOf s9).toNat)
              case atStart => exact ⟨0, Nat.zero_le _, rfl, by simpa [f4] using HO3.out, HB3.out⟩
              case round =>
                obtain ⟨y, hy, rfl, hown, hb⟩ := hrel
                obtain ⟨wb, rfl⟩ : ∃ z, z = wr := ⟨_, rfl⟩
                have HO4 := Lib.hid hown; have HB4 := Lib.hid hb
                have hy6 : y ≤ 6 := by have := HPL.out; omega
                clear hown
                by_cases hyn : y < n
                · have hyy : (y : Int) < (n : Int) := by omega
                  obtain ⟨v, hv⟩ : ∃ z, l[y]? = some z := ⟨_, List.getElem?_eq_getElem (by have := HN.out; omega)⟩
                  have HV := Lib.hid hv
                  have HSC := Lib.hid (f4_succ R a x b y)
                  have HCELL := Lib.hid (show ∀ wx, Below W1.heap.size W1 wx → (wx.cell? ⟨w.heap.size, 0, none⟩ = some (.slice A p.nodes.length c) ∧ wx.cell? ⟨w.heap.size, 1, none⟩ = some (.slice A2 N c2) ∧ wx.cell? ⟨bp, op + x * 2, none⟩ = some (.int .i64 u.x) ∧ wx.cell? ⟨bp, op + x * 2 + 1, none⟩ = some (.int .i64 u.y) ∧ wx.cell? ⟨bp, op + y * 2, none⟩ = some (.int .i64 v.x) ∧ wx.cell? ⟨bp, op + y * 2 + 1, none⟩ = some (.int .i64 v.y)) from fun wx hw => by
                    have r1 := HR.out _ hw
                    obtain ⟨b1, o1, eA, p0, p1⟩ := HSL.out _ hw x u HU.out
                    obtain ⟨rfl, rfl⟩ : bp = b1 ∧ op = o1 := by simpa using eA
                    obtain ⟨b2, o2, eA2, p2, p3⟩ := HSL.out _ hw y v hv
                    obtain ⟨rfl, rfl⟩ : bp = b2 ∧ op = o2 := by simpa using eA2
                    exact ⟨r1.cell 0, r1.cell 1, p0, p1, p2, p3⟩)
                  have HRX := Lib.hid (HRL.out a x b y HA.out HBN.out u v HU.out hv)
                  have HLL := Lib.hid (f_len (R := R) (x := x) HPL.out.1 HPL.out.2 (Nat.le_of_lt HA.out) (Nat.le_of_lt HXN.out) (show j ≤ N by have := HBJ.out; have := HBN.out; omega) hy b)
                  obtain ⟨f, hf⟩ : ∃ z, R a x b y = z := ⟨_, rfl⟩
                  rw [hf] at HRX HSC
                  have y0 : (0 : Int) ≤ (y : Int) := by omega
                  have x0 : (0 : Int) ≤ (x : Int) := by omega
                  clear hb hv hf
                  by_cases hgt : a < b
                  · have hgi : (a : Int) < (b : Int) := by omega
                    rw [decide_eq_true hgt] at HSC
                    go_upto_region 14 with (fail)
                    have hbq : Below wb.heap.size wb wb.drew := (Below.refl _ _).drew
                    have HS := Lib.hid (HCELL.out _ (HB4.out.trans (hbq.mono HB4.out.size)))
                    refine wp_region_held_drew (S := fun wx => wx.cell? ⟨w.heap.size, 0, none⟩ = some (.slice A p.nodes.length c) ∧ wx.cell? ⟨w.heap.size, 1, none⟩ = some (.slice A2 N c2) ∧ wx.cell? ⟨bp, op + x * 2, none⟩ = some (.int .i64 u.x) ∧ wx.cell? ⟨bp, op + x * 2 + 1, none⟩ = some (.int .i64 u.y) ∧ wx.cell? ⟨bp, op + y * 2, none⟩ = some (.int .i64 v.x) ∧ wx.cell? ⟨bp, op + y * 2 + 1, none⟩ = some (.int .i64 v.y)) (by kernel_rfl) HS.out (fun _ => ?_)
                    refine hTake (i := 0) (d := 37) (v := .int .i64 (b : Int)) rfl rfl (by kernel_rfl) (by kernel_rfl) (by kernel_rfl) (fun _ _ _ h => h) (Or.inl ⟨rfl, ?gr⟩) HS.out ?_
                    case gr =>
                      rintro W' ⟨s0, s1, s2, s3, s4, s5⟩
                      go_simp
                    simp only [Act.put, List.setIfInBounds_toArray, List.set_cons_zero, List.set_cons_succ]
                    refine hTake (i := 1) (d := 38) (v := .int .i64 (a : Int)) rfl rfl (by kernel_rfl) (by kernel_rfl) (by kernel_rfl) (fun _ _ _ h => h) (Or.inl ⟨rfl, ?gr⟩) HS.out ?_
                    case gr =>
                      rintro W' ⟨s0, s1, s2, s3, s4, s5⟩
                      go_simp
                    simp only [Act.put, List.setIfInBounds_toArray, List.set_cons_zero, List.set_cons_succ]
                    refine hTake (i := 2) (d := 39) (v := .bool true) rfl rfl (by kernel_rfl) (by kernel_rfl) (by kernel_rfl) (fun _ _ _ h => h) (Or.inl ⟨rfl, ?gr⟩) HS.out ?_
                    case gr =>
                      rintro W' ⟨s0, s1, s2, s3, s4, s5⟩
                      go_simp
                    simp only [Act.put, List.setIfInBounds_toArray, List.set_cons_zero, List.set_cons_succ]
                    refine hTake (i := 3) (d := 40) (v := .bool true) rfl rfl (by kernel_rfl) (by kernel_rfl) (by kernel_rfl) (fun _ _ _ h => h) (Or.inl ⟨rfl, ?gr⟩) HS.out ?_
                    case gr =>
                      rintro W' ⟨s0, s1, s2, s3, s4, s5⟩
                      go_simp
                    simp only [Act.put, List.setIfInBounds_toArray, List.set_cons_zero, List.set_cons_succ]
                    refine hTake (i := 4) (d := 41) (v := undef) rfl rfl (by kernel_rfl) (by kernel_rfl) (by kernel_rfl) (fun _ _ _ h => h) (Or.inr ⟨rfl, rfl⟩) HS.out ?_
                    simp only [Act.put, List.setIfInBounds_toArray, List.set_cons_zero, List.set_cons_succ]
                    refine hTake (i := 5) (d := 42) (v := undef) rfl rfl (by kernel_rfl) (by kernel_rfl) (by kernel_rfl) (fun _ _ _ h => h) (Or.inr ⟨rfl, rfl⟩) HS.out ?_
                    simp only [Act.put, List.setIfInBounds_toArray, List.set_cons_zero, List.set_cons_succ]
                    refine hTake (i := 6) (d := 43) (v := undef) rfl rfl (by kernel_rfl) (by kernel_rfl) (by kernel_rfl) (fun _ _ _ h => h) (Or.inr ⟨rfl, rfl⟩) HS.out ?_
                    simp only [Act.put, List.setIfInBounds_toArray, List.set_cons_zero, List.set_cons_succ]
                    refine hTake (i := 7) (d := 44) (v := .bool true) rfl rfl (by kernel_rfl) (by kernel_rfl) (by kernel_rfl) (fun _ _ _ h => h) (Or.inl ⟨rfl, ?gr⟩) HS.out ?_
                    case gr =>
                      rintro W' ⟨s0, s1, s2, s3, s4, s5⟩
                      go_simp
                    simp only [Act.put, List.setIfInBounds_toArray, List.set_cons_zero, List.set_cons_succ]
                    refine hTake (i := 8) (d := 45) (v := .bool true) rfl rfl (by kernel_rfl) (by kernel_rfl) (by kernel_rfl) (fun _ _ _ h => h) (Or.inl ⟨rfl, ?gr⟩) HS.out ?_
                    case gr =>
                      rintro W' ⟨s0, s1, s2, s3, s4, s5⟩
                      go_simp
                    simp only [Act.put, List.setIfInBounds_toArray, List.set_cons_zero, List.set_cons_succ]
                    refine hTake (i := 9) (d := 46) (v := .agg #[.slice A p.nodes.length c, .slice A2 N c2]) rfl rfl (by kernel_rfl) (by kernel_rfl) (by kernel_rfl) (fun _ _ _ h => h) (Or.inl ⟨rfl, ?gr⟩) HS.out ?_
                    case gr =>
                      rintro W' ⟨s0, s1, s2, s3, s4, s5⟩
                      go_simp
                    simp only [Act.put, List.setIfInBounds_toArray, List.set_cons_zero, List.set_cons_succ]
                    refine hTake (i := 10) (d := 47) (v := .int .i64 (a : Int)) rfl rfl (by kernel_rfl) (by kernel_rfl) (by kernel_rfl) (fun _ _ _ h => h) (Or.inl ⟨rfl, ?gr⟩) HS.out ?_
                    case gr =>
                      rintro W' ⟨s0, s1, s2, s3, s4, s5⟩
                      go_simp
                    simp only [Act.put, List.setIfInBounds_toArray, List.set_cons_zero, List.set_cons_succ]
                    refine hTake (i := 11) (d := 48) (v := .slice (some ⟨bp, op, none⟩) n cp) rfl rfl (by kernel_rfl) (by kernel_rfl) (by kernel_rfl) (fun _ _ _ h => h) (Or.inl ⟨rfl, ?gr⟩) HS.out ?_
                    case gr =>
                      rintro W' ⟨s0, s1, s2, s3, s4, s5⟩
                      go_simp
                    simp only [Act.put, List.setIfInBounds_toArray, List.set_cons_zero, List.set_cons_succ]
                    refine hTake (i := 12) (d := 49) (v := .int .i64 (x : Int)) rfl rfl (by kernel_rfl) (by kernel_rfl) (by kernel_rfl) (fun _ _ _ h => h) (Or.inl ⟨rfl, ?gr⟩) HS.out ?_
                    case gr =>
                      rintro W' ⟨s0, s1, s2, s3, s4, s5⟩
                      go_simp
                    simp only [Act.put, List.setIfInBounds_toArray, List.set_cons_zero, List.set_cons_succ]
                    refine hTake (i := 13) (d := 50) (v := .pointer (some ⟨bp, op + x * 2, none⟩)) rfl rfl (by kernel_rfl) (by kernel_rfl) (by kernel_rfl) (fun _ _ _ h => h) (Or.inl ⟨rfl, ?gr⟩) HS.out ?_
                    case gr =>
                      rintro W' ⟨s0, s1, s2, s3, s4, s5⟩
                      go_simp
                    simp only [Act.put, List.setIfInBounds_toArray, List.set_cons_zero, List.set_cons_succ]
                    refine hTake (i := 14) (d := 51) (v := .agg #[.int .i64 u.x, .int .i64 u.y]) rfl rfl (by kernel_rfl) (by kernel_rfl) (by kernel_rfl) (fun _ _ _ h => h) (Or.inl ⟨rfl, ?gr⟩) HS.out ?_
                    case gr =>
                      rintro W' ⟨s0, s1, s2, s3, s4, s5⟩
                      go_simp
                    simp only [Act.put, List.setIfInBounds_toArray, List.set_cons_zero, List.set_cons_succ]
                    refine hTake (i := 15) (d := 52) (v := .int .i64 (b : Int)) rfl rfl (by kernel_rfl) (by kernel_rfl) (by kernel_rfl) (fun _ _ _ h => h) (Or.inl ⟨rfl, ?gr⟩) HS.out ?_
                    case gr =>
                      rintro W' ⟨s0, s1, s2, s3, s4, s5⟩
                      go_simp
                    simp only [Act.put, List.setIfInBounds_toArray, List.set_cons_zero, List.set_cons_succ]
                    refine hTake (i := 16) (d := 53) (v := .slice (some ⟨bp, op, none⟩) n cp) rfl rfl (by kernel_rfl) (by kernel_rfl) (by kernel_rfl) (fun _ _ _ h => h) (Or.inl ⟨rfl, ?gr⟩) HS.out ?_
                    case gr =>
                      rintro W' ⟨s0, s1, s2, s3, s4, s5⟩
                      go_simp
                    simp only [Act.put, List.setIfInBounds_toArray, List.set_cons_zero, List.set_cons_succ]
                    refine hTake (i := 17) (d := 54) (v := .int .i64 (y : Int)) rfl rfl (by kernel_rfl) (by kernel_rfl) (by kernel_rfl) (fun _ _ _ h => h) (Or.inl ⟨rfl, ?gr⟩) HS.out ?_
                    case gr =>
                      rintro W' ⟨s0, s1, s2, s3, s4, s5⟩
                      go_simp
                    simp only [Act.put, List.setIfInBounds_toArray, List.set_cons_zero, List.set_cons_succ]
                    refine hTake (i := 18) (d := 55) (v := .pointer (some ⟨bp, op + y * 2, none⟩)) rfl rfl (by kernel_rfl) (by kernel_rfl) (by kernel_rfl) (fun _ _ _ h => h) (Or.inl ⟨rfl, ?gr⟩) HS.out ?_
                    case gr =>
                      rintro W' ⟨s0, s1, s2, s3, s4, s5⟩
                      go_simp
                    simp only [Act.put, List.setIfInBounds_toArray, List.set_cons_zero, List.set_cons_succ]
                    refine hTake (i := 19) (d := 56) (v := .agg #[.int .i64 v.x, .int .i64 v.y]) rfl rfl (by kernel_rfl) (by kernel_rfl) (by kernel_rfl) (fun _ _ _ h => h) (Or.inl ⟨rfl, ?gr⟩) HS.out ?_
                    case gr =>
                      rintro W' ⟨s0, s1, s2, s3, s4, s5⟩
                      go_simp
                    simp only [Act.put, List.setIfInBounds_toArray, List.set_cons_zero, List.set_cons_succ]
                    refine wpAnyH_ready (rs := [20]) (by kernel_rfl) (by simp) ?_
                    refine AllReadyH.cons rfl (fun K hK => ?_) AllReadyH.nil
                    rw [if_pos (by rfl)]
                    go_simp
                    go_at_call 71
                    (with_reducible refine (HRX.out _ (HB4.out.trans (hbq.mono HB4.out.size))).mono ?_)
                    rintro e wc ⟨rfl, hbc⟩
                    replace hbq := hbq.trans (hbc.mono hbq.size)
                    have HS := Lib.hid (HCELL.out _ (HB4.out.trans (hbq.mono HB4.out.size)))
                    clear hbc
                    refine hK.out _ _ HS.out (fun _ => ?_)
                    clear hK K
                    try simp only [Act.put, List.setIfInBounds_toArray, List.set_cons_zero, List.set_cons_succ]
                    refine hTake (i := 21) (d := 58) (v := .bool f) rfl rfl (by kernel_rfl) (by kernel_rfl) (by kernel_rfl) (fun _ _ _ h => h) (Or.inl ⟨rfl, ?gr⟩) HS.out ?_
                    case gr =>
                      rintro W' ⟨s0, s1, s2, s3, s4, s5⟩
                      go_simp
                    simp only [Act.put, List.setIfInBounds_toArray, List.set_cons_zero, List.set_cons_succ]
                    refine wpAnyH_done (by kernel_rfl) ?_ _

                    have HBQ := Lib.hid (HB4.out.trans (hbq.mono HB4.out.size))
                    have HOQ := Lib.hid (HO4.out.below hbq (Nat.le_refl _))
                    clear hbq HS
                    cases f with
                    | true =>
                      go_wp2_with (at_builtin; go_must (refine wpList_app _ rfl (.tmp 59) (.tmp 65) _ rfl W1.heap.size 60 i0 _ 4 32 Tryz.underlying51 hi hz0 hz1 hz2 rfl (by omega) fF_len fF_one u5 _ rfl (HOQ.out.alloc _) _ _ [(⟨(a : Int), (x : Int), (b : Int), (y : Int)⟩ : Fo4)] 1 rfl (Sl.new _ _ _ _ rfl) (by simp only [maxLen, List.length_cons, List.length_nil]; have := HLL.out; omega) (by simp only [List.length_cons, List.length_nil]; have := HLL.out; omega) (by have := HBQ.out.size; simp; omega) (fun _ => .inr ⟨_, rfl⟩) ?_); intro v2 w8 o2 gr2 at2 ne2)
                      have hB8 := (HBQ.out.alloc HBQ.out.size (.cells #[.int .i64 (a : Int), .int .i64 (x : Int), .int .i64 (b : Int), .int .i64 (y : Int)] 60)).grown gr2 (by have := HBQ.out.size; simp; omega) (fun q hq => (HOQ.out.lt q hq).1)
                      go_roundw
                      case rel => exact ⟨y + 1, by omega, vi (by omega), by rw [HSC.out, if_pos (by simp), ← List.append_assoc]; exact o2, hB8⟩
                      case measure => simp [intOf] <;> omega
                    | false =>
                      go_wp2
                      go_roundw
                      case rel => exact ⟨y + 1, by omega, vi (by omega), by rw [HSC.out, if_neg (by simp), List.append_nil]; exact HOQ.out, HBQ.out⟩
                      case measure => simp [intOf] <;> omega
                  · have hgi : ¬ (a : Int) < (b : Int) := by omega
                    rw [decide_eq_false hgt] at HSC
                    by_cases hge : x ≤ y
                    · have hge' : (x : Int) ≤ (y : Int) := by omega
                      rw [decide_eq_true hge] at HSC
                      go_upto_region 14 with (fail)
                      have hbq : Below wb.heap.size wb wb.drew := (Below.refl _ _).drew
                      have HS := Lib.hid (HCELL.out _ (HB4.out.trans (hbq.mono HB4.out.size)))
                      refine wp_region_held_drew (S := fun wx => wx.cell? ⟨w.heap.size, 0, none⟩ = some (.slice A p.nodes.length c) ∧ wx.cell? ⟨w.heap.size, 1, none⟩ = some (.slice A2 N c2) ∧ wx.cell? ⟨bp, op + x * 2, none⟩ = some (.int .i64 u.x) ∧ wx.cell? ⟨bp, op + x * 2 + 1, none⟩ = some (.int .i64 u.y) ∧ wx.cell? ⟨bp, op + y * 2, none⟩ = some (.int .i64 v.x) ∧ wx.cell? ⟨bp, op + y * 2 + 1, none⟩ = some (.int .i64 v.y)) (by kernel_rfl) HS.out (fun _ => ?_)
                      refine hTake (i := 0) (d := 37) (v := .int .i64 (b : Int)) rfl rfl (by kernel_rfl) (by kernel_rfl) (by kernel_rfl) (fun _ _ _ h => h) (Or.inl ⟨rfl, ?gr⟩) HS.out ?_
                      case gr =>
                        rintro W' ⟨s0, s1, s2, s3, s4, s5⟩
                        go_simp
                      simp only [Act.put, List.setIfInBounds_toArray, List.set_cons_zero, List.set_cons_succ]
                      refine hTake (i := 1) (d := 38) (v := .int .i64 (a : Int)) rfl rfl (by kernel_rfl) (by kernel_rfl) (by kernel_rfl) (fun _ _ _ h => h) (Or.inl ⟨rfl, ?gr⟩) HS.out ?_
                      case gr =>
                        rintro W' ⟨s0, s1, s2, s3, s4, s5⟩
                        go_simp
                      simp only [Act.put, List.setIfInBounds_toArray, List.set_cons_zero, List.set_cons_succ]
                      refine hTake (i := 2) (d := 39) (v := .bool false) rfl rfl (by kernel_rfl) (by kernel_rfl) (by kernel_rfl) (fun _ _ _ h => h) (Or.inl ⟨rfl, ?gr⟩) HS.out ?_
                      case gr =>
                        rintro W' ⟨s0, s1, s2, s3, s4, s5⟩
                        go_simp
                      simp only [Act.put, List.setIfInBounds_toArray, List.set_cons_zero, List.set_cons_succ]
                      refine hTake (i := 3) (d := 40) (v := .bool false) rfl rfl (by kernel_rfl) (by kernel_rfl) (by kernel_rfl) (fun _ _ _ h => h) (Or.inl ⟨rfl, ?gr⟩) HS.out ?_
                      case gr =>
                        rintro W' ⟨s0, s1, s2, s3, s4, s5⟩
                        go_simp
                      simp only [Act.put, List.setIfInBounds_toArray, List.set_cons_zero, List.set_cons_succ]
                      refine hTake (i := 4) (d := 41) (v := .int .i64 (y : Int)) rfl rfl (by kernel_rfl) (by kernel_rfl) (by kernel_rfl) (fun _ _ _ h => h) (Or.inl ⟨rfl, ?gr⟩) HS.out ?_
                      case gr =>
                        rintro W' ⟨s0, s1, s2, s3, s4, s5⟩
                        go_simp
                      simp only [Act.put, List.setIfInBounds_toArray, List.set_cons_zero, List.set_cons_succ]
                      refine hTake (i := 5) (d := 42) (v := .int .i64 (x : Int)) rfl rfl (by kernel_rfl) (by kernel_rfl) (by kernel_rfl) (fun _ _ _ h => h) (Or.inl ⟨rfl, ?gr⟩) HS.out ?_
                      case gr =>
                        rintro W' ⟨s0, s1, s2, s3, s4, s5⟩
                        go_simp
                      simp only [Act.put, List.setIfInBounds_toArray, List.set_cons_zero, List.set_cons_succ]
                      refine hTake (i := 6) (d := 43) (v := .bool true) rfl rfl (by kernel_rfl) (by kernel_rfl) (by kernel_rfl) (fun _ _ _ h => h) (Or.inl ⟨rfl, ?gr⟩) HS.out ?_
                      case gr =>
                        rintro W' ⟨s0, s1, s2, s3, s4, s5⟩
                        go_simp
                      simp only [Act.put, List.setIfInBounds_toArray, List.set_cons_zero, List.set_cons_succ]
                      refine hTake (i := 7) (d := 44) (v := .bool true) rfl rfl (by kernel_rfl) (by kernel_rfl) (by kernel_rfl) (fun _ _ _ h => h) (Or.inl ⟨rfl, ?gr⟩) HS.out ?_
                      case gr =>
                        rintro W' ⟨s0, s1, s2, s3, s4, s5⟩
                        go_simp
                      simp only [Act.put, List.setIfInBounds_toArray, List.set_cons_zero, List.set_cons_succ]
                      refine hTake (i := 8) (d := 45) (v := .bool true) rfl rfl (by kernel_rfl) (by kernel_rfl) (by kernel_rfl) (fun _ _ _ h => h) (Or.inl ⟨rfl, ?gr⟩) HS.out ?_
                      case gr =>
                        rintro W' ⟨s0, s1, s2, s3, s4, s5⟩
                        go_simp
                      simp only [Act.put, List.setIfInBounds_toArray, List.set_cons_zero, List.set_cons_succ]
                      refine hTake (i := 9) (d := 46) (v := .agg #[.slice A p.nodes.length c, .slice A2 N c2]) rfl rfl (by kernel_rfl) (by kernel_rfl) (by kernel_rfl) (fun _ _ _ h => h) (Or.inl ⟨rfl, ?gr⟩) HS.out ?_
                      case gr =>
                        rintro W' ⟨s0, s1, s2, s3, s4, s5⟩
                        go_simp
                      simp only [Act.put, List.setIfInBounds_toArray, List.set_cons_zero, List.set_cons_succ]
                      refine hTake (i := 10) (d := 47) (v := .int .i64 (a : Int)) rfl rfl (by kernel_rfl) (by kernel_rfl) (by kernel_rfl) (fun _ _ _ h => h) (Or.inl ⟨rfl, ?gr⟩) HS.out ?_
                      case gr =>
                        rintro W' ⟨s0, s1, s2, s3, s4, s5⟩
                        go_simp
                      simp only [Act.put, List.setIfInBounds_toArray, List.set_cons_zero, List.set_cons_succ]
                      refine hTake (i := 11) (d := 48) (v := .slice (some ⟨bp, op, none⟩) n cp) rfl rfl (by kernel_rfl) (by kernel_rfl) (by kernel_rfl) (fun _ _ _ h => h) (Or.inl ⟨rfl, ?gr⟩) HS.out ?_
                      case gr =>
                        rintro W' ⟨s0, s1, s2, s3, s4, s5⟩
                        go_simp
                      simp only [Act.put, List.setIfInBounds_toArray, List.set_cons_zero, List.set_cons_succ]
                      refine hTake (i := 12) (d := 49) (v := .int .i64 (x : Int)) rfl rfl (by kernel_rfl) (by kernel_rfl) (by kernel_rfl) (fun _ _ _ h => h) (Or.inl ⟨rfl, ?gr⟩) HS.out ?_
                      case gr =>
                        rintro W' ⟨s0, s1, s2, s3, s4, s5⟩
                        go_simp
                      simp only [Act.put, List.setIfInBounds_toArray, List.set_cons_zero, List.set_cons_succ]
                      refine hTake (i := 13) (d := 50) (v := .pointer (some ⟨bp, op + x * 2, none⟩)) rfl rfl (by kernel_rfl) (by kernel_rfl) (by kernel_rfl) (fun _ _ _ h => h) (Or.inl ⟨rfl, ?gr⟩) HS.out ?_
                      case gr =>
                        rintro W' ⟨s0, s1, s2, s3, s4, s5⟩
                        go_simp
                      simp only [Act.put, List.setIfInBounds_toArray, List.set_cons_zero, List.set_cons_succ]
                      refine hTake (i := 14) (d := 51) (v := .agg #[.int .i64 u.x, .int .i64 u.y]) rfl rfl (by kernel_rfl) (by kernel_rfl) (by kernel_rfl) (fun _ _ _ h => h) (Or.inl ⟨rfl, ?gr⟩) HS.out ?_
                      case gr =>
                        rintro W' ⟨s0, s1, s2, s3, s4, s5⟩
                        go_simp
                      simp only [Act.put, List.setIfInBounds_toArray, List.set_cons_zero, List.set_cons_succ]
                      refine hTake (i := 15) (d := 52) (v := .int .i64 (b : Int)) rfl rfl (by kernel_rfl) (by kernel_rfl) (by kernel_rfl) (fun _ _ _ h => h) (Or.inl ⟨rfl, ?gr⟩) HS.out ?_
                      case gr =>
                        rintro W' ⟨s0, s1, s2, s3, s4, s5⟩
                        go_simp
                      simp only [Act.put, List.setIfInBounds_toArray, List.set_cons_zero, List.set_cons_succ]
                      refine hTake (i := 16) (d := 53) (v := .slice (some ⟨bp, op, none⟩) n cp) rfl rfl (by kernel_rfl) (by kernel_rfl) (by kernel_rfl) (fun _ _ _ h => h) (Or.inl ⟨rfl, ?gr⟩) HS.out ?_
                      case gr =>
                        rintro W' ⟨s0, s1, s2, s3, s4, s5⟩
                        go_simp
                      simp only [Act.put, List.setIfInBounds_toArray, List.set_cons_zero, List.set_cons_succ]
                      refine hTake (i := 17) (d := 54) (v := .int .i64 (y : Int)) rfl rfl (by kernel_rfl) (by kernel_rfl) (by kernel_rfl) (fun _ _ _ h => h) (Or.inl ⟨rfl, ?gr⟩) HS.out ?_
                      case gr =>
                        rintro W' ⟨s0, s1, s2, s3, s4, s5⟩
                        go_simp
                      simp only [Act.put, List.setIfInBounds_toArray, List.set_cons_zero, List.set_cons_succ]
                      refine hTake (i := 18) (d := 55) (v := .pointer (some ⟨bp, op + y * 2, none⟩)) rfl rfl (by kernel_rfl) (by kernel_rfl) (by kernel_rfl) (fun _ _ _ h => h) (Or.inl ⟨rfl, ?gr⟩) HS.out ?_
                      case gr =>
                        rintro W' ⟨s0, s1, s2, s3, s4, s5⟩
                        go_simp
                      simp only [Act.put, List.setIfInBounds_toArray, List.set_cons_zero, List.set_cons_succ]
                      refine hTake (i := 19) (d := 56) (v := .agg #[.int .i64 v.x, .int .i64 v.y]) rfl rfl (by kernel_rfl) (by kernel_rfl) (by kernel_rfl) (fun _ _ _ h => h) (Or.inl ⟨rfl, ?gr⟩) HS.out ?_
                      case gr =>
                        rintro W' ⟨s0, s1, s2, s3, s4, s5⟩
                        go_simp
                      simp only [Act.put, List.setIfInBounds_toArray, List.set_cons_zero, List.set_cons_succ]
                      refine wpAnyH_ready (rs := [20]) (by kernel_rfl) (by simp) ?_
                      refine AllReadyH.cons rfl (fun K hK => ?_) AllReadyH.nil
                      rw [if_pos (by rfl)]
                      go_simp
                      go_at_call 71
                      (with_reducible refine (HRX.out _ (HB4.out.trans (hbq.mono HB4.out.size))).mono ?_)
                      rintro e wc ⟨rfl, hbc⟩
                      replace hbq := hbq.trans (hbc.mono hbq.size)
                      have HS := Lib.hid (HCELL.out _ (HB4.out.trans (hbq.mono HB4.out.size)))
                      clear hbc
                      refine hK.out _ _ HS.out (fun _ => ?_)
                      clear hK K
                      try simp only [Act.put, List.setIfInBounds_toArray, List.set_cons_zero, List.set_cons_succ]
                      refine hTake (i := 21) (d := 58) (v := .bool f) rfl rfl (by kernel_rfl) (by kernel_rfl) (by kernel_rfl) (fun _ _ _ h => h) (Or.inl ⟨rfl, ?gr⟩) HS.out ?_
                      case gr =>
                        rintro W' ⟨s0, s1, s2, s3, s4, s5⟩
                        go_simp
                      simp only [Act.put, List.setIfInBounds_toArray, List.set_cons_zero, List.set_cons_succ]
                      refine wpAnyH_done (by kernel_rfl) ?_ _

                      have HBQ := Lib.hid (HB4.out.trans (hbq.mono HB4.out.size))
                      have HOQ := Lib.hid (HO4.out.below hbq (Nat.le_refl _))
                      clear hbq HS
                      cases f with
                      | true =>
                        go_wp2_with (at_builtin; go_must (refine wpList_app _ rfl (.tmp 59) (.tmp 65) _ rfl W1.heap.size 60 i0 _ 4 32 Tryz.underlying51 hi hz0 hz1 hz2 rfl (by omega) fF_len fF_one u5 _ rfl (HOQ.out.alloc _) _ _ [(⟨(a : Int), (x : Int), (b : Int), (y : Int)⟩ : Fo4)] 1 rfl (Sl.new _ _ _ _ rfl) (by simp only [maxLen, List.length_cons, List.length_nil]; have := HLL.out; omega) (by simp only [List.length_cons, List.length_nil]; have := HLL.out; omega) (by have := HBQ.out.size; simp; omega) (fun _ => .inr ⟨_, rfl⟩) ?_); intro v2 w8 o2 gr2 at2 ne2)
                        have hB8 := (HBQ.out.alloc HBQ.out.size (.cells #[.int .i64 (a : Int), .int .i64 (x : Int), .int .i64 (b : Int), .int .i64 (y : Int)] 60)).grown gr2 (by have := HBQ.out.size; simp; omega) (fun q hq => (HOQ.out.lt q hq).1)
                        go_roundw
                        case rel => exact ⟨y + 1, by omega, vi (by omega), by rw [HSC.out, if_pos (by simp), ← List.append_assoc]; exact o2, hB8⟩
                        case measure => simp [intOf] <;> omega
                      | false =>
                        go_wp2
                        go_roundw
                        case rel => exact ⟨y + 1, by omega, vi (by omega), by rw [HSC.out, if_neg (by simp), List.append_nil]; exact HOQ.out, HBQ.out⟩
                        case measure => simp [intOf] <;> omega
                    · have hge' : ¬ (x : Int) ≤ (y : Int) := by omega
                      rw [decide_eq_false hge] at HSC
                      go_upto_region 14 with (fail)
                      have hbq : Below wb.heap.size wb wb.drew := (Below.refl _ _).drew
                      have HS := Lib.hid (HCELL.out _ (HB4.out.trans (hbq.mono HB4.out.size)))
                      refine wp_region_held_drew (S := fun wx => wx.cell? ⟨w.heap.size, 0, none⟩ = some (.slice A p.nodes.length c) ∧ wx.cell? ⟨w.heap.size, 1, none⟩ = some (.slice A2 N c2) ∧ wx.cell? ⟨bp, op + x * 2, none⟩ = some (.int .i64 u.x) ∧ wx.cell? ⟨bp, op + x * 2 + 1, none⟩ = some (.int .i64 u.y) ∧ wx.cell? ⟨bp, op + y * 2, none⟩ = some (.int .i64 v.x) ∧ wx.cell? ⟨bp, op + y * 2 + 1, none⟩ = some (.int .i64 v.y)) (by kernel_rfl) HS.out (fun _ => ?_)
                      refine hTake (i := 0) (d := 37) (v := .int .i64 (b : Int)) rfl rfl (by kernel_rfl) (by kernel_rfl) (by kernel_rfl) (fun _ _ _ h => h) (Or.inl ⟨rfl, ?gr⟩) HS.out ?_
                      case gr =>
                        rintro W' ⟨s0, s1, s2, s3, s4, s5⟩
                        go_simp
                      simp only [Act.put, List.setIfInBounds_toArray, List.set_cons_zero, List.set_cons_succ]
                      refine hTake (i := 1) (d := 38) (v := .int .i64 (a : Int)) rfl rfl (by kernel_rfl) (by kernel_rfl) (by kernel_rfl) (fun _ _ _ h => h) (Or.inl ⟨rfl, ?gr⟩) HS.out ?_
                      case gr =>
                        rintro W' ⟨s0, s1, s2, s3, s4, s5⟩
                        go_simp
                      simp only [Act.put, List.setIfInBounds_toArray, List.set_cons_zero, List.set_cons_succ]
                      refine hTake (i := 2) (d := 39) (v := .bool false) rfl rfl (by kernel_rfl) (by kernel_rfl) (by kernel_rfl) (fun _ _ _ h => h) (Or.inl ⟨rfl, ?gr⟩) HS.out ?_
                      case gr =>
                        rintro W' ⟨s0, s1, s2, s3, s4, s5⟩
                        go_simp
                      simp only [Act.put, List.setIfInBounds_toArray, List.set_cons_zero, List.set_cons_succ]
                      refine hTake (i := 3) (d := 40) (v := .bool false) rfl rfl (by kernel_rfl) (by kernel_rfl) (by kernel_rfl) (fun _ _ _ h => h) (Or.inl ⟨rfl, ?gr⟩) HS.out ?_
                      case gr =>
                        rintro W' ⟨s0, s1, s2, s3, s4, s5⟩
                        go_simp
                      simp only [Act.put, List.setIfInBounds_toArray, List.set_cons_zero, List.set_cons_succ]
                      refine hTake (i := 4) (d := 41) (v := .int .i64 (y : Int)) rfl rfl (by kernel_rfl) (by kernel_rfl) (by kernel_rfl) (fun _ _ _ h => h) (Or.inl ⟨rfl, ?gr⟩) HS.out ?_
                      case gr =>
                        rintro W' ⟨s0, s1, s2, s3, s4, s5⟩
                        go_simp
                      simp only [Act.put, List.setIfInBounds_toArray, List.set_cons_zero, List.set_cons_succ]
                      refine hTake (i := 5) (d := 42) (v := .int .i64 (x : Int)) rfl rfl (by kernel_rfl) (by kernel_rfl) (by kernel_rfl) (fun _ _ _ h => h) (Or.inl ⟨rfl, ?gr⟩) HS.out ?_
                      case gr =>
                        rintro W' ⟨s0, s1, s2, s3, s4, s5⟩
                        go_simp
                      simp only [Act.put, List.setIfInBounds_toArray, List.set_cons_zero, List.set_cons_succ]
                      refine hTake (i := 6) (d := 43) (v := .bool false) rfl rfl (by kernel_rfl) (by kernel_rfl) (by kernel_rfl) (fun _ _ _ h => h) (Or.inl ⟨rfl, ?gr⟩) HS.out ?_
                      case gr =>
                        rintro W' ⟨s0, s1, s2, s3, s4, s5⟩
                        go_simp
                      simp only [Act.put, List.setIfInBounds_toArray, List.set_cons_zero, List.set_cons_succ]
                      refine hTake (i := 7) (d := 44) (v := .bool false) rfl rfl (by kernel_rfl) (by kernel_rfl) (by kernel_rfl) (fun _ _ _ h => h) (Or.inl ⟨rfl, ?gr⟩) HS.out ?_
                      case gr =>
                        rintro W' ⟨s0, s1, s2, s3, s4, s5⟩
                        go_simp
                      simp only [Act.put, List.setIfInBounds_toArray, List.set_cons_zero, List.set_cons_succ]
                      refine hTake (i := 8) (d := 45) (v := .bool false) rfl rfl (by kernel_rfl) (by kernel_rfl) (by kernel_rfl) (fun _ _ _ h => h) (Or.inl ⟨rfl, ?gr⟩) HS.out ?_
                      case gr =>
                        rintro W' ⟨s0, s1, s2, s3, s4, s5⟩
                        go_simp
                      simp only [Act.put, List.setIfInBounds_toArray, List.set_cons_zero, List.set_cons_succ]
                      refine hTake (i := 9) (d := 46) (v := undef) rfl rfl (by kernel_rfl) (by kernel_rfl) (by kernel_rfl) (fun _ _ _ h => h) (Or.inr ⟨rfl, rfl⟩) HS.out ?_
                      simp only [Act.put, List.setIfInBounds_toArray, List.set_cons_zero, List.set_cons_succ]
                      refine hTake (i := 10) (d := 47) (v := undef) rfl rfl (by kernel_rfl) (by kernel_rfl) (by kernel_rfl) (fun _ _ _ h => h) (Or.inr ⟨rfl, rfl⟩) HS.out ?_
                      simp only [Act.put, List.setIfInBounds_toArray, List.set_cons_zero, List.set_cons_succ]
                      refine hTake (i := 11) (d := 48) (v := undef) rfl rfl (by kernel_rfl) (by kernel_rfl) (by kernel_rfl) (fun _ _ _ h => h) (Or.inr ⟨rfl, rfl⟩) HS.out ?_
                      simp only [Act.put, List.setIfInBounds_toArray, List.set_cons_zero, List.set_cons_succ]
                      refine hTake (i := 12) (d := 49) (v := undef) rfl rfl (by kernel_rfl) (by kernel_rfl) (by kernel_rfl) (fun _ _ _ h => h) (Or.inr ⟨rfl, rfl⟩) HS.out ?_
                      simp only [Act.put, List.setIfInBounds_toArray, List.set_cons_zero, List.set_cons_succ]
                      refine hTake (i := 13) (d := 50) (v := undef) rfl rfl (by kernel_rfl) (by kernel_rfl) (by kernel_rfl) (fun _ _ _ h => h) (Or.inr ⟨rfl, rfl⟩) HS.out ?_
                      simp only [Act.put, List.setIfInBounds_toArray, List.set_cons_zero, List.set_cons_succ]
                      refine hTake (i := 14) (d := 51) (v := undef) rfl rfl (by kernel_rfl) (by kernel_rfl) (by kernel_rfl) (fun _ _ _ h => h) (Or.inr ⟨rfl, rfl⟩) HS.out ?_
                      simp only [Act.put, List.setIfInBounds_toArray, List.set_cons_zero, List.set_cons_succ]
                      refine hTake (i := 15) (d := 52) (v := undef) rfl rfl (by kernel_rfl) (by kernel_rfl) (by kernel_rfl) (fun _ _ _ h => h) (Or.inr ⟨rfl, rfl⟩) HS.out ?_
                      simp only [Act.put, List.setIfInBounds_toArray, List.set_cons_zero, List.set_cons_succ]
                      refine hTake (i := 16) (d := 53) (v := undef) rfl rfl (by kernel_rfl) (by kernel_rfl) (by kernel_rfl) (fun _ _ _ h => h) (Or.inr ⟨rfl, rfl⟩) HS.out ?_
                      simp only [Act.put, List.setIfInBounds_toArray, List.set_cons_zero, List.set_cons_succ]
                      refine hTake (i := 17) (d := 54) (v := undef) rfl rfl (by kernel_rfl) (by kernel_rfl) (by kernel_rfl) (fun _ _ _ h => h) (Or.inr ⟨rfl, rfl⟩) HS.out ?_
                      simp only [Act.put, List.setIfInBounds_toArray, List.set_cons_zero, List.set_cons_succ]
                      refine hTake (i := 18) (d := 55) (v := undef) rfl rfl (by kernel_rfl) (by kernel_rfl) (by kernel_rfl) (fun _ _ _ h => h) (Or.inr ⟨rfl, rfl⟩) HS.out ?_
                      simp only [Act.put, List.setIfInBounds_toArray, List.set_cons_zero, List.set_cons_succ]
                      refine hTake (i := 19) (d := 56) (v := undef) rfl rfl (by kernel_rfl) (by kernel_rfl) (by kernel_rfl) (fun _ _ _ h => h) (Or.inr ⟨rfl, rfl⟩) HS.out ?_
                      simp only [Act.put, List.setIfInBounds_toArray, List.set_cons_zero, List.set_cons_succ]
                      refine hTake (i := 20) (d := 57) (v := undef) rfl rfl (by kernel_rfl) (by kernel_rfl) (by kernel_rfl) (fun _ _ _ h => h) (Or.inr ⟨rfl, rfl⟩) HS.out ?_
                      simp only [Act.put, List.setIfInBounds_toArray, List.set_cons_zero, List.set_cons_succ]
                      refine hTake (i := 21) (d := 58) (v := .bool false) rfl rfl (by kernel_rfl) (by kernel_rfl) (by kernel_rfl) (fun _ _ _ h => h) (Or.inl ⟨rfl, ?gr⟩) HS.out ?_
                      case gr =>
                        rintro W' ⟨s0, s1, s2, s3, s4, s5⟩
                        go_simp
                      simp only [Act.put, List.setIfInBounds_toArray, List.set_cons_zero, List.set_cons_succ]
                      refine wpAnyH_done (by kernel_rfl) ?_ _

                      have HBQ := Lib.hid (HB4.out.trans (hbq.mono HB4.out.size))
                      have HOQ := Lib.hid (HO4.out.below hbq (Nat.le_refl _))
                      clear hbq HS
                      go_wp2
                      go_roundw
                      case rel => exact ⟨y + 1, by omega, vi (by omega), by rw [HSC.out, if_neg (by simp), List.append_nil]; exact HOQ.out, HBQ.out⟩
                      case measure => simp [intOf] <;> omega
                · obtain rfl : y = n := by omega
                  have hyy : ¬ (y : Int) < (y : Int) := by omega
                  have HN3 := Lib.hid (show f3 R y a x (j + 1) = f3 R y a x j ++ f4 R a x b y from by rw [f3_succ, HBJ.out])
                  clear hb
                  go_wp2
                  go_roundw
                  case rel => exact ⟨j + 1, by have := HBJ.out; have := HBN.out; omega, vi (by have := HBJ.out; omega), by rw [HN3.out, ← List.append_assoc]; exact HO4.out, HB4.out⟩
                  case measure => have := HBN.out; simp [intOf] <;> omega
            · have hjn : j = N - a := by have := HBJ.out; omega
              have hbb : ¬ (b : Int) < (N : Int) := by omega
              have HN2' := Lib.hid (show f2 R N n a (x + 1) = f2 R N n a x ++ f3 R n a x j from by rw [f2_succ, hjn])
              clear hjn
              go_wp2
              go_roundw
              case rel => exact ⟨x + 1, by have := HXN.out; omega, vi (by omega), by rw [HN2'.out, ← List.append_assoc]; exact HO3.out, HB3.out⟩
              case measure => have := HXN.out; simp [intOf] <;> omega
        · obtain rfl : x = n := by omega
          have hxx : ¬ (x : Int) < (x : Int) := by omega
          have HN1' := Lib.hid (show f1 R N x (a + 1) = f1 R N x a ++ f2 R N x a x from f1_succ R N x a)
          clear hb
          go_wp2
          go_roundw
          case rel => exact ⟨a + 1, by have := HA.out; omega, vi (by omega), by rw [HN1'.out]; exact HO2.out, HB2.out⟩
          case measure => have := HA.out; simp [intOf] <;> omega
    · obtain rfl : a = N := by omega
      have haa : ¬ (a : Int) < (a : Int) := by omega
      go_wp2
      go_ret
      exact ⟨_, rfl, HO.out.lower (by have := HZ1.out; omega), HB1.out.trans (HB.out.mono HB1.out.size)⟩
end Go.Proofs.YtekambdnmaompaaGreat.SW
