/- Contract: the fouls of one rail and profile with the later ones. -/
import Derived.Test.YtekambdnmaompaaGreatL2A
import Derived.Test.YtekambdnmaompaaGreatL5
import Derived.Test.YtekambdnmaompaaGreatJL
namespace Go.Proofs.YtekambdnmaompaaGreat.SW
set_option linter.unusedVariables false
set_option linter.unusedSimpArgs false
open Go.RowKit
structure N4 where
  n0 : Int
  n1 : Int
  n2 : Int
  n3 : Int
def fN (v : N4) : List Value := [.int .i64 v.n0, .int .i64 v.n1, .int .i64 v.n2, .int .i64 v.n3]
def metN (v : N4) (u s : S) : Bool := metB v.n0 v.n1 v.n2 v.n3 u.x u.y s.x s.y
def metR (rows : List N4) (l : List S) (a x b y : Nat) : Bool := match rows[b]?, l[x]?, l[y]? with
  | some v, some u, some s => metN v u s
  | _, _, _ => false
theorem cell_heap {w w' : World} {g : Nat} (h : w'.heap[g]? = w.heap[g]?) (i : Nat) : w'.cell? ⟨g, i, none⟩ = w.cell? ⟨g, i, none⟩ := by
  unfold World.cell?
  rw [h]
theorem own_ne {w : World} {B g : Nat} {v : Value} {l : List Fo4} (h : Own w B 60 4 fF v l) {cs : Array Value} {fr : Nat × Nat} (hg : w.heap[g]? = some (.cells cs 164 fr)) : ∀ q, v.ownBlock = some q → q ≠ g := by
  intro q hq e
  subst e
  rcases h.2 with ⟨rfl, hn⟩ | ⟨g', cap, cur, rfl, hb, hg', hn, hm, _⟩
  · simp [Value.ownBlock] at hq
  · simp [Value.ownBlock] at hq
    subst hq
    rw [hg] at hg'
    cases hg'
set_option maxRecDepth 100000 in
set_option maxHeartbeats 16000000 in
theorem foulsOf_any (AP : Option Addr) (cr cp N n B g a x : Nat) (z0 z1 : Int) (rows : List N4) (l : List S) (v0 : Value) (L0 : List Fo4) (cs0 : Array Value) (fr0 : Nat × Nat) (w : World) (hB : B ≤ w.heap.size) (hO : Own w B 60 4 fF v0 L0) (hL0 : L0.length ≤ 100000)
    (hg : w.heap[g]? = some (.cells cs0 164 fr0)) (hR : Sl w w.heap.size 4 (fun v cs => cs = fN v) (some ⟨g, 0, none⟩) rows) (hN : rows.length = N) (hN2 : N ≤ 12) (hn : l.length = n) (hn2 : n ≤ 6) (hS : Sl w B 2 CS AP l) (hpr : ∀ x ∈ l, Pr x.x x.y) (ha : a < N) (hx : x < n) :
    Calls Tryz.prog 96 #[v0, .agg #[.int .i64 (a : Int), .int .i64 (x : Int), .int .i64 z0, .int .i64 z1], .slice (some ⟨g, 0, none⟩) N cr, .slice AP n cp] w fun e w' => ∃ v, e = .returned v ∧ Own w' B 60 4 fF v (L0 ++ f3 (metR rows l) n a x (N - a)) ∧ Below B w w' ∧ w'.heap[g]? = w.heap[g]? := by
  obtain ⟨i0, hi, hz0, hz1, hz2⟩ := info_parts info60
  have hgl : g < w.heap.size := (Array.getElem?_eq_some_iff.1 hg).1
  have HGL := Lib.hid hgl; have HBS := Lib.hid hB
  have HG := Lib.hid hg
  have HPL := Lib.hid (And.intro hN2 hn2); have HL0 := Lib.hid hL0
  have HA := Lib.hid ha
  have HN := Lib.hid hn
  have HRW := Lib.hid (show ∀ wx : World, wx.heap[g]? = w.heap[g]? → ∀ b v, rows[b]? = some v → wx.cell? ⟨g, b * 4, none⟩ = some (.int .i64 v.n0) ∧ wx.cell? ⟨g, b * 4 + 1, none⟩ = some (.int .i64 v.n1) ∧ wx.cell? ⟨g, b * 4 + 2, none⟩ = some (.int .i64 v.n2) ∧ wx.cell? ⟨g, b * 4 + 3, none⟩ = some (.int .i64 v.n3) from fun wx h b v hb => by
    obtain ⟨hl, e⟩ := List.getElem?_eq_some_iff.1 hb
    obtain ⟨b', off, cs, ea, hb', rfl, hc⟩ := hR.at_ hl
    cases ea
    rw [e] at hc
    rw [cell_heap h, cell_heap h, cell_heap h, cell_heap h]
    have c0 := hc 0 _ rfl; have c1 := hc 1 _ rfl; have c2 := hc 2 _ rfl; have c3 := hc 3 _ rfl
    simp only [Nat.zero_add, Nat.add_zero] at c0 c1 c2 c3
    exact ⟨c0, c1, c2, c3⟩)
  have HSL := Lib.hid (show ∀ wx, Below B w wx → ∀ i x, l[i]? = some x → ∃ b o, AP = some ⟨b, o, none⟩ ∧ wx.cell? ⟨b, o + i * 2, none⟩ = some (.int .i64 x.x) ∧ wx.cell? ⟨b, o + i * 2 + 1, none⟩ = some (.int .i64 x.y) from fun wx hx i x hi => by
    obtain ⟨hl, e⟩ := List.getElem?_eq_some_iff.1 hi
    obtain ⟨b, o, rfl, hb, p0, p1⟩ := spot_at hS hl
    rw [e] at p0 p1
    exact ⟨b, o, rfl, (hx.cell (p := ⟨b, o + i * 2, none⟩) hb).trans p0, (hx.cell (p := ⟨b, o + i * 2 + 1, none⟩) hb).trans p1⟩)
  have HME := Lib.hid (show ∀ b y v u s, rows[b]? = some v → l[x]? = some u → l[y]? = some s → (∀ wx, Calls Tryz.prog 125 #[.agg #[.int .i64 v.n0, .int .i64 v.n1, .int .i64 v.n2, .int .i64 v.n3], .agg #[.int .i64 u.x, .int .i64 u.y], .agg #[.int .i64 s.x, .int .i64 s.y]] wx fun e w' => e = .returned (.bool (metR rows l a x b y)) ∧ Below wx.heap.size wx w') from fun b y v u s hb hu hs wx => by
    have e : metR rows l a x b y = metB v.n0 v.n1 v.n2 v.n3 u.x u.y s.x s.y := by unfold metR; rw [hb, hu, hs]; rfl
    rw [e]
    exact met_any v.n0 v.n1 v.n2 v.n3 u.x u.y s.x s.y wx (hpr u (List.mem_of_getElem? hu)) (hpr s (List.mem_of_getElem? hs)))
  obtain ⟨R, hRR⟩ : ∃ R, metR rows l = R := ⟨_, rfl⟩
  rw [hRR] at HME ⊢
  have HRN := Lib.hid hN
  obtain ⟨u, hu⟩ : ∃ z, l[x]? = some z := ⟨_, List.getElem?_eq_getElem (by omega)⟩
  have HU := Lib.hid hu
  obtain ⟨bp, op, eA, -, -⟩ := HSL.out w (Below.refl _ _) x u hu
  subst eA
  have hb1 := (Below.refl B w).alloc hB (.cells #[.int .i64 (a : Int), .int .i64 (x : Int), .int .i64 z0, .int .i64 z1] 60)
  have hb1' := (Below.refl w.heap.size w).alloc (Nat.le_refl _) (.cells #[.int .i64 (a : Int), .int .i64 (x : Int), .int .i64 z0, .int .i64 z1] 60)
  have r5 := Ro.new w 60 (a : Int) (x : Int) z0 z1
  have hz : (w.alloc (.cells #[.int .i64 (a : Int), .int .i64 (x : Int), .int .i64 z0, .int .i64 z1] 60)).heap.size = w.heap.size + 1 := by simp
  have hO1 := hO.alloc (.cells #[.int .i64 (a : Int), .int .i64 (x : Int), .int .i64 z0, .int .i64 z1] 60)
  have hg1 : (w.alloc (.cells #[.int .i64 (a : Int), .int .i64 (x : Int), .int .i64 z0, .int .i64 z1] 60)).heap[g]? = w.heap[g]? := hb1'.block g hgl
  have hne0 := own_ne hO hg
  have hlt0 := hO.lt
  obtain ⟨W1, hW1⟩ : ∃ z, w.alloc (.cells #[.int .i64 (a : Int), .int .i64 (x : Int), .int .i64 z0, .int .i64 z1] 60) = z := ⟨_, rfl⟩
  rw [hW1] at hb1 r5 hz hO1 hg1
  have HB1 := Lib.hid hb1; have HR5 := Lib.hid r5; have HZ := Lib.hid hz; have HO1 := Lib.hid hO1; have HG1 := Lib.hid hg1; have HLT0 := Lib.hid hlt0
  have hx6 : x ≤ 6 := by omega
  have ha12 : a ≤ 12 := by omega
  clear hb1 hb1' r5 hz hO hO1 hg1 hg hR hN hn hS hpr hRR hu hL0 hN2 hn2 hB hgl hne0 hlt0 ha
  go_enter Tryz.func96, Tryz.ntmps96
  have e0 := HR5.out.cell 0
  go_wp2
  clear hW1 e0
  go_loopw [0, 9] (fun s0 s9 wr => ∃ (j : Nat) (z0 z1 : Int), j ≤ N - a ∧ s9 = .int .i64 ((a + j : Nat) : Int) ∧ Own wr B 60 4 fF s0 (L0 ++ f3 R n a x j) ∧ (∀ q, s0.ownBlock = some q → q ≠ w.heap.size) ∧ Below B w wr ∧ wr.heap[g]? = w.heap[g]? ∧ Ro wr w.heap.size 60 (a : Int) (x : Int) z0 z1) (fun _ s9 _ => N - (intOf s9).toNat)
  case atStart => exact ⟨0, z0, z1, Nat.zero_le _, by simp, by simpa [f3] using HO1.out, (fun q hq e => by have := (HLT0.out q hq).2; omega), HB1.out, HG1.out, HR5.out⟩
  case round =>
    obtain ⟨j, z0, z1, hj, rfl, hown, hno, hb, hgg, hr5⟩ := hrel
    obtain ⟨wr', hwr'⟩ : ∃ z, z = wr := ⟨_, rfl⟩
    subst hwr'
    have HO3 := Lib.hid hown; have HB3 := Lib.hid hb; have HG3 := Lib.hid hgg; have H5 := Lib.hid hr5; have HNO := Lib.hid hno
    have hj12 : j ≤ 12 := by have := HPL.out; omega
    obtain ⟨b, hbj⟩ : ∃ b, a + j = b := ⟨_, rfl⟩
    rw [hbj]
    have HBJ := Lib.hid hbj
    have hb24 : b ≤ 24 := by omega
    have hab : a ≤ b := by omega
    clear hown hb hgg hr5 hno hbj
    by_cases hbN : b < N
    · have hbb : (b : Int) < (N : Int) := by omega
      have HBN := Lib.hid hbN
      have HAB := Lib.hid hab
      obtain ⟨nd, hnd⟩ : ∃ z, rows[b]? = some z := ⟨_, List.getElem?_eq_getElem (by have := HRN.out; omega)⟩
      have HND := Lib.hid hnd
      clear hnd
      go_wp2
      go_loopw [0, 21] (fun s0 s21 wr => ∃ (y : Nat) (z0 z1 : Int), y ≤ n ∧ s21 = .int .i64 (y : Int) ∧ Own wr B 60 4 fF s0 ((L0 ++ f3 R n a x j) ++ f4 R a x b y) ∧ (∀ q, s0.ownBlock = some q → q ≠ w.heap.size) ∧ Below B w wr ∧ wr.heap[g]? = w.heap[g]? ∧ Ro wr w.heap.size 60 (a : Int) (x : Int) z0 z1) (fun _ s21 _ => n - (intOf s21).toNat)
      case atStart => exact ⟨0, z0, z1, Nat.zero_le _, rfl, by simpa [f4] using HO3.out, HNO.out, HB3.out, HG3.out, H5.out⟩
      case round =>
        clear HO3 HB3 HG3 H5 HNO
        obtain ⟨y, z0, z1, hy, rfl, hown, hno, hb, hgg, hr5⟩ := hrel
        have HO4 := Lib.hid hown; have HB4 := Lib.hid hb; have HG4 := Lib.hid hgg; have H5 := Lib.hid hr5; have HNO := Lib.hid hno
        have hy6 : y ≤ 6 := by have := HPL.out; omega
        clear hown hb hgg hr5 hno
        by_cases hyn : y < n
        · have hyy : (y : Int) < (n : Int) := by omega
          obtain ⟨v, hv⟩ : ∃ z, l[y]? = some z := ⟨_, List.getElem?_eq_getElem (by have := HN.out; omega)⟩
          have HSC := Lib.hid (f4_succ R a x b y)
          have HCELL := Lib.hid (show ∀ wx, Below wr.heap.size wr wx → (wx.cell? ⟨w.heap.size, 0, none⟩ = some (.int .i64 (a : Int)) ∧ wx.cell? ⟨w.heap.size, 1, none⟩ = some (.int .i64 (x : Int)) ∧ wx.cell? ⟨g, b * 4, none⟩ = some (.int .i64 nd.n0) ∧ wx.cell? ⟨g, b * 4 + 1, none⟩ = some (.int .i64 nd.n1) ∧ wx.cell? ⟨g, b * 4 + 2, none⟩ = some (.int .i64 nd.n2) ∧ wx.cell? ⟨g, b * 4 + 3, none⟩ = some (.int .i64 nd.n3) ∧ wx.cell? ⟨bp, op + x * 2, none⟩ = some (.int .i64 u.x) ∧ wx.cell? ⟨bp, op + x * 2 + 1, none⟩ = some (.int .i64 u.y) ∧ wx.cell? ⟨bp, op + y * 2, none⟩ = some (.int .i64 v.x) ∧ wx.cell? ⟨bp, op + y * 2 + 1, none⟩ = some (.int .i64 v.y)) from fun wx hw => by
            have hwx := HB4.out.trans (hw.mono (Nat.le_trans HBS.out HB4.out.size))
            have hsz := HB4.out.size
            have r1 := H5.out.below hw H5.out.lt
            have hg2 : wx.heap[g]? = w.heap[g]? := (hw.block g (by have := HGL.out; omega)).trans HG4.out
            obtain ⟨c0, c1, c2, c3⟩ := HRW.out wx hg2 b nd HND.out
            obtain ⟨b1, o1, eA, p0, p1⟩ := HSL.out _ hwx x u HU.out
            obtain ⟨rfl, rfl⟩ : bp = b1 ∧ op = o1 := by simpa using eA
            obtain ⟨b2, o2, eA2, p2, p3⟩ := HSL.out _ hwx y v hv
            obtain ⟨rfl, rfl⟩ : bp = b2 ∧ op = o2 := by simpa using eA2
            exact ⟨r1.cell 0, r1.cell 1, c0, c1, c2, c3, p0, p1, p2, p3⟩)
          have HRX := Lib.hid (HME.out b y nd u v HND.out HU.out hv)
          have HLL := Lib.hid (f_len (R := R) (x := x) HPL.out.1 HPL.out.2 (Nat.le_of_lt HA.out) (show x ≤ n by omega) (show j ≤ N by have := HBJ.out; have := HBN.out; omega) hy b)
          have HLB := Lib.hid (show ((L0 ++ f3 R n a x j) ++ f4 R a x b y).length ≤ 200000 by have h := HLL.out; have h2 := HL0.out; simp only [List.length_append] at h ⊢; omega)
          obtain ⟨f, hf⟩ : ∃ z, R a x b y = z := ⟨_, rfl⟩
          rw [hf] at HRX HSC
          have y0 : (0 : Int) ≤ (y : Int) := by omega
          have x0 : (0 : Int) ≤ (x : Int) := by omega
          have e0 := H5.out.cell 0; have e1 := H5.out.cell 1
          clear hv hf
          by_cases hgt : a < b
          · have hgi : ¬ (b : Int) = (a : Int) := by omega
            rw [decide_eq_true hgt] at HSC
            have hb0 : (b : Int) < (N : Int) := hbb
            have b0 : (0 : Int) ≤ (b : Int) := by omega
            go_upto_region 8 with (fail)
            have hbq : Below wr.heap.size wr wr.drew := (Below.refl _ _).drew
            have HS := Lib.hid (HCELL.out _ hbq)
            refine wp_region_held_drew (S := fun wx => wx.cell? ⟨w.heap.size, 0, none⟩ = some (.int .i64 (a : Int)) ∧ wx.cell? ⟨w.heap.size, 1, none⟩ = some (.int .i64 (x : Int)) ∧ wx.cell? ⟨g, b * 4, none⟩ = some (.int .i64 nd.n0) ∧ wx.cell? ⟨g, b * 4 + 1, none⟩ = some (.int .i64 nd.n1) ∧ wx.cell? ⟨g, b * 4 + 2, none⟩ = some (.int .i64 nd.n2) ∧ wx.cell? ⟨g, b * 4 + 3, none⟩ = some (.int .i64 nd.n3) ∧ wx.cell? ⟨bp, op + x * 2, none⟩ = some (.int .i64 u.x) ∧ wx.cell? ⟨bp, op + x * 2 + 1, none⟩ = some (.int .i64 u.y) ∧ wx.cell? ⟨bp, op + y * 2, none⟩ = some (.int .i64 v.x) ∧ wx.cell? ⟨bp, op + y * 2 + 1, none⟩ = some (.int .i64 v.y)) (by kernel_rfl) HS.out (fun _ => ?_)
            refine hTake (i := 0) (d := 34) (v := .slice (some ⟨g, 0, none⟩) N cr) rfl rfl (by kernel_rfl) (by kernel_rfl) (by kernel_rfl) (fun _ _ _ h => h) (Or.inl ⟨rfl, ?gr⟩) HS.out ?_
            case gr =>
              rintro W' ⟨s0, s1, s2, s3, s4, s5, s6, s7, s8, s9⟩
              go_simp
            simp only [Act.put, List.setIfInBounds_toArray, List.set_cons_zero, List.set_cons_succ]
            refine hTake (i := 1) (d := 35) (v := .int .i64 (b : Int)) rfl rfl (by kernel_rfl) (by kernel_rfl) (by kernel_rfl) (fun _ _ _ h => h) (Or.inl ⟨rfl, ?gr⟩) HS.out ?_
            case gr =>
              rintro W' ⟨s0, s1, s2, s3, s4, s5, s6, s7, s8, s9⟩
              go_simp
            simp only [Act.put, List.setIfInBounds_toArray, List.set_cons_zero, List.set_cons_succ]
            refine hTake (i := 2) (d := 36) (v := .pointer (some ⟨g, b * 4, none⟩)) rfl rfl (by kernel_rfl) (by kernel_rfl) (by kernel_rfl) (fun _ _ _ h => h) (Or.inl ⟨rfl, ?gr⟩) HS.out ?_
            case gr =>
              rintro W' ⟨s0, s1, s2, s3, s4, s5, s6, s7, s8, s9⟩
              go_simp
            simp only [Act.put, List.setIfInBounds_toArray, List.set_cons_zero, List.set_cons_succ]
            refine hTake (i := 3) (d := 37) (v := .agg #[.int .i64 nd.n0, .int .i64 nd.n1, .int .i64 nd.n2, .int .i64 nd.n3]) rfl rfl (by kernel_rfl) (by kernel_rfl) (by kernel_rfl) (fun _ _ _ h => h) (Or.inl ⟨rfl, ?gr⟩) HS.out ?_
            case gr =>
              rintro W' ⟨s0, s1, s2, s3, s4, s5, s6, s7, s8, s9⟩
              go_simp
            simp only [Act.put, List.setIfInBounds_toArray, List.set_cons_zero, List.set_cons_succ]
            refine hTake (i := 4) (d := 38) (v := .slice (some ⟨bp, op, none⟩) n cp) rfl rfl (by kernel_rfl) (by kernel_rfl) (by kernel_rfl) (fun _ _ _ h => h) (Or.inl ⟨rfl, ?gr⟩) HS.out ?_
            case gr =>
              rintro W' ⟨s0, s1, s2, s3, s4, s5, s6, s7, s8, s9⟩
              go_simp
            simp only [Act.put, List.setIfInBounds_toArray, List.set_cons_zero, List.set_cons_succ]
            refine hTake (i := 5) (d := 39) (v := .pointer (some ⟨w.heap.size, 1, none⟩)) rfl rfl (by kernel_rfl) (by kernel_rfl) (by kernel_rfl) (fun _ _ _ h => h) (Or.inl ⟨rfl, ?gr⟩) HS.out ?_
            case gr =>
              rintro W' ⟨s0, s1, s2, s3, s4, s5, s6, s7, s8, s9⟩
              go_simp
            simp only [Act.put, List.setIfInBounds_toArray, List.set_cons_zero, List.set_cons_succ]
            refine hTake (i := 6) (d := 40) (v := .int .i64 (x : Int)) rfl rfl (by kernel_rfl) (by kernel_rfl) (by kernel_rfl) (fun _ _ _ h => h) (Or.inl ⟨rfl, ?gr⟩) HS.out ?_
            case gr =>
              rintro W' ⟨s0, s1, s2, s3, s4, s5, s6, s7, s8, s9⟩
              go_simp
            simp only [Act.put, List.setIfInBounds_toArray, List.set_cons_zero, List.set_cons_succ]
            refine hTake (i := 7) (d := 41) (v := .pointer (some ⟨bp, op + x * 2, none⟩)) rfl rfl (by kernel_rfl) (by kernel_rfl) (by kernel_rfl) (fun _ _ _ h => h) (Or.inl ⟨rfl, ?gr⟩) HS.out ?_
            case gr =>
              rintro W' ⟨s0, s1, s2, s3, s4, s5, s6, s7, s8, s9⟩
              go_simp
            simp only [Act.put, List.setIfInBounds_toArray, List.set_cons_zero, List.set_cons_succ]
            refine hTake (i := 8) (d := 42) (v := .agg #[.int .i64 u.x, .int .i64 u.y]) rfl rfl (by kernel_rfl) (by kernel_rfl) (by kernel_rfl) (fun _ _ _ h => h) (Or.inl ⟨rfl, ?gr⟩) HS.out ?_
            case gr =>
              rintro W' ⟨s0, s1, s2, s3, s4, s5, s6, s7, s8, s9⟩
              go_simp
            simp only [Act.put, List.setIfInBounds_toArray, List.set_cons_zero, List.set_cons_succ]
            refine hTake (i := 9) (d := 43) (v := .slice (some ⟨bp, op, none⟩) n cp) rfl rfl (by kernel_rfl) (by kernel_rfl) (by kernel_rfl) (fun _ _ _ h => h) (Or.inl ⟨rfl, ?gr⟩) HS.out ?_
            case gr =>
              rintro W' ⟨s0, s1, s2, s3, s4, s5, s6, s7, s8, s9⟩
              go_simp
            simp only [Act.put, List.setIfInBounds_toArray, List.set_cons_zero, List.set_cons_succ]
            refine hTake (i := 10) (d := 44) (v := .int .i64 (y : Int)) rfl rfl (by kernel_rfl) (by kernel_rfl) (by kernel_rfl) (fun _ _ _ h => h) (Or.inl ⟨rfl, ?gr⟩) HS.out ?_
            case gr =>
              rintro W' ⟨s0, s1, s2, s3, s4, s5, s6, s7, s8, s9⟩
              go_simp
            simp only [Act.put, List.setIfInBounds_toArray, List.set_cons_zero, List.set_cons_succ]
            refine hTake (i := 11) (d := 45) (v := .pointer (some ⟨bp, op + y * 2, none⟩)) rfl rfl (by kernel_rfl) (by kernel_rfl) (by kernel_rfl) (fun _ _ _ h => h) (Or.inl ⟨rfl, ?gr⟩) HS.out ?_
            case gr =>
              rintro W' ⟨s0, s1, s2, s3, s4, s5, s6, s7, s8, s9⟩
              go_simp
            simp only [Act.put, List.setIfInBounds_toArray, List.set_cons_zero, List.set_cons_succ]
            refine hTake (i := 12) (d := 46) (v := .agg #[.int .i64 v.x, .int .i64 v.y]) rfl rfl (by kernel_rfl) (by kernel_rfl) (by kernel_rfl) (fun _ _ _ h => h) (Or.inl ⟨rfl, ?gr⟩) HS.out ?_
            case gr =>
              rintro W' ⟨s0, s1, s2, s3, s4, s5, s6, s7, s8, s9⟩
              go_simp
            simp only [Act.put, List.setIfInBounds_toArray, List.set_cons_zero, List.set_cons_succ]
            refine wpAnyH_ready (rs := [13]) (by kernel_rfl) (by simp) ?_
            refine AllReadyH.cons rfl (fun K hK => ?_) AllReadyH.nil
            rw [if_pos (by rfl)]
            go_simp
            go_at_call 125
            (with_reducible refine (HRX.out _).mono ?_)
            rintro e wc ⟨rfl, hbc⟩
            replace hbq := hbq.trans (hbc.mono hbq.size)
            have HS := Lib.hid (HCELL.out _ hbq)
            clear hbc
            refine hK.out _ _ HS.out (fun _ => ?_)
            clear hK K
            try simp only [Act.put, List.setIfInBounds_toArray, List.set_cons_zero, List.set_cons_succ]
            refine wpAnyH_done (by kernel_rfl) ?_ _
            have HBW := Lib.hid hbq
            have HBQ := Lib.hid (HB4.out.trans (hbq.mono (Nat.le_trans HBS.out HB4.out.size)))
            have HOQ := Lib.hid (HO4.out.below hbq (Nat.le_refl _))
            have HQ5 := Lib.hid (H5.out.below hbq H5.out.lt)
            have HGQ := Lib.hid ((hbq.block g (by have := HGL.out; have := HB4.out.size; omega)).trans HG4.out)
            clear hbq HS HCELL HRX e0 e1
            cases f with
            | true =>
              have q0 := HQ5.out.cell 0; have q1 := HQ5.out.cell 1; have q2 := HQ5.out.cell 2; have q3 := HQ5.out.cell 3
              have g2 := HQ5.out.frozen 2; have g3 := HQ5.out.frozen 3
              simp only [List.getElem?_toArray, List.getElem?_cons_zero, List.getElem?_cons_succ] at q0 q1 q2 q3
              have HB6 := Lib.hid ((HBQ.out.setCell (p := ⟨w.heap.size, 2, none⟩) HBS.out (.int .i64 (b : Int))).setCell (p := ⟨w.heap.size, 3, none⟩) HBS.out (.int .i64 (y : Int)))
              have HR6 := Lib.hid ((HQ5.out.set2 (b : Int)).set3 (y : Int))
              have hg6 := (Below.heap_setCell (wc.setCell ⟨w.heap.size, 2, none⟩ (.int .i64 (b : Int))) ⟨w.heap.size, 3, none⟩ (.int .i64 (y : Int)) g (by have := HGL.out; simp; omega)).trans ((Below.heap_setCell wc ⟨w.heap.size, 2, none⟩ (.int .i64 (b : Int)) g (by have := HGL.out; simp; omega)).trans HGQ.out)
              have HG6 := Lib.hid hg6
              have hz6 : ((wc.setCell ⟨w.heap.size, 2, none⟩ (.int .i64 (b : Int))).setCell ⟨w.heap.size, 3, none⟩ (.int .i64 (y : Int))).heap.size = wc.heap.size := by simp
              have HO6 := Lib.hid (show Own ((wc.setCell ⟨w.heap.size, 2, none⟩ (.int .i64 (b : Int))).setCell ⟨w.heap.size, 3, none⟩ (.int .i64 (y : Int))) B 60 4 fF u0 ((L0 ++ f3 R n a x j) ++ f4 R a x b y) from HOQ.out.of_blocks fun q hq => (Below.heap_setCell _ ⟨w.heap.size, 3, none⟩ _ q (HNO.out q hq)).trans (Below.heap_setCell _ ⟨w.heap.size, 2, none⟩ _ q (HNO.out q hq)))
              clear hg6
              obtain ⟨WS, hWS⟩ : ∃ z, (wc.setCell ⟨w.heap.size, 2, none⟩ (.int .i64 (b : Int))).setCell ⟨w.heap.size, 3, none⟩ (.int .i64 (y : Int)) = z := ⟨_, rfl⟩
              rw [hWS] at HB6 HR6 HG6 HO6 hz6
              have HZ6 := Lib.hid (show w.heap.size + 1 ≤ WS.heap.size by have := HR6.out.lt; omega)
              have k0 := HR6.out.cell 0; have k1 := HR6.out.cell 1; have k2 := HR6.out.cell 2; have k3 := HR6.out.cell 3
              simp only [List.getElem?_toArray, List.getElem?_cons_zero, List.getElem?_cons_succ] at k0 k1 k2 k3
              have HNG := Lib.hid (own_ne HO6.out (HG6.out.trans HG.out))
              clear hz6
              go_wp2_with (at_builtin; go_must (refine wpList_app _ rfl (.tmp 52) (.tmp 54) _ rfl B 60 i0 _ 4 32 Tryz.underlying51 hi hz0 hz1 hz2 rfl (by omega) fF_len fF_one u0 _ rfl (HO6.out.alloc _) _ _ [(⟨(a : Int), (x : Int), (b : Int), (y : Int)⟩ : Fo4)] 1 rfl (Sl.new _ _ _ _ rfl) (by simp only [maxLen, List.length_cons, List.length_nil]; have := HLB.out; omega) (by simp only [List.length_cons, List.length_nil]; have := HLB.out; omega) (by have := HB6.out.size; have := HBS.out; simp; omega) (fun _ => .inr ⟨_, rfl⟩) ?_); intro v2 w8 o2 gr2 at2 ne2)
              have hB8 := (HB6.out.alloc (Nat.le_trans HBS.out HB6.out.size) (.cells #[.int .i64 (a : Int), .int .i64 (x : Int), .int .i64 (b : Int), .int .i64 (y : Int)] 60)).grown gr2 (by have := HB6.out.size; have := HBS.out; simp; omega) (fun q hq => (HO6.out.lt q hq).1)
              have hG8 := (gr2.block g (by have := HGL.out; have := HB6.out.size; simp; omega) (fun e => HNG.out g e.symm rfl)).trans ((Below.heap_alloc WS _ g (by have := HGL.out; have := HB6.out.size; omega)).trans HG6.out)
              have hR8 := (HR6.out.of (Below.heap_alloc WS (.cells #[.int .i64 (a : Int), .int .i64 (x : Int), .int .i64 (b : Int), .int .i64 (y : Int)] 60) _ HR6.out.lt)).of (gr2.block w.heap.size (by have := HZ6.out; simp; omega) (fun e => HNO.out _ e.symm rfl))
              have hN8 : ∀ q, v2.ownBlock = some q → q ≠ w.heap.size := fun q hq => by
                rcases at2 with h9 | h9
                · rw [h9] at hq; exact HNO.out q hq
                · rw [h9] at hq
                  have := HZ6.out
                  simp at hq
                  omega
              go_roundw
              case rel => exact ⟨y + 1, _, _, by omega, vi (by omega), by rw [HSC.out, if_pos (by simp), ← List.append_assoc]; exact o2, hN8, hB8, hG8, hR8⟩
              case measure => simp [intOf] <;> omega
            | false =>
              go_wp2
              go_roundw
              case rel => exact ⟨y + 1, z0, z1, by omega, vi (by omega), by rw [HSC.out, if_neg (by simp), List.append_nil]; exact HOQ.out, HNO.out, HBQ.out, HGQ.out, HQ5.out⟩
              case measure => simp [intOf] <;> omega
          · have hgi : (b : Int) = (a : Int) := by omega
            rw [decide_eq_false hgt] at HSC
            by_cases hge : x ≤ y
            · have hge' : ¬ (y : Int) < (x : Int) := by omega
              rw [decide_eq_true hge] at HSC
              have hba : a = b := by omega
              subst hba
              clear hgi
              have hb0 : (a : Int) < (N : Int) := hbb
              have b0 : (0 : Int) ≤ (a : Int) := by omega
              go_upto_region 8 with (fail)
              have hbq : Below wr.heap.size wr wr.drew := (Below.refl _ _).drew
              have HS := Lib.hid (HCELL.out _ hbq)
              refine wp_region_held_drew (S := fun wx => wx.cell? ⟨w.heap.size, 0, none⟩ = some (.int .i64 (a : Int)) ∧ wx.cell? ⟨w.heap.size, 1, none⟩ = some (.int .i64 (x : Int)) ∧ wx.cell? ⟨g, a * 4, none⟩ = some (.int .i64 nd.n0) ∧ wx.cell? ⟨g, a * 4 + 1, none⟩ = some (.int .i64 nd.n1) ∧ wx.cell? ⟨g, a * 4 + 2, none⟩ = some (.int .i64 nd.n2) ∧ wx.cell? ⟨g, a * 4 + 3, none⟩ = some (.int .i64 nd.n3) ∧ wx.cell? ⟨bp, op + x * 2, none⟩ = some (.int .i64 u.x) ∧ wx.cell? ⟨bp, op + x * 2 + 1, none⟩ = some (.int .i64 u.y) ∧ wx.cell? ⟨bp, op + y * 2, none⟩ = some (.int .i64 v.x) ∧ wx.cell? ⟨bp, op + y * 2 + 1, none⟩ = some (.int .i64 v.y)) (by kernel_rfl) HS.out (fun _ => ?_)
              refine hTake (i := 0) (d := 34) (v := .slice (some ⟨g, 0, none⟩) N cr) rfl rfl (by kernel_rfl) (by kernel_rfl) (by kernel_rfl) (fun _ _ _ h => h) (Or.inl ⟨rfl, ?gr⟩) HS.out ?_
              case gr =>
                rintro W' ⟨s0, s1, s2, s3, s4, s5, s6, s7, s8, s9⟩
                go_simp
              simp only [Act.put, List.setIfInBounds_toArray, List.set_cons_zero, List.set_cons_succ]
              refine hTake (i := 1) (d := 35) (v := .int .i64 (a : Int)) rfl rfl (by kernel_rfl) (by kernel_rfl) (by kernel_rfl) (fun _ _ _ h => h) (Or.inl ⟨rfl, ?gr⟩) HS.out ?_
              case gr =>
                rintro W' ⟨s0, s1, s2, s3, s4, s5, s6, s7, s8, s9⟩
                go_simp
              simp only [Act.put, List.setIfInBounds_toArray, List.set_cons_zero, List.set_cons_succ]
              refine hTake (i := 2) (d := 36) (v := .pointer (some ⟨g, a * 4, none⟩)) rfl rfl (by kernel_rfl) (by kernel_rfl) (by kernel_rfl) (fun _ _ _ h => h) (Or.inl ⟨rfl, ?gr⟩) HS.out ?_
              case gr =>
                rintro W' ⟨s0, s1, s2, s3, s4, s5, s6, s7, s8, s9⟩
                go_simp
              simp only [Act.put, List.setIfInBounds_toArray, List.set_cons_zero, List.set_cons_succ]
              refine hTake (i := 3) (d := 37) (v := .agg #[.int .i64 nd.n0, .int .i64 nd.n1, .int .i64 nd.n2, .int .i64 nd.n3]) rfl rfl (by kernel_rfl) (by kernel_rfl) (by kernel_rfl) (fun _ _ _ h => h) (Or.inl ⟨rfl, ?gr⟩) HS.out ?_
              case gr =>
                rintro W' ⟨s0, s1, s2, s3, s4, s5, s6, s7, s8, s9⟩
                go_simp
              simp only [Act.put, List.setIfInBounds_toArray, List.set_cons_zero, List.set_cons_succ]
              refine hTake (i := 4) (d := 38) (v := .slice (some ⟨bp, op, none⟩) n cp) rfl rfl (by kernel_rfl) (by kernel_rfl) (by kernel_rfl) (fun _ _ _ h => h) (Or.inl ⟨rfl, ?gr⟩) HS.out ?_
              case gr =>
                rintro W' ⟨s0, s1, s2, s3, s4, s5, s6, s7, s8, s9⟩
                go_simp
              simp only [Act.put, List.setIfInBounds_toArray, List.set_cons_zero, List.set_cons_succ]
              refine hTake (i := 5) (d := 39) (v := .pointer (some ⟨w.heap.size, 1, none⟩)) rfl rfl (by kernel_rfl) (by kernel_rfl) (by kernel_rfl) (fun _ _ _ h => h) (Or.inl ⟨rfl, ?gr⟩) HS.out ?_
              case gr =>
                rintro W' ⟨s0, s1, s2, s3, s4, s5, s6, s7, s8, s9⟩
                go_simp
              simp only [Act.put, List.setIfInBounds_toArray, List.set_cons_zero, List.set_cons_succ]
              refine hTake (i := 6) (d := 40) (v := .int .i64 (x : Int)) rfl rfl (by kernel_rfl) (by kernel_rfl) (by kernel_rfl) (fun _ _ _ h => h) (Or.inl ⟨rfl, ?gr⟩) HS.out ?_
              case gr =>
                rintro W' ⟨s0, s1, s2, s3, s4, s5, s6, s7, s8, s9⟩
                go_simp
              simp only [Act.put, List.setIfInBounds_toArray, List.set_cons_zero, List.set_cons_succ]
              refine hTake (i := 7) (d := 41) (v := .pointer (some ⟨bp, op + x * 2, none⟩)) rfl rfl (by kernel_rfl) (by kernel_rfl) (by kernel_rfl) (fun _ _ _ h => h) (Or.inl ⟨rfl, ?gr⟩) HS.out ?_
              case gr =>
                rintro W' ⟨s0, s1, s2, s3, s4, s5, s6, s7, s8, s9⟩
                go_simp
              simp only [Act.put, List.setIfInBounds_toArray, List.set_cons_zero, List.set_cons_succ]
              refine hTake (i := 8) (d := 42) (v := .agg #[.int .i64 u.x, .int .i64 u.y]) rfl rfl (by kernel_rfl) (by kernel_rfl) (by kernel_rfl) (fun _ _ _ h => h) (Or.inl ⟨rfl, ?gr⟩) HS.out ?_
              case gr =>
                rintro W' ⟨s0, s1, s2, s3, s4, s5, s6, s7, s8, s9⟩
                go_simp
              simp only [Act.put, List.setIfInBounds_toArray, List.set_cons_zero, List.set_cons_succ]
              refine hTake (i := 9) (d := 43) (v := .slice (some ⟨bp, op, none⟩) n cp) rfl rfl (by kernel_rfl) (by kernel_rfl) (by kernel_rfl) (fun _ _ _ h => h) (Or.inl ⟨rfl, ?gr⟩) HS.out ?_
              case gr =>
                rintro W' ⟨s0, s1, s2, s3, s4, s5, s6, s7, s8, s9⟩
                go_simp
              simp only [Act.put, List.setIfInBounds_toArray, List.set_cons_zero, List.set_cons_succ]
              refine hTake (i := 10) (d := 44) (v := .int .i64 (y : Int)) rfl rfl (by kernel_rfl) (by kernel_rfl) (by kernel_rfl) (fun _ _ _ h => h) (Or.inl ⟨rfl, ?gr⟩) HS.out ?_
              case gr =>
                rintro W' ⟨s0, s1, s2, s3, s4, s5, s6, s7, s8, s9⟩
                go_simp
              simp only [Act.put, List.setIfInBounds_toArray, List.set_cons_zero, List.set_cons_succ]
              refine hTake (i := 11) (d := 45) (v := .pointer (some ⟨bp, op + y * 2, none⟩)) rfl rfl (by kernel_rfl) (by kernel_rfl) (by kernel_rfl) (fun _ _ _ h => h) (Or.inl ⟨rfl, ?gr⟩) HS.out ?_
              case gr =>
                rintro W' ⟨s0, s1, s2, s3, s4, s5, s6, s7, s8, s9⟩
                go_simp
              simp only [Act.put, List.setIfInBounds_toArray, List.set_cons_zero, List.set_cons_succ]
              refine hTake (i := 12) (d := 46) (v := .agg #[.int .i64 v.x, .int .i64 v.y]) rfl rfl (by kernel_rfl) (by kernel_rfl) (by kernel_rfl) (fun _ _ _ h => h) (Or.inl ⟨rfl, ?gr⟩) HS.out ?_
              case gr =>
                rintro W' ⟨s0, s1, s2, s3, s4, s5, s6, s7, s8, s9⟩
                go_simp
              simp only [Act.put, List.setIfInBounds_toArray, List.set_cons_zero, List.set_cons_succ]
              refine wpAnyH_ready (rs := [13]) (by kernel_rfl) (by simp) ?_
              refine AllReadyH.cons rfl (fun K hK => ?_) AllReadyH.nil
              rw [if_pos (by rfl)]
              go_simp
              go_at_call 125
              (with_reducible refine (HRX.out _).mono ?_)
              rintro e wc ⟨rfl, hbc⟩
              replace hbq := hbq.trans (hbc.mono hbq.size)
              have HS := Lib.hid (HCELL.out _ hbq)
              clear hbc
              refine hK.out _ _ HS.out (fun _ => ?_)
              clear hK K
              try simp only [Act.put, List.setIfInBounds_toArray, List.set_cons_zero, List.set_cons_succ]
              refine wpAnyH_done (by kernel_rfl) ?_ _
              have HBW := Lib.hid hbq
              have HBQ := Lib.hid (HB4.out.trans (hbq.mono (Nat.le_trans HBS.out HB4.out.size)))
              have HOQ := Lib.hid (HO4.out.below hbq (Nat.le_refl _))
              have HQ5 := Lib.hid (H5.out.below hbq H5.out.lt)
              have HGQ := Lib.hid ((hbq.block g (by have := HGL.out; have := HB4.out.size; omega)).trans HG4.out)
              clear hbq HS HCELL HRX e0 e1
              cases f with
              | true =>
                have q0 := HQ5.out.cell 0; have q1 := HQ5.out.cell 1; have q2 := HQ5.out.cell 2; have q3 := HQ5.out.cell 3
                have g2 := HQ5.out.frozen 2; have g3 := HQ5.out.frozen 3
                simp only [List.getElem?_toArray, List.getElem?_cons_zero, List.getElem?_cons_succ] at q0 q1 q2 q3
                have HB6 := Lib.hid ((HBQ.out.setCell (p := ⟨w.heap.size, 2, none⟩) HBS.out (.int .i64 (a : Int))).setCell (p := ⟨w.heap.size, 3, none⟩) HBS.out (.int .i64 (y : Int)))
                have HR6 := Lib.hid ((HQ5.out.set2 (a : Int)).set3 (y : Int))
                have hg6 := (Below.heap_setCell (wc.setCell ⟨w.heap.size, 2, none⟩ (.int .i64 (a : Int))) ⟨w.heap.size, 3, none⟩ (.int .i64 (y : Int)) g (by have := HGL.out; simp; omega)).trans ((Below.heap_setCell wc ⟨w.heap.size, 2, none⟩ (.int .i64 (a : Int)) g (by have := HGL.out; simp; omega)).trans HGQ.out)
                have HG6 := Lib.hid hg6
                have hz6 : ((wc.setCell ⟨w.heap.size, 2, none⟩ (.int .i64 (a : Int))).setCell ⟨w.heap.size, 3, none⟩ (.int .i64 (y : Int))).heap.size = wc.heap.size := by simp
                have HO6 := Lib.hid (show Own ((wc.setCell ⟨w.heap.size, 2, none⟩ (.int .i64 (a : Int))).setCell ⟨w.heap.size, 3, none⟩ (.int .i64 (y : Int))) B 60 4 fF u0 ((L0 ++ f3 R n a x j) ++ f4 R a x a y) from HOQ.out.of_blocks fun q hq => (Below.heap_setCell _ ⟨w.heap.size, 3, none⟩ _ q (HNO.out q hq)).trans (Below.heap_setCell _ ⟨w.heap.size, 2, none⟩ _ q (HNO.out q hq)))
                clear hg6
                obtain ⟨WS, hWS⟩ : ∃ z, (wc.setCell ⟨w.heap.size, 2, none⟩ (.int .i64 (a : Int))).setCell ⟨w.heap.size, 3, none⟩ (.int .i64 (y : Int)) = z := ⟨_, rfl⟩
                rw [hWS] at HB6 HR6 HG6 HO6 hz6
                have HZ6 := Lib.hid (show w.heap.size + 1 ≤ WS.heap.size by have := HR6.out.lt; omega)
                have k0 := HR6.out.cell 0; have k1 := HR6.out.cell 1; have k2 := HR6.out.cell 2; have k3 := HR6.out.cell 3
                simp only [List.getElem?_toArray, List.getElem?_cons_zero, List.getElem?_cons_succ] at k0 k1 k2 k3
                have HNG := Lib.hid (own_ne HO6.out (HG6.out.trans HG.out))
                clear hz6
                go_wp2_with (at_builtin; go_must (refine wpList_app _ rfl (.tmp 52) (.tmp 54) _ rfl B 60 i0 _ 4 32 Tryz.underlying51 hi hz0 hz1 hz2 rfl (by omega) fF_len fF_one u0 _ rfl (HO6.out.alloc _) _ _ [(⟨(a : Int), (x : Int), (a : Int), (y : Int)⟩ : Fo4)] 1 rfl (Sl.new _ _ _ _ rfl) (by simp only [maxLen, List.length_cons, List.length_nil]; have := HLB.out; omega) (by simp only [List.length_cons, List.length_nil]; have := HLB.out; omega) (by have := HB6.out.size; have := HBS.out; simp; omega) (fun _ => .inr ⟨_, rfl⟩) ?_); intro v2 w8 o2 gr2 at2 ne2)
                have hB8 := (HB6.out.alloc (Nat.le_trans HBS.out HB6.out.size) (.cells #[.int .i64 (a : Int), .int .i64 (x : Int), .int .i64 (a : Int), .int .i64 (y : Int)] 60)).grown gr2 (by have := HB6.out.size; have := HBS.out; simp; omega) (fun q hq => (HO6.out.lt q hq).1)
                have hG8 := (gr2.block g (by have := HGL.out; have := HB6.out.size; simp; omega) (fun e => HNG.out g e.symm rfl)).trans ((Below.heap_alloc WS _ g (by have := HGL.out; have := HB6.out.size; omega)).trans HG6.out)
                have hR8 := (HR6.out.of (Below.heap_alloc WS (.cells #[.int .i64 (a : Int), .int .i64 (x : Int), .int .i64 (a : Int), .int .i64 (y : Int)] 60) _ HR6.out.lt)).of (gr2.block w.heap.size (by have := HZ6.out; simp; omega) (fun e => HNO.out _ e.symm rfl))
                have hN8 : ∀ q, v2.ownBlock = some q → q ≠ w.heap.size := fun q hq => by
                  rcases at2 with h9 | h9
                  · rw [h9] at hq; exact HNO.out q hq
                  · rw [h9] at hq
                    have := HZ6.out
                    simp at hq
                    omega
                go_roundw
                case rel => exact ⟨y + 1, _, _, by omega, vi (by omega), by rw [HSC.out, if_pos (by simp), ← List.append_assoc]; exact o2, hN8, hB8, hG8, hR8⟩
                case measure => simp [intOf] <;> omega
              | false =>
                go_wp2
                go_roundw
                case rel => exact ⟨y + 1, z0, z1, by omega, vi (by omega), by rw [HSC.out, if_neg (by simp), List.append_nil]; exact HOQ.out, HNO.out, HBQ.out, HGQ.out, HQ5.out⟩
                case measure => simp [intOf] <;> omega
            · have hge' : (y : Int) < (x : Int) := by omega
              rw [decide_eq_false hge] at HSC
              clear HCELL HRX
              go_wp2
              go_roundw
              case rel => exact ⟨y + 1, z0, z1, by omega, vi (by omega), by rw [HSC.out, if_neg (by simp), List.append_nil]; exact HO4.out, HNO.out, HB4.out, HG4.out, H5.out⟩
              case measure => simp [intOf] <;> omega
        · obtain rfl : y = n := by omega
          have hyy : ¬ (y : Int) < (y : Int) := by omega
          have HN3 := Lib.hid (show f3 R y a x (j + 1) = f3 R y a x j ++ f4 R a x b y from by rw [f3_succ, HBJ.out])
          go_wp2
          go_roundw
          case rel => exact ⟨j + 1, z0, z1, by have := HBJ.out; have := HBN.out; omega, vi (by have := HBJ.out; omega), by rw [HN3.out, ← List.append_assoc]; exact HO4.out, HNO.out, HB4.out, HG4.out, H5.out⟩
          case measure => have := HBN.out; simp [intOf] <;> omega
    · have hjn : j = N - a := by have := HBJ.out; omega
      have hbb : ¬ (b : Int) < (N : Int) := by omega
      subst hjn
      go_wp2
      go_ret
      exact ⟨_, rfl, HO3.out, HB3.out, HG3.out⟩
end Go.Proofs.YtekambdnmaompaaGreat.SW
