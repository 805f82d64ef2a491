/- Contract: the most that two of several profiles reach. -/
import Derived.Test.YtekambdnmaompaaGreatJL
namespace Go.Proofs.YtekambdnmaompaaGreat.SW
set_option linter.unusedVariables false
set_option linter.unusedSimpArgs false
open Go.RowKit
def rch0 (x y : S) : Int := x.x + y.x
def rch1 (x y : S) : Int := x.x + x.y + y.x
def rch2 (x y : S) : Int := x.x + y.x + y.y
def rch3 (x y : S) : Int := x.x + x.y + y.x + y.y
def WB (f : S → S → Int) (a b : List S) (u : Int) : Prop := ∀ x ∈ a, ∀ y ∈ b, f x y ≤ u
def GW (f : S → S → Int) (l : List S) (u : Int) : Prop := (0 ≤ u ∧ u ≤ 100000) ∧ WB f l l u
theorem WB.nil (f : S → S → Int) (b : List S) (u : Int) : WB f [] b u := fun x h => by simp at h
theorem WB.nil2 (f : S → S → Int) (a : List S) (u : Int) : WB f a [] u := fun x _ y h => by simp at h
theorem WB.more {f : S → S → Int} {a b : List S} {u u2 : Int} (h : WB f a b u) (hu : u ≤ u2) : WB f a b u2 := fun x hx y hy => Int.le_trans (h x hx y hy) hu
theorem WB.left {f : S → S → Int} {l b : List S} {u : Int} {i : Nat} (hi : i < l.length) (h : WB f (l.take i) b u) (h2 : WB f [l[i]] b u) : WB f (l.take (i + 1)) b u := by
  intro x hx y hy
  rw [← List.take_append_getElem hi] at hx
  rcases List.mem_append.1 hx with hx | hx
  · exact h x hx y hy
  · exact h2 x hx y hy
theorem WB.right {f : S → S → Int} {x : S} {l : List S} {u : Int} {j : Nat} (hj : j < l.length) (h : WB f [x] (l.take j) u) (h2 : f x l[j] ≤ u) : WB f [x] (l.take (j + 1)) u := by
  intro z hz y hy
  rw [← List.take_append_getElem hj] at hy
  rcases List.mem_append.1 hy with hy | hy
  · exact h z hz y hy
  · simp only [List.mem_singleton] at hz hy
    subst hz; subst hy; exact h2
structure WF (w W1 wr : World) : Prop where
  hb : Below w.heap.size w wr
  hsz : W1.heap.size + 1 ≤ wr.heap.size
  ts : Ts W1.heap.size wr
  r2 : Ro wr w.heap.size 160 0 0 0 0
theorem WF.below {w W1 wr wx : World} (h : WF w W1 wr) (hz : W1.heap.size = w.heap.size + 2) (hb : Below wr.heap.size wr wx) : WF w W1 wx :=
  ⟨h.hb.trans (hb.mono h.hb.size), by have := h.hsz; have := hb.size; omega, h.ts.keep hb (by have := h.hsz; omega), h.r2.below hb (by have := h.hsz; omega)⟩
theorem WF.set {w W1 wr : World} (h : WF w W1 wr) (hz : W1.heap.size = w.heap.size + 2) (k : Nat) (v : Value) : WF w W1 (wr.setCell ⟨w.heap.size + 1, k, none⟩ v) :=
  ⟨h.hb.setCell (by simp) _, by simpa using h.hsz, h.ts.other _ (by simp; omega), h.r2.other _ (by simp)⟩
set_option maxRecDepth 100000 in
set_option maxHeartbeats 16000000 in
theorem widest_any (A : Option Addr) (c n : Nat) (l : List S) (w : World) (hn : l.length = n) (hn2 : n ≤ 1000000) (hS : Sl w w.heap.size 2 CS A l) (hpr : ∀ x ∈ l, Pr x.x x.y) :
    Calls Tryz.prog 94 #[.slice A n c] w fun e w' => (∃ u0 u1 u2 u3 : Int, e = .returned (.agg #[.int .i64 u0, .int .i64 u1, .int .i64 u2, .int .i64 u3]) ∧ GW rch0 l u0 ∧ GW rch1 l u1 ∧ GW rch2 l u2 ∧ GW rch3 l u3) ∧ Below w.heap.size w w' := by
  have HN := Lib.hid hn
  have HSL := Lib.hid (show ∀ wx, Below w.heap.size w wx → ∀ i x, l[i]? = some x → ∃ b o, A = some ⟨b, o, none⟩ ∧ wx.cell? ⟨b, o + i * 2, none⟩ = some (.int .i64 x.x) ∧ wx.cell? ⟨b, o + i * 2 + 1, none⟩ = some (.int .i64 x.y) from fun wx hx i x hi => by
    obtain ⟨hl, e⟩ := List.getElem?_eq_some_iff.1 hi
    obtain ⟨b, o, rfl, hb, p0, p1⟩ := spot_at hS hl
    rw [e] at p0 p1
    exact ⟨b, o, rfl, (hx.cell (p := ⟨b, o + i * 2, none⟩) hb).trans p0, (hx.cell (p := ⟨b, o + i * 2 + 1, none⟩) hb).trans p1⟩)
  have HPR := Lib.hid hpr
  have HRH0 := Lib.hid (show ∀ x y : S, Pr x.x x.y → Pr y.x y.y → (∀ w, Calls Tryz.prog 116 #[.agg #[.int .i64 x.x, .int .i64 x.y], .agg #[.int .i64 y.x, .int .i64 y.y]] w fun e w' => e = .returned (.int .i64 (rch0 x y)) ∧ Below w.heap.size w w') ∧ 0 ≤ rch0 x y ∧ rch0 x y ≤ 100000 from fun x y hx hy => ⟨fun w => reach1_any x.x x.y y.x y.y w hx.h1 hx.h2 hx.h3 hx.h4 hy.h1 hy.h2 hy.h3 hy.h4, by unfold rch0; have := hx.h1; have := hx.h3; have := hy.h1; have := hy.h3; omega, by unfold rch0; have := hx.h2; have := hx.h4; have := hy.h2; have := hy.h4; omega⟩)
  have HRH1 := Lib.hid (show ∀ x y : S, Pr x.x x.y → Pr y.x y.y → (∀ w, Calls Tryz.prog 117 #[.agg #[.int .i64 x.x, .int .i64 x.y], .agg #[.int .i64 y.x, .int .i64 y.y]] w fun e w' => e = .returned (.int .i64 (rch1 x y)) ∧ Below w.heap.size w w') ∧ 0 ≤ rch1 x y ∧ rch1 x y ≤ 100000 from fun x y hx hy => ⟨fun w => reach2_any x.x x.y y.x y.y w hx.h1 hx.h2 hx.h3 hx.h4 hy.h1 hy.h2 hy.h3 hy.h4, by unfold rch1; have := hx.h1; have := hx.h3; have := hy.h1; have := hy.h3; omega, by unfold rch1; have := hx.h2; have := hx.h4; have := hy.h2; have := hy.h4; omega⟩)
  have HRH2 := Lib.hid (show ∀ x y : S, Pr x.x x.y → Pr y.x y.y → (∀ w, Calls Tryz.prog 119 #[.agg #[.int .i64 x.x, .int .i64 x.y], .agg #[.int .i64 y.x, .int .i64 y.y]] w fun e w' => e = .returned (.int .i64 (rch2 x y)) ∧ Below w.heap.size w w') ∧ 0 ≤ rch2 x y ∧ rch2 x y ≤ 100000 from fun x y hx hy => ⟨fun w => reach3_any x.x x.y y.x y.y w hx.h1 hx.h2 hx.h3 hx.h4 hy.h1 hy.h2 hy.h3 hy.h4, by unfold rch2; have := hx.h1; have := hx.h3; have := hy.h1; have := hy.h3; omega, by unfold rch2; have := hx.h2; have := hx.h4; have := hy.h2; have := hy.h4; omega⟩)
  have HRH3 := Lib.hid (show ∀ x y : S, Pr x.x x.y → Pr y.x y.y → (∀ w, Calls Tryz.prog 121 #[.agg #[.int .i64 x.x, .int .i64 x.y], .agg #[.int .i64 y.x, .int .i64 y.y]] w fun e w' => e = .returned (.int .i64 (rch3 x y)) ∧ Below w.heap.size w w') ∧ 0 ≤ rch3 x y ∧ rch3 x y ≤ 100000 from fun x y hx hy => ⟨fun w => reach4_any x.x x.y y.x y.y w hx.h1 hx.h2 hx.h3 hx.h4 hy.h1 hy.h2 hy.h3 hy.h4, by unfold rch3; have := hx.h1; have := hx.h3; have := hy.h1; have := hy.h3; omega, by unfold rch3; have := hx.h2; have := hx.h4; have := hy.h2; have := hy.h4; omega⟩)
  have hb1 := ((Below.refl _ w).alloc (Nat.le_refl _) (.cells #[.int .i64 0, .int .i64 0, .int .i64 0, .int .i64 0] 160)).alloc (by simp) (.cells #[.int .i64 0, .int .i64 0, .int .i64 0, .int .i64 0] 160)
  have hz : ((w.alloc (.cells #[.int .i64 0, .int .i64 0, .int .i64 0, .int .i64 0] 160)).alloc (.cells #[.int .i64 0, .int .i64 0, .int .i64 0, .int .i64 0] 160)).heap.size = w.heap.size + 2 := by simp
  have r2 := (Ro.new w 160 0 0 0 0).below ((Below.refl _ (w.alloc (.cells #[.int .i64 0, .int .i64 0, .int .i64 0, .int .i64 0] 160))).alloc (Nat.le_refl _) (.cells #[.int .i64 0, .int .i64 0, .int .i64 0, .int .i64 0] 160)) (by simp)
  have r3 := Ro.new (w.alloc (.cells #[.int .i64 0, .int .i64 0, .int .i64 0, .int .i64 0] 160)) 160 0 0 0 0
  simp only [World.size_alloc] at r3
  obtain ⟨W1, hW1⟩ : ∃ z, ((w.alloc (.cells #[.int .i64 0, .int .i64 0, .int .i64 0, .int .i64 0] 160)).alloc (.cells #[.int .i64 0, .int .i64 0, .int .i64 0, .int .i64 0] 160)) = z := ⟨_, rfl⟩
  rw [hW1] at hb1 hz r2 r3
  have HB1 := Lib.hid hb1; have HR2' := Lib.hid r2; have HR3' := Lib.hid r3; have HZ := Lib.hid hz
  clear hb1 r2 r3 hz hS hn hpr
  go_enter Tryz.func94, Tryz.ntmps94
  go_wp2_with fail
  refine (tests2_any _).mono ?_
  rintro e w2 ⟨⟨rfl, hts, hgl⟩, hb2⟩
  clear hW1
  have HF2 := Lib.hid (show WF w W1 w2 from ⟨HB1.out.trans (hb2.mono HB1.out.size), by rw [hgl]; exact Nat.le_refl _, hts, HR2'.out.below hb2 (by have := HZ.out; omega)⟩)
  have HR3 := Lib.hid (HR3'.out.below hb2 (by have := HZ.out; omega))
  clear hts hgl hb2
  go_wp2
  go_loopw [12] (fun s12 wr => WF w W1 wr ∧ ((s12 = .int .i64 0 ∧ Ro wr (w.heap.size + 1) 160 0 0 0 0) ∨ (s12 = .int .i64 1 ∧ ∃ u0 : Int, GW rch0 l u0 ∧ Ro wr (w.heap.size + 1) 160 u0 0 0 0) ∨ (s12 = .int .i64 2 ∧ ∃ u0 u1 : Int, GW rch0 l u0 ∧ GW rch1 l u1 ∧ Ro wr (w.heap.size + 1) 160 u0 u1 0 0) ∨ (s12 = .int .i64 3 ∧ ∃ u0 u1 u2 : Int, GW rch0 l u0 ∧ GW rch1 l u1 ∧ GW rch2 l u2 ∧ Ro wr (w.heap.size + 1) 160 u0 u1 u2 0) ∨ (s12 = .int .i64 4 ∧ ∃ u0 u1 u2 u3 : Int, GW rch0 l u0 ∧ GW rch1 l u1 ∧ GW rch2 l u2 ∧ GW rch3 l u3 ∧ Ro wr (w.heap.size + 1) 160 u0 u1 u2 u3))) (fun s12 _ => 4 - (intOf s12).toNat)
  case atStart => exact ⟨HF2.out, .inl ⟨rfl, HR3.out⟩⟩
  case round =>
    obtain ⟨hwf, ⟨rfl, h3⟩ | ⟨rfl, u0, hg0, h3⟩ | ⟨rfl, u0, u1, hg0, hg1, h3⟩ | ⟨rfl, u0, u1, u2, hg0, hg1, hg2, h3⟩ | ⟨rfl, u0, u1, u2, u3, hg0, hg1, hg2, hg3, h3⟩⟩ := hrel
    · obtain ⟨wo, hwo⟩ : ∃ z, z = wr := ⟨_, rfl⟩
      subst hwo
      have HWF := Lib.hid hwf; have H3 := Lib.hid h3
      obtain ⟨c0, c1, c2, c3, c4, c5, c6, c7⟩ := hwf.ts
      have hbe := (Below.refl wo.heap.size wo).alloc (Nat.le_refl _) (.cells #[.func (.func 116) #[] #[], .func (.func 62) #[] #[]] 158)
      have k0 := cell_new1 wo #[.func (.func 116) #[] #[], .func (.func 62) #[] #[]] 158 0
      have hzz : (wo.alloc (.cells #[.func (.func 116) #[] #[], .func (.func 62) #[] #[]] 158)).heap.size = wo.heap.size + 1 := by simp
      obtain ⟨W3, hW3⟩ : ∃ z, wo.alloc (.cells #[.func (.func 116) #[] #[], .func (.func 62) #[] #[]] 158) = z := ⟨_, rfl⟩
      rw [hW3] at hbe k0 hzz
      have hzo : w.heap.size + 3 ≤ wo.heap.size := by have h1 := hwf.hsz; rw [HZ.out] at h1; exact h1
      have HF3 := Lib.hid (hwf.below HZ.out hbe)
      have HR3 := Lib.hid (h3.below hbe (by omega))
      have HC8 := Lib.hid (show W3.cell? ⟨wo.heap.size, 0, none⟩ = some (.func (.func 116) #[] #[]) from k0)
      have HZ3 := Lib.hid hzz
      clear hwf h3 hbe k0 hzz
      go_wp2
      clear hW3 c0 c1 c2 c3 c4 c5 c6 c7 HWF H3
      go_loopw [19] (fun s19 wr => WF w W1 wr ∧ ∃ (i : Nat) (v : Int), i ≤ n ∧ s19 = .int .i64 (i : Int) ∧ (0 ≤ v ∧ v ≤ 100000) ∧ WB rch0 (l.take i) l v ∧ Ro wr (w.heap.size + 1) 160 v 0 0 0 ∧ wr.cell? ⟨wo.heap.size, 0, none⟩ = some (.func (.func 116) #[] #[]) ∧ wo.heap.size + 1 ≤ wr.heap.size) (fun s19 _ => n - (intOf s19).toNat)
      case atStart => exact ⟨HF3.out, 0, 0, Nat.zero_le _, rfl, ⟨by omega, by omega⟩, WB.nil _ _ _, HR3.out, HC8.out, by rw [HZ3.out]; exact Nat.le_refl _⟩
      case round =>
        obtain ⟨hwf, i, v, hi, rfl, hv, hwb, h3, h8, hom⟩ := hrel
        obtain ⟨wm, hwm⟩ : ∃ z, z = wr := ⟨_, rfl⟩
        subst hwm
        clear HF3 HR3 HC8 HZ3
        by_cases hin : i < n
        · have hil : i < l.length := by rw [HN.out]; exact hin
          obtain ⟨x, hx⟩ : ∃ z, l[i] = z := ⟨_, rfl⟩
          have HXL := Lib.hid hx
          have HPX := Lib.hid (HPR.out x (by rw [← hx]; exact List.getElem_mem hil))
          obtain ⟨bp, op, eA, p0, p1⟩ := HSL.out wm hwf.hb i x (by rw [← hx]; exact List.getElem?_eq_getElem hil)
          subst eA
          have hbe := (Below.refl wm.heap.size wm).alloc (Nat.le_refl _) (.cells #[.int .i64 x.x, .int .i64 x.y] 46)
          have k0 := cell_new1 wm #[.int .i64 x.x, .int .i64 x.y] 46 0
          have k1 := cell_new1 wm #[.int .i64 x.x, .int .i64 x.y] 46 1
          have hzz : (wm.alloc (.cells #[.int .i64 x.x, .int .i64 x.y] 46)).heap.size = wm.heap.size + 1 := by simp
          obtain ⟨W4, hW4⟩ : ∃ z, wm.alloc (.cells #[.int .i64 x.x, .int .i64 x.y] 46) = z := ⟨_, rfl⟩
          rw [hW4] at hbe k0 k1 hzz
          have HF4 := Lib.hid (hwf.below HZ.out hbe)
          have HR4' := Lib.hid (h3.below hbe (by omega))
          have HC8' := Lib.hid ((hbe.cell (p := ⟨wo.heap.size, 0, none⟩) (by simp; omega)).trans h8)
          have HX0' := Lib.hid (show W4.cell? ⟨wm.heap.size, 0, none⟩ = some (.int .i64 x.x) from k0)
          have HX1' := Lib.hid (show W4.cell? ⟨wm.heap.size, 1, none⟩ = some (.int .i64 x.y) from k1)
          have HZ4 := Lib.hid hzz
          have HWB := Lib.hid hwb; have HV := Lib.hid hv
          have i0 : (0 : Int) ≤ (i : Int) := by omega
          have i1 : (i : Int) < (n : Int) := by omega
          clear hx hbe k0 k1 hzz hwf h3 h8 hwb hv
          go_wp2
          clear hW4 p0 p1
          go_loopw [25] (fun s25 wr => WF w W1 wr ∧ ∃ (j : Nat) (v : Int), j ≤ n ∧ s25 = .int .i64 (j : Int) ∧ (0 ≤ v ∧ v ≤ 100000) ∧ WB rch0 (l.take i) l v ∧ WB rch0 [x] (l.take j) v ∧ Ro wr (w.heap.size + 1) 160 v 0 0 0 ∧ wr.cell? ⟨wo.heap.size, 0, none⟩ = some (.func (.func 116) #[] #[]) ∧ wr.cell? ⟨wm.heap.size, 0, none⟩ = some (.int .i64 x.x) ∧ wr.cell? ⟨wm.heap.size, 1, none⟩ = some (.int .i64 x.y) ∧ wm.heap.size + 1 ≤ wr.heap.size) (fun s25 _ => n - (intOf s25).toNat)
          case atStart => exact ⟨HF4.out, 0, v, Nat.zero_le _, rfl, HV.out, HWB.out, WB.nil2 _ _ _, HR4'.out, HC8'.out, HX0'.out, HX1'.out, by rw [HZ4.out]; exact Nat.le_refl _⟩
          case round =>
            clear HF4 HR4' HC8' HX0' HX1' HZ4 HWB HV
            obtain ⟨hwf, j, v, hj, rfl, hv, hwb1, hwb2, h3, h8, hx0, hx1, hmr⟩ := hrel
            have HWF := Lib.hid hwf; have HWB1 := Lib.hid hwb1; have HWB2 := Lib.hid hwb2; have H3 := Lib.hid h3; have HC8 := Lib.hid h8; have HX0 := Lib.hid hx0; have HX1 := Lib.hid hx1
            obtain ⟨hv0, hv1⟩ := hv
            by_cases hjn : j < n
            · have hjl : j < l.length := by rw [HN.out]; exact hjn
              obtain ⟨y, hy⟩ : ∃ z, l[j] = z := ⟨_, rfl⟩
              have HYL := Lib.hid hy
              have HPY := Lib.hid (HPR.out y (by rw [← hy]; exact List.getElem_mem hjl))
              obtain ⟨b2, o2, eA, p0, p1⟩ := HSL.out wr hwf.hb j y (by rw [← hy]; exact List.getElem?_eq_getElem hjl)
              cases eA
              obtain ⟨hrc, hr0, hr1⟩ := HRH0.out x y HPX.out HPY.out
              obtain ⟨r, hr⟩ : ∃ z, rch0 x y = z := ⟨_, rfl⟩
              rw [hr] at hrc hr0 hr1
              have HRC := Lib.hid hrc; have HRV := Lib.hid hr
              have hbe := (Below.refl wr.heap.size wr).alloc (Nat.le_refl _) (.cells #[.int .i64 y.x, .int .i64 y.y] 46)
              have k0 := cell_new1 wr #[.int .i64 y.x, .int .i64 y.y] 46 0
              have k1 := cell_new1 wr #[.int .i64 y.x, .int .i64 y.y] 46 1
              have hzz : (wr.alloc (.cells #[.int .i64 y.x, .int .i64 y.y] 46)).heap.size = wr.heap.size + 1 := by simp
              obtain ⟨W5, hW5⟩ : ∃ z, wr.alloc (.cells #[.int .i64 y.x, .int .i64 y.y] 46) = z := ⟨_, rfl⟩
              rw [hW5] at hbe k0 k1 hzz
              have HBE := Lib.hid hbe
              have HZM := Lib.hid (show wo.heap.size + 1 ≤ wm.heap.size ∧ wm.heap.size + 1 ≤ wr.heap.size ∧ w.heap.size + 3 ≤ wo.heap.size from ⟨hom, hmr, hzo⟩)
              have HCV := Lib.hid (show ∀ wx, Below W5.heap.size W5 wx → wx.cell? ⟨w.heap.size + 1, 0, none⟩ = some (.int .i64 v) from fun wx h => (h3.below (hbe.trans (h.mono hbe.size)) (by omega)).cell 0)
              have HCELL := Lib.hid (show ∀ wx, Below W5.heap.size W5 wx → wx.cell? ⟨wo.heap.size, 0, none⟩ = some (.func (.func 116) #[] #[]) ∧ wx.cell? ⟨wm.heap.size, 0, none⟩ = some (.int .i64 x.x) ∧ wx.cell? ⟨wm.heap.size, 1, none⟩ = some (.int .i64 x.y) ∧ wx.cell? ⟨wr.heap.size, 0, none⟩ = some (.int .i64 y.x) ∧ wx.cell? ⟨wr.heap.size, 1, none⟩ = some (.int .i64 y.y) ∧ (∃ z, wx.cell? ⟨w.heap.size + 1, 0, none⟩ = some (.int .i64 z)) ∧ wx.frozen? ⟨w.heap.size + 1, 0, none⟩ = false from fun wx h => by
                have h1 := hbe.trans (h.mono hbe.size)
                exact ⟨(h1.cell (p := ⟨wo.heap.size, 0, none⟩) (by simp; omega)).trans h8, (h1.cell (p := ⟨wm.heap.size, 0, none⟩) (by simp; omega)).trans hx0, (h1.cell (p := ⟨wm.heap.size, 1, none⟩) (by simp; omega)).trans hx1, (h.cell (p := ⟨wr.heap.size, 0, none⟩) (by simp; omega)).trans k0, (h.cell (p := ⟨wr.heap.size, 1, none⟩) (by simp; omega)).trans k1, ⟨_, (h3.below h1 (by omega)).cell 0⟩, (h3.below h1 (by omega)).frozen 0⟩)
              have j0 : (0 : Int) ≤ (j : Int) := by omega
              have j1 : (j : Int) < (n : Int) := by omega
              clear hy hr hrc hbe k0 k1 hzz hwf h3 h8 hx0 hx1 hwb1 hwb2
              go_wp2_with fail
              go_upto_region 11 with (fail)
              clear hW5 p0 p1
              have hbq : Below W5.heap.size W5 W5.drew := (Below.refl _ _).drew
              have HS := Lib.hid (HCELL.out _ hbq)
              refine wp_region_held_drew (S := fun wx => wx.cell? ⟨wo.heap.size, 0, none⟩ = some (.func (.func 116) #[] #[]) ∧ wx.cell? ⟨wm.heap.size, 0, none⟩ = some (.int .i64 x.x) ∧ wx.cell? ⟨wm.heap.size, 1, none⟩ = some (.int .i64 x.y) ∧ wx.cell? ⟨wr.heap.size, 0, none⟩ = some (.int .i64 y.x) ∧ wx.cell? ⟨wr.heap.size, 1, none⟩ = some (.int .i64 y.y) ∧ (∃ z, wx.cell? ⟨w.heap.size + 1, 0, none⟩ = some (.int .i64 z)) ∧ wx.frozen? ⟨w.heap.size + 1, 0, none⟩ = false) (by kernel_rfl) HS.out (fun _ => ?_)
              refine hTake (i := 0) (d := 29) (v := .int .i64 0) rfl rfl (by kernel_rfl) (by kernel_rfl) (by kernel_rfl) (fun _ _ _ h => h) (Or.inl ⟨rfl, ?gr⟩) HS.out ?_
              case gr =>
                rintro W' ⟨s0, s1, s2, s3, s4, ⟨z, s5⟩, s6⟩
                go_simp
              simp only [Act.put, List.setIfInBounds_toArray, List.set_cons_zero, List.set_cons_succ]
              refine hTake (i := 1) (d := 30) (v := .int .i64 0) rfl rfl (by kernel_rfl) (by kernel_rfl) (by kernel_rfl) (fun _ _ _ h => h) (Or.inl ⟨rfl, ?gr⟩) HS.out ?_
              case gr =>
                rintro W' ⟨s0, s1, s2, s3, s4, ⟨z, s5⟩, s6⟩
                go_simp
              simp only [Act.put, List.setIfInBounds_toArray, List.set_cons_zero, List.set_cons_succ]
              refine hTake (i := 2) (d := 31) (v := .pointer (some ⟨w.heap.size + 1, 0, none⟩)) rfl rfl (by kernel_rfl) (by kernel_rfl) (by kernel_rfl) (fun _ _ _ h => h) (Or.inl ⟨rfl, ?gr⟩) HS.out ?_
              case gr =>
                rintro W' ⟨s0, s1, s2, s3, s4, ⟨z, s5⟩, s6⟩
                go_simp
              simp only [Act.put, List.setIfInBounds_toArray, List.set_cons_zero, List.set_cons_succ]
              refine hTake (i := 4) (d := 33) (v := .pointer (some ⟨wo.heap.size, 0, none⟩)) rfl rfl (by kernel_rfl) (by kernel_rfl) (by kernel_rfl) (fun _ _ _ h => h) (Or.inl ⟨rfl, ?gr⟩) HS.out ?_
              case gr =>
                rintro W' ⟨s0, s1, s2, s3, s4, ⟨z, s5⟩, s6⟩
                go_simp
              simp only [Act.put, List.setIfInBounds_toArray, List.set_cons_zero, List.set_cons_succ]
              refine hTake (i := 5) (d := 34) (v := .func (.func 116) #[] #[]) rfl rfl (by kernel_rfl) (by kernel_rfl) (by kernel_rfl) (fun _ _ _ h => h) (Or.inl ⟨rfl, ?gr⟩) HS.out ?_
              case gr =>
                rintro W' ⟨s0, s1, s2, s3, s4, ⟨z, s5⟩, s6⟩
                go_simp
              simp only [Act.put, List.setIfInBounds_toArray, List.set_cons_zero, List.set_cons_succ]
              refine hTake (i := 6) (d := 35) (v := .agg #[.int .i64 x.x, .int .i64 x.y]) rfl rfl (by kernel_rfl) (by kernel_rfl) (by kernel_rfl) (fun _ _ _ h => h) (Or.inl ⟨rfl, ?gr⟩) HS.out ?_
              case gr =>
                rintro W' ⟨s0, s1, s2, s3, s4, ⟨z, s5⟩, s6⟩
                go_simp
              simp only [Act.put, List.setIfInBounds_toArray, List.set_cons_zero, List.set_cons_succ]
              refine hTake (i := 7) (d := 36) (v := .agg #[.int .i64 y.x, .int .i64 y.y]) rfl rfl (by kernel_rfl) (by kernel_rfl) (by kernel_rfl) (fun _ _ _ h => h) (Or.inl ⟨rfl, ?gr⟩) HS.out ?_
              case gr =>
                rintro W' ⟨s0, s1, s2, s3, s4, ⟨z, s5⟩, s6⟩
                go_simp
              simp only [Act.put, List.setIfInBounds_toArray, List.set_cons_zero, List.set_cons_succ]
              refine wpAnyH_ready (rs := [3, 8]) (by kernel_rfl) (by simp) ?_
              refine AllReadyH.cons rfl (fun K hK => ?_) (AllReadyH.cons rfl (fun K hK => ?_) AllReadyH.nil)
              · rw [if_pos (by rfl)]
                have c9 := HCV.out _ hbq
                go_simp
                refine hK.out _ _ HS.out (fun _ => ?_)
                clear c9
                clear hK K
                try simp only [Act.put, List.setIfInBounds_toArray, List.set_cons_zero, List.set_cons_succ]
                refine wpAnyH_ready (rs := [8]) (by kernel_rfl) (by simp) ?_
                refine AllReadyH.cons rfl (fun K hK => ?_) AllReadyH.nil
                rw [if_pos (by rfl)]
                go_simp
                (with_reducible refine (HRC.out _).mono ?_)
                rintro e wc ⟨rfl, hbc⟩
                replace hbq := hbq.trans (hbc.mono hbq.size)
                have HS := Lib.hid (HCELL.out _ hbq)
                clear hbc
                refine hK.out _ _ HS.out (fun _ => ?_)
                clear hK K
                try simp only [Act.put, List.setIfInBounds_toArray, List.set_cons_zero, List.set_cons_succ]
                refine hTake (i := 9) (d := 38) (v := .int .i64 (max v r)) rfl rfl (by kernel_rfl) (by kernel_rfl) (by kernel_rfl) (fun _ _ _ h => h) (Or.inl ⟨rfl, ?gr⟩) HS.out ?_
                case gr =>
                  rintro W' ⟨s0, s1, s2, s3, s4, ⟨z, s5⟩, s6⟩
                  go_simp
                simp only [Act.put, List.setIfInBounds_toArray, List.set_cons_zero, List.set_cons_succ]
                refine hTake (i := 10) (d := 39) (v := .pointer (some ⟨w.heap.size + 1, 0, none⟩)) rfl rfl (by kernel_rfl) (by kernel_rfl) (by kernel_rfl) (fun _ _ _ h => h) (Or.inl ⟨rfl, ?gr⟩) HS.out ?_
                case gr =>
                  rintro W' ⟨s0, s1, s2, s3, s4, ⟨z, s5⟩, s6⟩
                  go_simp
                simp only [Act.put, List.setIfInBounds_toArray, List.set_cons_zero, List.set_cons_succ]
                refine wpAnyH_ready (rs := [11]) (by kernel_rfl) (by simp) ?_
                refine AllReadyH.cons rfl (fun K hK => ?_) AllReadyH.nil
                rw [if_pos (by rfl)]
                obtain ⟨s0, s1, s2, s3, s4, ⟨z, s5⟩, s6⟩ := HS.out
                have hzm := HZM.out
                go_simp
                have HS2 := Lib.hid (show (fun wx : World => wx.cell? ⟨wo.heap.size, 0, none⟩ = some (.func (.func 116) #[] #[]) ∧ wx.cell? ⟨wm.heap.size, 0, none⟩ = some (.int .i64 x.x) ∧ wx.cell? ⟨wm.heap.size, 1, none⟩ = some (.int .i64 x.y) ∧ wx.cell? ⟨wr.heap.size, 0, none⟩ = some (.int .i64 y.x) ∧ wx.cell? ⟨wr.heap.size, 1, none⟩ = some (.int .i64 y.y) ∧ (∃ z, wx.cell? ⟨w.heap.size + 1, 0, none⟩ = some (.int .i64 z)) ∧ wx.frozen? ⟨w.heap.size + 1, 0, none⟩ = false) (World.setCell _ ⟨w.heap.size + 1, 0, none⟩ (.int .i64 (max v r))) from ⟨by rw [World.cell?_setCell_other (h := by simp <;> omega)]; exact s0, by rw [World.cell?_setCell_other (h := by simp <;> omega)]; exact s1, by rw [World.cell?_setCell_other (h := by simp <;> omega)]; exact s2, by rw [World.cell?_setCell_other (h := by simp <;> omega)]; exact s3, by rw [World.cell?_setCell_other (h := by simp <;> omega)]; exact s4, ⟨_, World.cell?_setCell_same _ _ _ s5⟩, by rw [World.frozen?_setCell]; exact s6⟩)
                refine hK.out _ _ HS2.out (fun _ => ?_)
                clear s0 s1 s2 s3 s4 s5 s6 HS2 hzm
                clear hK K
                try simp only [Act.put, List.setIfInBounds_toArray, List.set_cons_zero, List.set_cons_succ]
                refine wpAnyH_done (by kernel_rfl) ?_ _
                have HBQ := Lib.hid (HBE.out.trans (hbq.mono HBE.out.size))
                clear hbq
                go_wp2
                go_roundw
                case rel =>
                  have hz1 := HZ.out; have hzm := HZM.out
                  refine ⟨(HWF.out.below hz1 HBQ.out).set hz1 _ _, j + 1, max v r, by omega, by go_num, ⟨by omega, by omega⟩, HWB1.out.more (by omega), WB.right hjl (HWB2.out.more (by omega)) (by rw [HYL.out, HRV.out]; omega), (H3.out.below HBQ.out (by omega)).set0 _, ?_, ?_, ?_, ?_⟩
                  · rw [World.cell?_setCell_other (h := by simp <;> omega)]; exact (HBQ.out.cell (p := ⟨wo.heap.size, 0, none⟩) (by simp; omega)).trans HC8.out
                  · rw [World.cell?_setCell_other (h := by simp <;> omega)]; exact (HBQ.out.cell (p := ⟨wm.heap.size, 0, none⟩) (by simp; omega)).trans HX0.out
                  · rw [World.cell?_setCell_other (h := by simp <;> omega)]; exact (HBQ.out.cell (p := ⟨wm.heap.size, 1, none⟩) (by simp; omega)).trans HX1.out
                  · rw [World.size_setCell]
                    have h9 := HBQ.out.size
                    omega
                case measure => simp [intOf] <;> omega
              · rw [if_pos (by rfl)]
                go_simp
                (with_reducible refine (HRC.out _).mono ?_)
                rintro e wc ⟨rfl, hbc⟩
                replace hbq := hbq.trans (hbc.mono hbq.size)
                have HS := Lib.hid (HCELL.out _ hbq)
                clear hbc
                refine hK.out _ _ HS.out (fun _ => ?_)
                clear hK K
                try simp only [Act.put, List.setIfInBounds_toArray, List.set_cons_zero, List.set_cons_succ]
                refine wpAnyH_ready (rs := [3]) (by kernel_rfl) (by simp) ?_
                refine AllReadyH.cons rfl (fun K hK => ?_) AllReadyH.nil
                rw [if_pos (by rfl)]
                have c9 := HCV.out _ hbq
                go_simp
                refine hK.out _ _ HS.out (fun _ => ?_)
                clear c9
                clear hK K
                try simp only [Act.put, List.setIfInBounds_toArray, List.set_cons_zero, List.set_cons_succ]
                refine hTake (i := 9) (d := 38) (v := .int .i64 (max v r)) rfl rfl (by kernel_rfl) (by kernel_rfl) (by kernel_rfl) (fun _ _ _ h => h) (Or.inl ⟨rfl, ?gr⟩) HS.out ?_
                case gr =>
                  rintro W' ⟨s0, s1, s2, s3, s4, ⟨z, s5⟩, s6⟩
                  go_simp
                simp only [Act.put, List.setIfInBounds_toArray, List.set_cons_zero, List.set_cons_succ]
                refine hTake (i := 10) (d := 39) (v := .pointer (some ⟨w.heap.size + 1, 0, none⟩)) rfl rfl (by kernel_rfl) (by kernel_rfl) (by kernel_rfl) (fun _ _ _ h => h) (Or.inl ⟨rfl, ?gr⟩) HS.out ?_
                case gr =>
                  rintro W' ⟨s0, s1, s2, s3, s4, ⟨z, s5⟩, s6⟩
                  go_simp
                simp only [Act.put, List.setIfInBounds_toArray, List.set_cons_zero, List.set_cons_succ]
                refine wpAnyH_ready (rs := [11]) (by kernel_rfl) (by simp) ?_
                refine AllReadyH.cons rfl (fun K hK => ?_) AllReadyH.nil
                rw [if_pos (by rfl)]
                obtain ⟨s0, s1, s2, s3, s4, ⟨z, s5⟩, s6⟩ := HS.out
                have hzm := HZM.out
                go_simp
                have HS2 := Lib.hid (show (fun wx : World => wx.cell? ⟨wo.heap.size, 0, none⟩ = some (.func (.func 116) #[] #[]) ∧ wx.cell? ⟨wm.heap.size, 0, none⟩ = some (.int .i64 x.x) ∧ wx.cell? ⟨wm.heap.size, 1, none⟩ = some (.int .i64 x.y) ∧ wx.cell? ⟨wr.heap.size, 0, none⟩ = some (.int .i64 y.x) ∧ wx.cell? ⟨wr.heap.size, 1, none⟩ = some (.int .i64 y.y) ∧ (∃ z, wx.cell? ⟨w.heap.size + 1, 0, none⟩ = some (.int .i64 z)) ∧ wx.frozen? ⟨w.heap.size + 1, 0, none⟩ = false) (World.setCell _ ⟨w.heap.size + 1, 0, none⟩ (.int .i64 (max v r))) from ⟨by rw [World.cell?_setCell_other (h := by simp <;> omega)]; exact s0, by rw [World.cell?_setCell_other (h := by simp <;> omega)]; exact s1, by rw [World.cell?_setCell_other (h := by simp <;> omega)]; exact s2, by rw [World.cell?_setCell_other (h := by simp <;> omega)]; exact s3, by rw [World.cell?_setCell_other (h := by simp <;> omega)]; exact s4, ⟨_, World.cell?_setCell_same _ _ _ s5⟩, by rw [World.frozen?_setCell]; exact s6⟩)
                refine hK.out _ _ HS2.out (fun _ => ?_)
                clear s0 s1 s2 s3 s4 s5 s6 HS2 hzm
                clear hK K
                try simp only [Act.put, List.setIfInBounds_toArray, List.set_cons_zero, List.set_cons_succ]
                refine wpAnyH_done (by kernel_rfl) ?_ _
                have HBQ := Lib.hid (HBE.out.trans (hbq.mono HBE.out.size))
                clear hbq
                go_wp2
                go_roundw
                case rel =>
                  have hz1 := HZ.out; have hzm := HZM.out
                  refine ⟨(HWF.out.below hz1 HBQ.out).set hz1 _ _, j + 1, max v r, by omega, by go_num, ⟨by omega, by omega⟩, HWB1.out.more (by omega), WB.right hjl (HWB2.out.more (by omega)) (by rw [HYL.out, HRV.out]; omega), (H3.out.below HBQ.out (by omega)).set0 _, ?_, ?_, ?_, ?_⟩
                  · rw [World.cell?_setCell_other (h := by simp <;> omega)]; exact (HBQ.out.cell (p := ⟨wo.heap.size, 0, none⟩) (by simp; omega)).trans HC8.out
                  · rw [World.cell?_setCell_other (h := by simp <;> omega)]; exact (HBQ.out.cell (p := ⟨wm.heap.size, 0, none⟩) (by simp; omega)).trans HX0.out
                  · rw [World.cell?_setCell_other (h := by simp <;> omega)]; exact (HBQ.out.cell (p := ⟨wm.heap.size, 1, none⟩) (by simp; omega)).trans HX1.out
                  · rw [World.size_setCell]
                    have h9 := HBQ.out.size
                    omega
                case measure => simp [intOf] <;> omega
            · have hjl : l.length ≤ j := by rw [HN.out]; omega
              clear hwf h3 h8 hx0 hx1 hwb1 hwb2
              go_wp2
              go_roundw
              case rel =>
                refine ⟨HWF.out, i + 1, v, by omega, by go_num, ⟨hv0, hv1⟩, WB.left hil HWB1.out (by rw [HXL.out]; have h9 := HWB2.out; rwa [List.take_of_length_le hjl] at h9), H3.out, HC8.out, by omega⟩
              case measure => simp [intOf] <;> omega
        · have hil : l.length ≤ i := by rw [HN.out]; omega
          have HG := Lib.hid (show GW rch0 l v from ⟨hv, by rwa [List.take_of_length_le hil] at hwb⟩)
          have HWF := Lib.hid hwf; have H3 := Lib.hid h3
          clear hwf h3 h8 hwb hv
          go_wp2
          go_roundw
          case rel => exact ⟨HWF.out, .inr (.inl ⟨rfl, v, HG.out, H3.out⟩)⟩
          case measure => simp [intOf] <;> omega
    · obtain ⟨wo, hwo⟩ : ∃ z, z = wr := ⟨_, rfl⟩
      subst hwo
      have HWF := Lib.hid hwf; have H3 := Lib.hid h3
      have HG0 := Lib.hid hg0
      clear hg0
      obtain ⟨c0, c1, c2, c3, c4, c5, c6, c7⟩ := hwf.ts
      have hbe := (Below.refl wo.heap.size wo).alloc (Nat.le_refl _) (.cells #[.func (.func 117) #[] #[], .func (.func 118) #[] #[]] 158)
      have k0 := cell_new1 wo #[.func (.func 117) #[] #[], .func (.func 118) #[] #[]] 158 0
      have hzz : (wo.alloc (.cells #[.func (.func 117) #[] #[], .func (.func 118) #[] #[]] 158)).heap.size = wo.heap.size + 1 := by simp
      obtain ⟨W3, hW3⟩ : ∃ z, wo.alloc (.cells #[.func (.func 117) #[] #[], .func (.func 118) #[] #[]] 158) = z := ⟨_, rfl⟩
      rw [hW3] at hbe k0 hzz
      have hzo : w.heap.size + 3 ≤ wo.heap.size := by have h1 := hwf.hsz; rw [HZ.out] at h1; exact h1
      have HF3 := Lib.hid (hwf.below HZ.out hbe)
      have HR3 := Lib.hid (h3.below hbe (by omega))
      have HC8 := Lib.hid (show W3.cell? ⟨wo.heap.size, 0, none⟩ = some (.func (.func 117) #[] #[]) from k0)
      have HZ3 := Lib.hid hzz
      clear hwf h3 hbe k0 hzz
      go_wp2
      clear hW3 c0 c1 c2 c3 c4 c5 c6 c7 HWF H3
      go_loopw [19] (fun s19 wr => WF w W1 wr ∧ ∃ (i : Nat) (v : Int), i ≤ n ∧ s19 = .int .i64 (i : Int) ∧ (0 ≤ v ∧ v ≤ 100000) ∧ WB rch1 (l.take i) l v ∧ Ro wr (w.heap.size + 1) 160 u0 v 0 0 ∧ wr.cell? ⟨wo.heap.size, 0, none⟩ = some (.func (.func 117) #[] #[]) ∧ wo.heap.size + 1 ≤ wr.heap.size) (fun s19 _ => n - (intOf s19).toNat)
      case atStart => exact ⟨HF3.out, 0, 0, Nat.zero_le _, rfl, ⟨by omega, by omega⟩, WB.nil _ _ _, HR3.out, HC8.out, by rw [HZ3.out]; exact Nat.le_refl _⟩
      case round =>
        obtain ⟨hwf, i, v, hi, rfl, hv, hwb, h3, h8, hom⟩ := hrel
        obtain ⟨wm, hwm⟩ : ∃ z, z = wr := ⟨_, rfl⟩
        subst hwm
        clear HF3 HR3 HC8 HZ3
        by_cases hin : i < n
        · have hil : i < l.length := by rw [HN.out]; exact hin
          obtain ⟨x, hx⟩ : ∃ z, l[i] = z := ⟨_, rfl⟩
          have HXL := Lib.hid hx
          have HPX := Lib.hid (HPR.out x (by rw [← hx]; exact List.getElem_mem hil))
          obtain ⟨bp, op, eA, p0, p1⟩ := HSL.out wm hwf.hb i x (by rw [← hx]; exact List.getElem?_eq_getElem hil)
          subst eA
          have hbe := (Below.refl wm.heap.size wm).alloc (Nat.le_refl _) (.cells #[.int .i64 x.x, .int .i64 x.y] 46)
          have k0 := cell_new1 wm #[.int .i64 x.x, .int .i64 x.y] 46 0
          have k1 := cell_new1 wm #[.int .i64 x.x, .int .i64 x.y] 46 1
          have hzz : (wm.alloc (.cells #[.int .i64 x.x, .int .i64 x.y] 46)).heap.size = wm.heap.size + 1 := by simp
          obtain ⟨W4, hW4⟩ : ∃ z, wm.alloc (.cells #[.int .i64 x.x, .int .i64 x.y] 46) = z := ⟨_, rfl⟩
          rw [hW4] at hbe k0 k1 hzz
          have HF4 := Lib.hid (hwf.below HZ.out hbe)
          have HR4' := Lib.hid (h3.below hbe (by omega))
          have HC8' := Lib.hid ((hbe.cell (p := ⟨wo.heap.size, 0, none⟩) (by simp; omega)).trans h8)
          have HX0' := Lib.hid (show W4.cell? ⟨wm.heap.size, 0, none⟩ = some (.int .i64 x.x) from k0)
          have HX1' := Lib.hid (show W4.cell? ⟨wm.heap.size, 1, none⟩ = some (.int .i64 x.y) from k1)
          have HZ4 := Lib.hid hzz
          have HWB := Lib.hid hwb; have HV := Lib.hid hv
          have i0 : (0 : Int) ≤ (i : Int) := by omega
          have i1 : (i : Int) < (n : Int) := by omega
          clear hx hbe k0 k1 hzz hwf h3 h8 hwb hv
          go_wp2
          clear hW4 p0 p1
          go_loopw [25] (fun s25 wr => WF w W1 wr ∧ ∃ (j : Nat) (v : Int), j ≤ n ∧ s25 = .int .i64 (j : Int) ∧ (0 ≤ v ∧ v ≤ 100000) ∧ WB rch1 (l.take i) l v ∧ WB rch1 [x] (l.take j) v ∧ Ro wr (w.heap.size + 1) 160 u0 v 0 0 ∧ wr.cell? ⟨wo.heap.size, 0, none⟩ = some (.func (.func 117) #[] #[]) ∧ wr.cell? ⟨wm.heap.size, 0, none⟩ = some (.int .i64 x.x) ∧ wr.cell? ⟨wm.heap.size, 1, none⟩ = some (.int .i64 x.y) ∧ wm.heap.size + 1 ≤ wr.heap.size) (fun s25 _ => n - (intOf s25).toNat)
          case atStart => exact ⟨HF4.out, 0, v, Nat.zero_le _, rfl, HV.out, HWB.out, WB.nil2 _ _ _, HR4'.out, HC8'.out, HX0'.out, HX1'.out, by rw [HZ4.out]; exact Nat.le_refl _⟩
          case round =>
            clear HF4 HR4' HC8' HX0' HX1' HZ4 HWB HV
            obtain ⟨hwf, j, v, hj, rfl, hv, hwb1, hwb2, h3, h8, hx0, hx1, hmr⟩ := hrel
            have HWF := Lib.hid hwf; have HWB1 := Lib.hid hwb1; have HWB2 := Lib.hid hwb2; have H3 := Lib.hid h3; have HC8 := Lib.hid h8; have HX0 := Lib.hid hx0; have HX1 := Lib.hid hx1
            obtain ⟨hv0, hv1⟩ := hv
            by_cases hjn : j < n
            · have hjl : j < l.length := by rw [HN.out]; exact hjn
              obtain ⟨y, hy⟩ : ∃ z, l[j] = z := ⟨_, rfl⟩
              have HYL := Lib.hid hy
              have HPY := Lib.hid (HPR.out y (by rw [← hy]; exact List.getElem_mem hjl))
              obtain ⟨b2, o2, eA, p0, p1⟩ := HSL.out wr hwf.hb j y (by rw [← hy]; exact List.getElem?_eq_getElem hjl)
              cases eA
              obtain ⟨hrc, hr0, hr1⟩ := HRH1.out x y HPX.out HPY.out
              obtain ⟨r, hr⟩ : ∃ z, rch1 x y = z := ⟨_, rfl⟩
              rw [hr] at hrc hr0 hr1
              have HRC := Lib.hid hrc; have HRV := Lib.hid hr
              have hbe := (Below.refl wr.heap.size wr).alloc (Nat.le_refl _) (.cells #[.int .i64 y.x, .int .i64 y.y] 46)
              have k0 := cell_new1 wr #[.int .i64 y.x, .int .i64 y.y] 46 0
              have k1 := cell_new1 wr #[.int .i64 y.x, .int .i64 y.y] 46 1
              have hzz : (wr.alloc (.cells #[.int .i64 y.x, .int .i64 y.y] 46)).heap.size = wr.heap.size + 1 := by simp
              obtain ⟨W5, hW5⟩ : ∃ z, wr.alloc (.cells #[.int .i64 y.x, .int .i64 y.y] 46) = z := ⟨_, rfl⟩
              rw [hW5] at hbe k0 k1 hzz
              have HBE := Lib.hid hbe
              have HZM := Lib.hid (show wo.heap.size + 1 ≤ wm.heap.size ∧ wm.heap.size + 1 ≤ wr.heap.size ∧ w.heap.size + 3 ≤ wo.heap.size from ⟨hom, hmr, hzo⟩)
              have HCV := Lib.hid (show ∀ wx, Below W5.heap.size W5 wx → wx.cell? ⟨w.heap.size + 1, 1, none⟩ = some (.int .i64 v) from fun wx h => (h3.below (hbe.trans (h.mono hbe.size)) (by omega)).cell 1)
              have HCELL := Lib.hid (show ∀ wx, Below W5.heap.size W5 wx → wx.cell? ⟨wo.heap.size, 0, none⟩ = some (.func (.func 117) #[] #[]) ∧ wx.cell? ⟨wm.heap.size, 0, none⟩ = some (.int .i64 x.x) ∧ wx.cell? ⟨wm.heap.size, 1, none⟩ = some (.int .i64 x.y) ∧ wx.cell? ⟨wr.heap.size, 0, none⟩ = some (.int .i64 y.x) ∧ wx.cell? ⟨wr.heap.size, 1, none⟩ = some (.int .i64 y.y) ∧ (∃ z, wx.cell? ⟨w.heap.size + 1, 1, none⟩ = some (.int .i64 z)) ∧ wx.frozen? ⟨w.heap.size + 1, 1, none⟩ = false from fun wx h => by
                have h1 := hbe.trans (h.mono hbe.size)
                exact ⟨(h1.cell (p := ⟨wo.heap.size, 0, none⟩) (by simp; omega)).trans h8, (h1.cell (p := ⟨wm.heap.size, 0, none⟩) (by simp; omega)).trans hx0, (h1.cell (p := ⟨wm.heap.size, 1, none⟩) (by simp; omega)).trans hx1, (h.cell (p := ⟨wr.heap.size, 0, none⟩) (by simp; omega)).trans k0, (h.cell (p := ⟨wr.heap.size, 1, none⟩) (by simp; omega)).trans k1, ⟨_, (h3.below h1 (by omega)).cell 1⟩, (h3.below h1 (by omega)).frozen 1⟩)
              have j0 : (0 : Int) ≤ (j : Int) := by omega
              have j1 : (j : Int) < (n : Int) := by omega
              clear hy hr hrc hbe k0 k1 hzz hwf h3 h8 hx0 hx1 hwb1 hwb2
              go_wp2_with fail
              go_upto_region 11 with (fail)
              clear hW5 p0 p1
              have hbq : Below W5.heap.size W5 W5.drew := (Below.refl _ _).drew
              have HS := Lib.hid (HCELL.out _ hbq)
              refine wp_region_held_drew (S := fun wx => wx.cell? ⟨wo.heap.size, 0, none⟩ = some (.func (.func 117) #[] #[]) ∧ wx.cell? ⟨wm.heap.size, 0, none⟩ = some (.int .i64 x.x) ∧ wx.cell? ⟨wm.heap.size, 1, none⟩ = some (.int .i64 x.y) ∧ wx.cell? ⟨wr.heap.size, 0, none⟩ = some (.int .i64 y.x) ∧ wx.cell? ⟨wr.heap.size, 1, none⟩ = some (.int .i64 y.y) ∧ (∃ z, wx.cell? ⟨w.heap.size + 1, 1, none⟩ = some (.int .i64 z)) ∧ wx.frozen? ⟨w.heap.size + 1, 1, none⟩ = false) (by kernel_rfl) HS.out (fun _ => ?_)
              refine hTake (i := 0) (d := 29) (v := .int .i64 1) rfl rfl (by kernel_rfl) (by kernel_rfl) (by kernel_rfl) (fun _ _ _ h => h) (Or.inl ⟨rfl, ?gr⟩) HS.out ?_
              case gr =>
                rintro W' ⟨s0, s1, s2, s3, s4, ⟨z, s5⟩, s6⟩
                go_simp
              simp only [Act.put, List.setIfInBounds_toArray, List.set_cons_zero, List.set_cons_succ]
              refine hTake (i := 1) (d := 30) (v := .int .i64 1) rfl rfl (by kernel_rfl) (by kernel_rfl) (by kernel_rfl) (fun _ _ _ h => h) (Or.inl ⟨rfl, ?gr⟩) HS.out ?_
              case gr =>
                rintro W' ⟨s0, s1, s2, s3, s4, ⟨z, s5⟩, s6⟩
                go_simp
              simp only [Act.put, List.setIfInBounds_toArray, List.set_cons_zero, List.set_cons_succ]
              refine hTake (i := 2) (d := 31) (v := .pointer (some ⟨w.heap.size + 1, 1, none⟩)) rfl rfl (by kernel_rfl) (by kernel_rfl) (by kernel_rfl) (fun _ _ _ h => h) (Or.inl ⟨rfl, ?gr⟩) HS.out ?_
              case gr =>
                rintro W' ⟨s0, s1, s2, s3, s4, ⟨z, s5⟩, s6⟩
                go_simp
              simp only [Act.put, List.setIfInBounds_toArray, List.set_cons_zero, List.set_cons_succ]
              refine hTake (i := 4) (d := 33) (v := .pointer (some ⟨wo.heap.size, 0, none⟩)) rfl rfl (by kernel_rfl) (by kernel_rfl) (by kernel_rfl) (fun _ _ _ h => h) (Or.inl ⟨rfl, ?gr⟩) HS.out ?_
              case gr =>
                rintro W' ⟨s0, s1, s2, s3, s4, ⟨z, s5⟩, s6⟩
                go_simp
              simp only [Act.put, List.setIfInBounds_toArray, List.set_cons_zero, List.set_cons_succ]
              refine hTake (i := 5) (d := 34) (v := .func (.func 117) #[] #[]) rfl rfl (by kernel_rfl) (by kernel_rfl) (by kernel_rfl) (fun _ _ _ h => h) (Or.inl ⟨rfl, ?gr⟩) HS.out ?_
              case gr =>
                rintro W' ⟨s0, s1, s2, s3, s4, ⟨z, s5⟩, s6⟩
                go_simp
              simp only [Act.put, List.setIfInBounds_toArray, List.set_cons_zero, List.set_cons_succ]
              refine hTake (i := 6) (d := 35) (v := .agg #[.int .i64 x.x, .int .i64 x.y]) rfl rfl (by kernel_rfl) (by kernel_rfl) (by kernel_rfl) (fun _ _ _ h => h) (Or.inl ⟨rfl, ?gr⟩) HS.out ?_
              case gr =>
                rintro W' ⟨s0, s1, s2, s3, s4, ⟨z, s5⟩, s6⟩
                go_simp
              simp only [Act.put, List.setIfInBounds_toArray, List.set_cons_zero, List.set_cons_succ]
              refine hTake (i := 7) (d := 36) (v := .agg #[.int .i64 y.x, .int .i64 y.y]) rfl rfl (by kernel_rfl) (by kernel_rfl) (by kernel_rfl) (fun _ _ _ h => h) (Or.inl ⟨rfl, ?gr⟩) HS.out ?_
              case gr =>
                rintro W' ⟨s0, s1, s2, s3, s4, ⟨z, s5⟩, s6⟩
                go_simp
              simp only [Act.put, List.setIfInBounds_toArray, List.set_cons_zero, List.set_cons_succ]
              refine wpAnyH_ready (rs := [3, 8]) (by kernel_rfl) (by simp) ?_
              refine AllReadyH.cons rfl (fun K hK => ?_) (AllReadyH.cons rfl (fun K hK => ?_) AllReadyH.nil)
              · rw [if_pos (by rfl)]
                have c9 := HCV.out _ hbq
                go_simp
                refine hK.out _ _ HS.out (fun _ => ?_)
                clear c9
                clear hK K
                try simp only [Act.put, List.setIfInBounds_toArray, List.set_cons_zero, List.set_cons_succ]
                refine wpAnyH_ready (rs := [8]) (by kernel_rfl) (by simp) ?_
                refine AllReadyH.cons rfl (fun K hK => ?_) AllReadyH.nil
                rw [if_pos (by rfl)]
                go_simp
                (with_reducible refine (HRC.out _).mono ?_)
                rintro e wc ⟨rfl, hbc⟩
                replace hbq := hbq.trans (hbc.mono hbq.size)
                have HS := Lib.hid (HCELL.out _ hbq)
                clear hbc
                refine hK.out _ _ HS.out (fun _ => ?_)
                clear hK K
                try simp only [Act.put, List.setIfInBounds_toArray, List.set_cons_zero, List.set_cons_succ]
                refine hTake (i := 9) (d := 38) (v := .int .i64 (max v r)) rfl rfl (by kernel_rfl) (by kernel_rfl) (by kernel_rfl) (fun _ _ _ h => h) (Or.inl ⟨rfl, ?gr⟩) HS.out ?_
                case gr =>
                  rintro W' ⟨s0, s1, s2, s3, s4, ⟨z, s5⟩, s6⟩
                  go_simp
                simp only [Act.put, List.setIfInBounds_toArray, List.set_cons_zero, List.set_cons_succ]
                refine hTake (i := 10) (d := 39) (v := .pointer (some ⟨w.heap.size + 1, 1, none⟩)) rfl rfl (by kernel_rfl) (by kernel_rfl) (by kernel_rfl) (fun _ _ _ h => h) (Or.inl ⟨rfl, ?gr⟩) HS.out ?_
                case gr =>
                  rintro W' ⟨s0, s1, s2, s3, s4, ⟨z, s5⟩, s6⟩
                  go_simp
                simp only [Act.put, List.setIfInBounds_toArray, List.set_cons_zero, List.set_cons_succ]
                refine wpAnyH_ready (rs := [11]) (by kernel_rfl) (by simp) ?_
                refine AllReadyH.cons rfl (fun K hK => ?_) AllReadyH.nil
                rw [if_pos (by rfl)]
                obtain ⟨s0, s1, s2, s3, s4, ⟨z, s5⟩, s6⟩ := HS.out
                have hzm := HZM.out
                go_simp
                have HS2 := Lib.hid (show (fun wx : World => wx.cell? ⟨wo.heap.size, 0, none⟩ = some (.func (.func 117) #[] #[]) ∧ wx.cell? ⟨wm.heap.size, 0, none⟩ = some (.int .i64 x.x) ∧ wx.cell? ⟨wm.heap.size, 1, none⟩ = some (.int .i64 x.y) ∧ wx.cell? ⟨wr.heap.size, 0, none⟩ = some (.int .i64 y.x) ∧ wx.cell? ⟨wr.heap.size, 1, none⟩ = some (.int .i64 y.y) ∧ (∃ z, wx.cell? ⟨w.heap.size + 1, 1, none⟩ = some (.int .i64 z)) ∧ wx.frozen? ⟨w.heap.size + 1, 1, none⟩ = false) (World.setCell _ ⟨w.heap.size + 1, 1, none⟩ (.int .i64 (max v r))) from ⟨by rw [World.cell?_setCell_other (h := by simp <;> omega)]; exact s0, by rw [World.cell?_setCell_other (h := by simp <;> omega)]; exact s1, by rw [World.cell?_setCell_other (h := by simp <;> omega)]; exact s2, by rw [World.cell?_setCell_other (h := by simp <;> omega)]; exact s3, by rw [World.cell?_setCell_other (h := by simp <;> omega)]; exact s4, ⟨_, World.cell?_setCell_same _ _ _ s5⟩, by rw [World.frozen?_setCell]; exact s6⟩)
                refine hK.out _ _ HS2.out (fun _ => ?_)
                clear s0 s1 s2 s3 s4 s5 s6 HS2 hzm
                clear hK K
                try simp only [Act.put, List.setIfInBounds_toArray, List.set_cons_zero, List.set_cons_succ]
                refine wpAnyH_done (by kernel_rfl) ?_ _
                have HBQ := Lib.hid (HBE.out.trans (hbq.mono HBE.out.size))
                clear hbq
                go_wp2
                go_roundw
                case rel =>
                  have hz1 := HZ.out; have hzm := HZM.out
                  refine ⟨(HWF.out.below hz1 HBQ.out).set hz1 _ _, j + 1, max v r, by omega, by go_num, ⟨by omega, by omega⟩, HWB1.out.more (by omega), WB.right hjl (HWB2.out.more (by omega)) (by rw [HYL.out, HRV.out]; omega), (H3.out.below HBQ.out (by omega)).set1 _, ?_, ?_, ?_, ?_⟩
                  · rw [World.cell?_setCell_other (h := by simp <;> omega)]; exact (HBQ.out.cell (p := ⟨wo.heap.size, 0, none⟩) (by simp; omega)).trans HC8.out
                  · rw [World.cell?_setCell_other (h := by simp <;> omega)]; exact (HBQ.out.cell (p := ⟨wm.heap.size, 0, none⟩) (by simp; omega)).trans HX0.out
                  · rw [World.cell?_setCell_other (h := by simp <;> omega)]; exact (HBQ.out.cell (p := ⟨wm.heap.size, 1, none⟩) (by simp; omega)).trans HX1.out
                  · rw [World.size_setCell]
                    have h9 := HBQ.out.size
                    omega
                case measure => simp [intOf] <;> omega
              · rw [if_pos (by rfl)]
                go_simp
                (with_reducible refine (HRC.out _).mono ?_)
                rintro e wc ⟨rfl, hbc⟩
                replace hbq := hbq.trans (hbc.mono hbq.size)
                have HS := Lib.hid (HCELL.out _ hbq)
                clear hbc
                refine hK.out _ _ HS.out (fun _ => ?_)
                clear hK K
                try simp only [Act.put, List.setIfInBounds_toArray, List.set_cons_zero, List.set_cons_succ]
                refine wpAnyH_ready (rs := [3]) (by kernel_rfl) (by simp) ?_
                refine AllReadyH.cons rfl (fun K hK => ?_) AllReadyH.nil
                rw [if_pos (by rfl)]
                have c9 := HCV.out _ hbq
                go_simp
                refine hK.out _ _ HS.out (fun _ => ?_)
                clear c9
                clear hK K
                try simp only [Act.put, List.setIfInBounds_toArray, List.set_cons_zero, List.set_cons_succ]
                refine hTake (i := 9) (d := 38) (v := .int .i64 (max v r)) rfl rfl (by kernel_rfl) (by kernel_rfl) (by kernel_rfl) (fun _ _ _ h => h) (Or.inl ⟨rfl, ?gr⟩) HS.out ?_
                case gr =>
                  rintro W' ⟨s0, s1, s2, s3, s4, ⟨z, s5⟩, s6⟩
                  go_simp
                simp only [Act.put, List.setIfInBounds_toArray, List.set_cons_zero, List.set_cons_succ]
                refine hTake (i := 10) (d := 39) (v := .pointer (some ⟨w.heap.size + 1, 1, none⟩)) rfl rfl (by kernel_rfl) (by kernel_rfl) (by kernel_rfl) (fun _ _ _ h => h) (Or.inl ⟨rfl, ?gr⟩) HS.out ?_
                case gr =>
                  rintro W' ⟨s0, s1, s2, s3, s4, ⟨z, s5⟩, s6⟩
                  go_simp
                simp only [Act.put, List.setIfInBounds_toArray, List.set_cons_zero, List.set_cons_succ]
                refine wpAnyH_ready (rs := [11]) (by kernel_rfl) (by simp) ?_
                refine AllReadyH.cons rfl (fun K hK => ?_) AllReadyH.nil
                rw [if_pos (by rfl)]
                obtain ⟨s0, s1, s2, s3, s4, ⟨z, s5⟩, s6⟩ := HS.out
                have hzm := HZM.out
                go_simp
                have HS2 := Lib.hid (show (fun wx : World => wx.cell? ⟨wo.heap.size, 0, none⟩ = some (.func (.func 117) #[] #[]) ∧ wx.cell? ⟨wm.heap.size, 0, none⟩ = some (.int .i64 x.x) ∧ wx.cell? ⟨wm.heap.size, 1, none⟩ = some (.int .i64 x.y) ∧ wx.cell? ⟨wr.heap.size, 0, none⟩ = some (.int .i64 y.x) ∧ wx.cell? ⟨wr.heap.size, 1, none⟩ = some (.int .i64 y.y) ∧ (∃ z, wx.cell? ⟨w.heap.size + 1, 1, none⟩ = some (.int .i64 z)) ∧ wx.frozen? ⟨w.heap.size + 1, 1, none⟩ = false) (World.setCell _ ⟨w.heap.size + 1, 1, none⟩ (.int .i64 (max v r))) from ⟨by rw [World.cell?_setCell_other (h := by simp <;> omega)]; exact s0, by rw [World.cell?_setCell_other (h := by simp <;> omega)]; exact s1, by rw [World.cell?_setCell_other (h := by simp <;> omega)]; exact s2, by rw [World.cell?_setCell_other (h := by simp <;> omega)]; exact s3, by rw [World.cell?_setCell_other (h := by simp <;> omega)]; exact s4, ⟨_, World.cell?_setCell_same _ _ _ s5⟩, by rw [World.frozen?_setCell]; exact s6⟩)
                refine hK.out _ _ HS2.out (fun _ => ?_)
                clear s0 s1 s2 s3 s4 s5 s6 HS2 hzm
                clear hK K
                try simp only [Act.put, List.setIfInBounds_toArray, List.set_cons_zero, List.set_cons_succ]
                refine wpAnyH_done (by kernel_rfl) ?_ _
                have HBQ := Lib.hid (HBE.out.trans (hbq.mono HBE.out.size))
                clear hbq
                go_wp2
                go_roundw
                case rel =>
                  have hz1 := HZ.out; have hzm := HZM.out
                  refine ⟨(HWF.out.below hz1 HBQ.out).set hz1 _ _, j + 1, max v r, by omega, by go_num, ⟨by omega, by omega⟩, HWB1.out.more (by omega), WB.right hjl (HWB2.out.more (by omega)) (by rw [HYL.out, HRV.out]; omega), (H3.out.below HBQ.out (by omega)).set1 _, ?_, ?_, ?_, ?_⟩
                  · rw [World.cell?_setCell_other (h := by simp <;> omega)]; exact (HBQ.out.cell (p := ⟨wo.heap.size, 0, none⟩) (by simp; omega)).trans HC8.out
                  · rw [World.cell?_setCell_other (h := by simp <;> omega)]; exact (HBQ.out.cell (p := ⟨wm.heap.size, 0, none⟩) (by simp; omega)).trans HX0.out
                  · rw [World.cell?_setCell_other (h := by simp <;> omega)]; exact (HBQ.out.cell (p := ⟨wm.heap.size, 1, none⟩) (by simp; omega)).trans HX1.out
                  · rw [World.size_setCell]
                    have h9 := HBQ.out.size
                    omega
                case measure => simp [intOf] <;> omega
            · have hjl : l.length ≤ j := by rw [HN.out]; omega
              clear hwf h3 h8 hx0 hx1 hwb1 hwb2
              go_wp2
              go_roundw
              case rel =>
                refine ⟨HWF.out, i + 1, v, by omega, by go_num, ⟨hv0, hv1⟩, WB.left hil HWB1.out (by rw [HXL.out]; have h9 := HWB2.out; rwa [List.take_of_length_le hjl] at h9), H3.out, HC8.out, by omega⟩
              case measure => simp [intOf] <;> omega
        · have hil : l.length ≤ i := by rw [HN.out]; omega
          have HG := Lib.hid (show GW rch1 l v from ⟨hv, by rwa [List.take_of_length_le hil] at hwb⟩)
          have HWF := Lib.hid hwf; have H3 := Lib.hid h3
          clear hwf h3 h8 hwb hv
          go_wp2
          go_roundw
          case rel => exact ⟨HWF.out, .inr (.inr (.inl ⟨rfl, u0, v, HG0.out, HG.out, H3.out⟩))⟩
          case measure => simp [intOf] <;> omega
    · obtain ⟨wo, hwo⟩ : ∃ z, z = wr := ⟨_, rfl⟩
      subst hwo
      have HWF := Lib.hid hwf; have H3 := Lib.hid h3
      have HG0 := Lib.hid hg0
      have HG1 := Lib.hid hg1
      clear hg0 hg1
      obtain ⟨c0, c1, c2, c3, c4, c5, c6, c7⟩ := hwf.ts
      have hbe := (Below.refl wo.heap.size wo).alloc (Nat.le_refl _) (.cells #[.func (.func 119) #[] #[], .func (.func 120) #[] #[]] 158)
      have k0 := cell_new1 wo #[.func (.func 119) #[] #[], .func (.func 120) #[] #[]] 158 0
      have hzz : (wo.alloc (.cells #[.func (.func 119) #[] #[], .func (.func 120) #[] #[]] 158)).heap.size = wo.heap.size + 1 := by simp
      obtain ⟨W3, hW3⟩ : ∃ z, wo.alloc (.cells #[.func (.func 119) #[] #[], .func (.func 120) #[] #[]] 158) = z := ⟨_, rfl⟩
      rw [hW3] at hbe k0 hzz
      have hzo : w.heap.size + 3 ≤ wo.heap.size := by have h1 := hwf.hsz; rw [HZ.out] at h1; exact h1
      have HF3 := Lib.hid (hwf.below HZ.out hbe)
      have HR3 := Lib.hid (h3.below hbe (by omega))
      have HC8 := Lib.hid (show W3.cell? ⟨wo.heap.size, 0, none⟩ = some (.func (.func 119) #[] #[]) from k0)
      have HZ3 := Lib.hid hzz
      clear hwf h3 hbe k0 hzz
      go_wp2
      clear hW3 c0 c1 c2 c3 c4 c5 c6 c7 HWF H3
      go_loopw [19] (fun s19 wr => WF w W1 wr ∧ ∃ (i : Nat) (v : Int), i ≤ n ∧ s19 = .int .i64 (i : Int) ∧ (0 ≤ v ∧ v ≤ 100000) ∧ WB rch2 (l.take i) l v ∧ Ro wr (w.heap.size + 1) 160 u0 u1 v 0 ∧ wr.cell? ⟨wo.heap.size, 0, none⟩ = some (.func (.func 119) #[] #[]) ∧ wo.heap.size + 1 ≤ wr.heap.size) (fun s19 _ => n - (intOf s19).toNat)
      case atStart => exact ⟨HF3.out, 0, 0, Nat.zero_le _, rfl, ⟨by omega, by omega⟩, WB.nil _ _ _, HR3.out, HC8.out, by rw [HZ3.out]; exact Nat.le_refl _⟩
      case round =>
        obtain ⟨hwf, i, v, hi, rfl, hv, hwb, h3, h8, hom⟩ := hrel
        obtain ⟨wm, hwm⟩ : ∃ z, z = wr := ⟨_, rfl⟩
        subst hwm
        clear HF3 HR3 HC8 HZ3
        by_cases hin : i < n
        · have hil : i < l.length := by rw [HN.out]; exact hin
          obtain ⟨x, hx⟩ : ∃ z, l[i] = z := ⟨_, rfl⟩
          have HXL := Lib.hid hx
          have HPX := Lib.hid (HPR.out x (by rw [← hx]; exact List.getElem_mem hil))
          obtain ⟨bp, op, eA, p0, p1⟩ := HSL.out wm hwf.hb i x (by rw [← hx]; exact List.getElem?_eq_getElem hil)
          subst eA
          have hbe := (Below.refl wm.heap.size wm).alloc (Nat.le_refl _) (.cells #[.int .i64 x.x, .int .i64 x.y] 46)
          have k0 := cell_new1 wm #[.int .i64 x.x, .int .i64 x.y] 46 0
          have k1 := cell_new1 wm #[.int .i64 x.x, .int .i64 x.y] 46 1
          have hzz : (wm.alloc (.cells #[.int .i64 x.x, .int .i64 x.y] 46)).heap.size = wm.heap.size + 1 := by simp
          obtain ⟨W4, hW4⟩ : ∃ z, wm.alloc (.cells #[.int .i64 x.x, .int .i64 x.y] 46) = z := ⟨_, rfl⟩
          rw [hW4] at hbe k0 k1 hzz
          have HF4 := Lib.hid (hwf.below HZ.out hbe)
          have HR4' := Lib.hid (h3.below hbe (by omega))
          have HC8' := Lib.hid ((hbe.cell (p := ⟨wo.heap.size, 0, none⟩) (by simp; omega)).trans h8)
          have HX0' := Lib.hid (show W4.cell? ⟨wm.heap.size, 0, none⟩ = some (.int .i64 x.x) from k0)
          have HX1' := Lib.hid (show W4.cell? ⟨wm.heap.size, 1, none⟩ = some (.int .i64 x.y) from k1)
          have HZ4 := Lib.hid hzz
          have HWB := Lib.hid hwb; have HV := Lib.hid hv
          have i0 : (0 : Int) ≤ (i : Int) := by omega
          have i1 : (i : Int) < (n : Int) := by omega
          clear hx hbe k0 k1 hzz hwf h3 h8 hwb hv
          go_wp2
          clear hW4 p0 p1
          go_loopw [25] (fun s25 wr => WF w W1 wr ∧ ∃ (j : Nat) (v : Int), j ≤ n ∧ s25 = .int .i64 (j : Int) ∧ (0 ≤ v ∧ v ≤ 100000) ∧ WB rch2 (l.take i) l v ∧ WB rch2 [x] (l.take j) v ∧ Ro wr (w.heap.size + 1) 160 u0 u1 v 0 ∧ wr.cell? ⟨wo.heap.size, 0, none⟩ = some (.func (.func 119) #[] #[]) ∧ wr.cell? ⟨wm.heap.size, 0, none⟩ = some (.int .i64 x.x) ∧ wr.cell? ⟨wm.heap.size, 1, none⟩ = some (.int .i64 x.y) ∧ wm.heap.size + 1 ≤ wr.heap.size) (fun s25 _ => n - (intOf s25).toNat)
          case atStart => exact ⟨HF4.out, 0, v, Nat.zero_le _, rfl, HV.out, HWB.out, WB.nil2 _ _ _, HR4'.out, HC8'.out, HX0'.out, HX1'.out, by rw [HZ4.out]; exact Nat.le_refl _⟩
          case round =>
            clear HF4 HR4' HC8' HX0' HX1' HZ4 HWB HV
            obtain ⟨hwf, j, v, hj, rfl, hv, hwb1, hwb2, h3, h8, hx0, hx1, hmr⟩ := hrel
            have HWF := Lib.hid hwf; have HWB1 := Lib.hid hwb1; have HWB2 := Lib.hid hwb2; have H3 := Lib.hid h3; have HC8 := Lib.hid h8; have HX0 := Lib.hid hx0; have HX1 := Lib.hid hx1
            obtain ⟨hv0, hv1⟩ := hv
            by_cases hjn : j < n
            · have hjl : j < l.length := by rw [HN.out]; exact hjn
              obtain ⟨y, hy⟩ : ∃ z, l[j] = z := ⟨_, rfl⟩
              have HYL := Lib.hid hy
              have HPY := Lib.hid (HPR.out y (by rw [← hy]; exact List.getElem_mem hjl))
              obtain ⟨b2, o2, eA, p0, p1⟩ := HSL.out wr hwf.hb j y (by rw [← hy]; exact List.getElem?_eq_getElem hjl)
              cases eA
              obtain ⟨hrc, hr0, hr1⟩ := HRH2.out x y HPX.out HPY.out
              obtain ⟨r, hr⟩ : ∃ z, rch2 x y = z := ⟨_, rfl⟩
              rw [hr] at hrc hr0 hr1
              have HRC := Lib.hid hrc; have HRV := Lib.hid hr
              have hbe := (Below.refl wr.heap.size wr).alloc (Nat.le_refl _) (.cells #[.int .i64 y.x, .int .i64 y.y] 46)
              have k0 := cell_new1 wr #[.int .i64 y.x, .int .i64 y.y] 46 0
              have k1 := cell_new1 wr #[.int .i64 y.x, .int .i64 y.y] 46 1
              have hzz : (wr.alloc (.cells #[.int .i64 y.x, .int .i64 y.y] 46)).heap.size = wr.heap.size + 1 := by simp
              obtain ⟨W5, hW5⟩ : ∃ z, wr.alloc (.cells #[.int .i64 y.x, .int .i64 y.y] 46) = z := ⟨_, rfl⟩
              rw [hW5] at hbe k0 k1 hzz
              have HBE := Lib.hid hbe
              have HZM := Lib.hid (show wo.heap.size + 1 ≤ wm.heap.size ∧ wm.heap.size + 1 ≤ wr.heap.size ∧ w.heap.size + 3 ≤ wo.heap.size from ⟨hom, hmr, hzo⟩)
              have HCV := Lib.hid (show ∀ wx, Below W5.heap.size W5 wx → wx.cell? ⟨w.heap.size + 1, 2, none⟩ = some (.int .i64 v) from fun wx h => (h3.below (hbe.trans (h.mono hbe.size)) (by omega)).cell 2)
              have HCELL := Lib.hid (show ∀ wx, Below W5.heap.size W5 wx → wx.cell? ⟨wo.heap.size, 0, none⟩ = some (.func (.func 119) #[] #[]) ∧ wx.cell? ⟨wm.heap.size, 0, none⟩ = some (.int .i64 x.x) ∧ wx.cell? ⟨wm.heap.size, 1, none⟩ = some (.int .i64 x.y) ∧ wx.cell? ⟨wr.heap.size, 0, none⟩ = some (.int .i64 y.x) ∧ wx.cell? ⟨wr.heap.size, 1, none⟩ = some (.int .i64 y.y) ∧ (∃ z, wx.cell? ⟨w.heap.size + 1, 2, none⟩ = some (.int .i64 z)) ∧ wx.frozen? ⟨w.heap.size + 1, 2, none⟩ = false from fun wx h => by
                have h1 := hbe.trans (h.mono hbe.size)
                exact ⟨(h1.cell (p := ⟨wo.heap.size, 0, none⟩) (by simp; omega)).trans h8, (h1.cell (p := ⟨wm.heap.size, 0, none⟩) (by simp; omega)).trans hx0, (h1.cell (p := ⟨wm.heap.size, 1, none⟩) (by simp; omega)).trans hx1, (h.cell (p := ⟨wr.heap.size, 0, none⟩) (by simp; omega)).trans k0, (h.cell (p := ⟨wr.heap.size, 1, none⟩) (by simp; omega)).trans k1, ⟨_, (h3.below h1 (by omega)).cell 2⟩, (h3.below h1 (by omega)).frozen 2⟩)
              have j0 : (0 : Int) ≤ (j : Int) := by omega
              have j1 : (j : Int) < (n : Int) := by omega
              clear hy hr hrc hbe k0 k1 hzz hwf h3 h8 hx0 hx1 hwb1 hwb2
              go_wp2_with fail
              go_upto_region 11 with (fail)
              clear hW5 p0 p1
              have hbq : Below W5.heap.size W5 W5.drew := (Below.refl _ _).drew
              have HS := Lib.hid (HCELL.out _ hbq)
              refine wp_region_held_drew (S := fun wx => wx.cell? ⟨wo.heap.size, 0, none⟩ = some (.func (.func 119) #[] #[]) ∧ wx.cell? ⟨wm.heap.size, 0, none⟩ = some (.int .i64 x.x) ∧ wx.cell? ⟨wm.heap.size, 1, none⟩ = some (.int .i64 x.y) ∧ wx.cell? ⟨wr.heap.size, 0, none⟩ = some (.int .i64 y.x) ∧ wx.cell? ⟨wr.heap.size, 1, none⟩ = some (.int .i64 y.y) ∧ (∃ z, wx.cell? ⟨w.heap.size + 1, 2, none⟩ = some (.int .i64 z)) ∧ wx.frozen? ⟨w.heap.size + 1, 2, none⟩ = false) (by kernel_rfl) HS.out (fun _ => ?_)
              refine hTake (i := 0) (d := 29) (v := .int .i64 2) rfl rfl (by kernel_rfl) (by kernel_rfl) (by kernel_rfl) (fun _ _ _ h => h) (Or.inl ⟨rfl, ?gr⟩) HS.out ?_
              case gr =>
                rintro W' ⟨s0, s1, s2, s3, s4, ⟨z, s5⟩, s6⟩
                go_simp
              simp only [Act.put, List.setIfInBounds_toArray, List.set_cons_zero, List.set_cons_succ]
              refine hTake (i := 1) (d := 30) (v := .int .i64 2) rfl rfl (by kernel_rfl) (by kernel_rfl) (by kernel_rfl) (fun _ _ _ h => h) (Or.inl ⟨rfl, ?gr⟩) HS.out ?_
              case gr =>
                rintro W' ⟨s0, s1, s2, s3, s4, ⟨z, s5⟩, s6⟩
                go_simp
              simp only [Act.put, List.setIfInBounds_toArray, List.set_cons_zero, List.set_cons_succ]
              refine hTake (i := 2) (d := 31) (v := .pointer (some ⟨w.heap.size + 1, 2, none⟩)) rfl rfl (by kernel_rfl) (by kernel_rfl) (by kernel_rfl) (fun _ _ _ h => h) (Or.inl ⟨rfl, ?gr⟩) HS.out ?_
              case gr =>
                rintro W' ⟨s0, s1, s2, s3, s4, ⟨z, s5⟩, s6⟩
                go_simp
              simp only [Act.put, List.setIfInBounds_toArray, List.set_cons_zero, List.set_cons_succ]
              refine hTake (i := 4) (d := 33) (v := .pointer (some ⟨wo.heap.size, 0, none⟩)) rfl rfl (by kernel_rfl) (by kernel_rfl) (by kernel_rfl) (fun _ _ _ h => h) (Or.inl ⟨rfl, ?gr⟩) HS.out ?_
              case gr =>
                rintro W' ⟨s0, s1, s2, s3, s4, ⟨z, s5⟩, s6⟩
                go_simp
              simp only [Act.put, List.setIfInBounds_toArray, List.set_cons_zero, List.set_cons_succ]
              refine hTake (i := 5) (d := 34) (v := .func (.func 119) #[] #[]) rfl rfl (by kernel_rfl) (by kernel_rfl) (by kernel_rfl) (fun _ _ _ h => h) (Or.inl ⟨rfl, ?gr⟩) HS.out ?_
              case gr =>
                rintro W' ⟨s0, s1, s2, s3, s4, ⟨z, s5⟩, s6⟩
                go_simp
              simp only [Act.put, List.setIfInBounds_toArray, List.set_cons_zero, List.set_cons_succ]
              refine hTake (i := 6) (d := 35) (v := .agg #[.int .i64 x.x, .int .i64 x.y]) rfl rfl (by kernel_rfl) (by kernel_rfl) (by kernel_rfl) (fun _ _ _ h => h) (Or.inl ⟨rfl, ?gr⟩) HS.out ?_
              case gr =>
                rintro W' ⟨s0, s1, s2, s3, s4, ⟨z, s5⟩, s6⟩
                go_simp
              simp only [Act.put, List.setIfInBounds_toArray, List.set_cons_zero, List.set_cons_succ]
              refine hTake (i := 7) (d := 36) (v := .agg #[.int .i64 y.x, .int .i64 y.y]) rfl rfl (by kernel_rfl) (by kernel_rfl) (by kernel_rfl) (fun _ _ _ h => h) (Or.inl ⟨rfl, ?gr⟩) HS.out ?_
              case gr =>
                rintro W' ⟨s0, s1, s2, s3, s4, ⟨z, s5⟩, s6⟩
                go_simp
              simp only [Act.put, List.setIfInBounds_toArray, List.set_cons_zero, List.set_cons_succ]
              refine wpAnyH_ready (rs := [3, 8]) (by kernel_rfl) (by simp) ?_
              refine AllReadyH.cons rfl (fun K hK => ?_) (AllReadyH.cons rfl (fun K hK => ?_) AllReadyH.nil)
              · rw [if_pos (by rfl)]
                have c9 := HCV.out _ hbq
                go_simp
                refine hK.out _ _ HS.out (fun _ => ?_)
                clear c9
                clear hK K
                try simp only [Act.put, List.setIfInBounds_toArray, List.set_cons_zero, List.set_cons_succ]
                refine wpAnyH_ready (rs := [8]) (by kernel_rfl) (by simp) ?_
                refine AllReadyH.cons rfl (fun K hK => ?_) AllReadyH.nil
                rw [if_pos (by rfl)]
                go_simp
                (with_reducible refine (HRC.out _).mono ?_)
                rintro e wc ⟨rfl, hbc⟩
                replace hbq := hbq.trans (hbc.mono hbq.size)
                have HS := Lib.hid (HCELL.out _ hbq)
                clear hbc
                refine hK.out _ _ HS.out (fun _ => ?_)
                clear hK K
                try simp only [Act.put, List.setIfInBounds_toArray, List.set_cons_zero, List.set_cons_succ]
                refine hTake (i := 9) (d := 38) (v := .int .i64 (max v r)) rfl rfl (by kernel_rfl) (by kernel_rfl) (by kernel_rfl) (fun _ _ _ h => h) (Or.inl ⟨rfl, ?gr⟩) HS.out ?_
                case gr =>
                  rintro W' ⟨s0, s1, s2, s3, s4, ⟨z, s5⟩, s6⟩
                  go_simp
                simp only [Act.put, List.setIfInBounds_toArray, List.set_cons_zero, List.set_cons_succ]
                refine hTake (i := 10) (d := 39) (v := .pointer (some ⟨w.heap.size + 1, 2, none⟩)) rfl rfl (by kernel_rfl) (by kernel_rfl) (by kernel_rfl) (fun _ _ _ h => h) (Or.inl ⟨rfl, ?gr⟩) HS.out ?_
                case gr =>
                  rintro W' ⟨s0, s1, s2, s3, s4, ⟨z, s5⟩, s6⟩
                  go_simp
                simp only [Act.put, List.setIfInBounds_toArray, List.set_cons_zero, List.set_cons_succ]
                refine wpAnyH_ready (rs := [11]) (by kernel_rfl) (by simp) ?_
                refine AllReadyH.cons rfl (fun K hK => ?_) AllReadyH.nil
                rw [if_pos (by rfl)]
                obtain ⟨s0, s1, s2, s3, s4, ⟨z, s5⟩, s6⟩ := HS.out
                have hzm := HZM.out
                go_simp
                have HS2 := Lib.hid (show (fun wx : World => wx.cell? ⟨wo.heap.size, 0, none⟩ = some (.func (.func 119) #[] #[]) ∧ wx.cell? ⟨wm.heap.size, 0, none⟩ = some (.int .i64 x.x) ∧ wx.cell? ⟨wm.heap.size, 1, none⟩ = some (.int .i64 x.y) ∧ wx.cell? ⟨wr.heap.size, 0, none⟩ = some (.int .i64 y.x) ∧ wx.cell? ⟨wr.heap.size, 1, none⟩ = some (.int .i64 y.y) ∧ (∃ z, wx.cell? ⟨w.heap.size + 1, 2, none⟩ = some (.int .i64 z)) ∧ wx.frozen? ⟨w.heap.size + 1, 2, none⟩ = false) (World.setCell _ ⟨w.heap.size + 1, 2, none⟩ (.int .i64 (max v r))) from ⟨by rw [World.cell?_setCell_other (h := by simp <;> omega)]; exact s0, by rw [World.cell?_setCell_other (h := by simp <;> omega)]; exact s1, by rw [World.cell?_setCell_other (h := by simp <;> omega)]; exact s2, by rw [World.cell?_setCell_other (h := by simp <;> omega)]; exact s3, by rw [World.cell?_setCell_other (h := by simp <;> omega)]; exact s4, ⟨_, World.cell?_setCell_same _ _ _ s5⟩, by rw [World.frozen?_setCell]; exact s6⟩)
                refine hK.out _ _ HS2.out (fun _ => ?_)
                clear s0 s1 s2 s3 s4 s5 s6 HS2 hzm
                clear hK K
                try simp only [Act.put, List.setIfInBounds_toArray, List.set_cons_zero, List.set_cons_succ]
                refine wpAnyH_done (by kernel_rfl) ?_ _
                have HBQ := Lib.hid (HBE.out.trans (hbq.mono HBE.out.size))
                clear hbq
                go_wp2
                go_roundw
                case rel =>
                  have hz1 := HZ.out; have hzm := HZM.out
                  refine ⟨(HWF.out.below hz1 HBQ.out).set hz1 _ _, j + 1, max v r, by omega, by go_num, ⟨by omega, by omega⟩, HWB1.out.more (by omega), WB.right hjl (HWB2.out.more (by omega)) (by rw [HYL.out, HRV.out]; omega), (H3.out.below HBQ.out (by omega)).set2 _, ?_, ?_, ?_, ?_⟩
                  · rw [World.cell?_setCell_other (h := by simp <;> omega)]; exact (HBQ.out.cell (p := ⟨wo.heap.size, 0, none⟩) (by simp; omega)).trans HC8.out
                  · rw [World.cell?_setCell_other (h := by simp <;> omega)]; exact (HBQ.out.cell (p := ⟨wm.heap.size, 0, none⟩) (by simp; omega)).trans HX0.out
                  · rw [World.cell?_setCell_other (h := by simp <;> omega)]; exact (HBQ.out.cell (p := ⟨wm.heap.size, 1, none⟩) (by simp; omega)).trans HX1.out
                  · rw [World.size_setCell]
                    have h9 := HBQ.out.size
                    omega
                case measure => simp [intOf] <;> omega
              · rw [if_pos (by rfl)]
                go_simp
                (with_reducible refine (HRC.out _).mono ?_)
                rintro e wc ⟨rfl, hbc⟩
                replace hbq := hbq.trans (hbc.mono hbq.size)
                have HS := Lib.hid (HCELL.out _ hbq)
                clear hbc
                refine hK.out _ _ HS.out (fun _ => ?_)
                clear hK K
                try simp only [Act.put, List.setIfInBounds_toArray, List.set_cons_zero, List.set_cons_succ]
                refine wpAnyH_ready (rs := [3]) (by kernel_rfl) (by simp) ?_
                refine AllReadyH.cons rfl (fun K hK => ?_) AllReadyH.nil
                rw [if_pos (by rfl)]
                have c9 := HCV.out _ hbq
                go_simp
                refine hK.out _ _ HS.out (fun _ => ?_)
                clear c9
                clear hK K
                try simp only [Act.put, List.setIfInBounds_toArray, List.set_cons_zero, List.set_cons_succ]
                refine hTake (i := 9) (d := 38) (v := .int .i64 (max v r)) rfl rfl (by kernel_rfl) (by kernel_rfl) (by kernel_rfl) (fun _ _ _ h => h) (Or.inl ⟨rfl, ?gr⟩) HS.out ?_
                case gr =>
                  rintro W' ⟨s0, s1, s2, s3, s4, ⟨z, s5⟩, s6⟩
                  go_simp
                simp only [Act.put, List.setIfInBounds_toArray, List.set_cons_zero, List.set_cons_succ]
                refine hTake (i := 10) (d := 39) (v := .pointer (some ⟨w.heap.size + 1, 2, none⟩)) rfl rfl (by kernel_rfl) (by kernel_rfl) (by kernel_rfl) (fun _ _ _ h => h) (Or.inl ⟨rfl, ?gr⟩) HS.out ?_
                case gr =>
                  rintro W' ⟨s0, s1, s2, s3, s4, ⟨z, s5⟩, s6⟩
                  go_simp
                simp only [Act.put, List.setIfInBounds_toArray, List.set_cons_zero, List.set_cons_succ]
                refine wpAnyH_ready (rs := [11]) (by kernel_rfl) (by simp) ?_
                refine AllReadyH.cons rfl (fun K hK => ?_) AllReadyH.nil
                rw [if_pos (by rfl)]
                obtain ⟨s0, s1, s2, s3, s4, ⟨z, s5⟩, s6⟩ := HS.out
                have hzm := HZM.out
                go_simp
                have HS2 := Lib.hid (show (fun wx : World => wx.cell? ⟨wo.heap.size, 0, none⟩ = some (.func (.func 119) #[] #[]) ∧ wx.cell? ⟨wm.heap.size, 0, none⟩ = some (.int .i64 x.x) ∧ wx.cell? ⟨wm.heap.size, 1, none⟩ = some (.int .i64 x.y) ∧ wx.cell? ⟨wr.heap.size, 0, none⟩ = some (.int .i64 y.x) ∧ wx.cell? ⟨wr.heap.size, 1, none⟩ = some (.int .i64 y.y) ∧ (∃ z, wx.cell? ⟨w.heap.size + 1, 2, none⟩ = some (.int .i64 z)) ∧ wx.frozen? ⟨w.heap.size + 1, 2, none⟩ = false) (World.setCell _ ⟨w.heap.size + 1, 2, none⟩ (.int .i64 (max v r))) from ⟨by rw [World.cell?_setCell_other (h := by simp <;> omega)]; exact s0, by rw [World.cell?_setCell_other (h := by simp <;> omega)]; exact s1, by rw [World.cell?_setCell_other (h := by simp <;> omega)]; exact s2, by rw [World.cell?_setCell_other (h := by simp <;> omega)]; exact s3, by rw [World.cell?_setCell_other (h := by simp <;> omega)]; exact s4, ⟨_, World.cell?_setCell_same _ _ _ s5⟩, by rw [World.frozen?_setCell]; exact s6⟩)
                refine hK.out _ _ HS2.out (fun _ => ?_)
                clear s0 s1 s2 s3 s4 s5 s6 HS2 hzm
                clear hK K
                try simp only [Act.put, List.setIfInBounds_toArray, List.set_cons_zero, List.set_cons_succ]
                refine wpAnyH_done (by kernel_rfl) ?_ _
                have HBQ := Lib.hid (HBE.out.trans (hbq.mono HBE.out.size))
                clear hbq
                go_wp2
                go_roundw
                case rel =>
                  have hz1 := HZ.out; have hzm := HZM.out
                  refine ⟨(HWF.out.below hz1 HBQ.out).set hz1 _ _, j + 1, max v r, by omega, by go_num, ⟨by omega, by omega⟩, HWB1.out.more (by omega), WB.right hjl (HWB2.out.more (by omega)) (by rw [HYL.out, HRV.out]; omega), (H3.out.below HBQ.out (by omega)).set2 _, ?_, ?_, ?_, ?_⟩
                  · rw [World.cell?_setCell_other (h := by simp <;> omega)]; exact (HBQ.out.cell (p := ⟨wo.heap.size, 0, none⟩) (by simp; omega)).trans HC8.out
                  · rw [World.cell?_setCell_other (h := by simp <;> omega)]; exact (HBQ.out.cell (p := ⟨wm.heap.size, 0, none⟩) (by simp; omega)).trans HX0.out
                  · rw [World.cell?_setCell_other (h := by simp <;> omega)]; exact (HBQ.out.cell (p := ⟨wm.heap.size, 1, none⟩) (by simp; omega)).trans HX1.out
                  · rw [World.size_setCell]
                    have h9 := HBQ.out.size
                    omega
                case measure => simp [intOf] <;> omega
            · have hjl : l.length ≤ j := by rw [HN.out]; omega
              clear hwf h3 h8 hx0 hx1 hwb1 hwb2
              go_wp2
              go_roundw
              case rel =>
                refine ⟨HWF.out, i + 1, v, by omega, by go_num, ⟨hv0, hv1⟩, WB.left hil HWB1.out (by rw [HXL.out]; have h9 := HWB2.out; rwa [List.take_of_length_le hjl] at h9), H3.out, HC8.out, by omega⟩
              case measure => simp [intOf] <;> omega
        · have hil : l.length ≤ i := by rw [HN.out]; omega
          have HG := Lib.hid (show GW rch2 l v from ⟨hv, by rwa [List.take_of_length_le hil] at hwb⟩)
          have HWF := Lib.hid hwf; have H3 := Lib.hid h3
          clear hwf h3 h8 hwb hv
          go_wp2
          go_roundw
          case rel => exact ⟨HWF.out, .inr (.inr (.inr (.inl ⟨rfl, u0, u1, v, HG0.out, HG1.out, HG.out, H3.out⟩)))⟩
          case measure => simp [intOf] <;> omega
    · obtain ⟨wo, hwo⟩ : ∃ z, z = wr := ⟨_, rfl⟩
      subst hwo
      have HWF := Lib.hid hwf; have H3 := Lib.hid h3
      have HG0 := Lib.hid hg0
      have HG1 := Lib.hid hg1
      have HG2 := Lib.hid hg2
      clear hg0 hg1 hg2
      obtain ⟨c0, c1, c2, c3, c4, c5, c6, c7⟩ := hwf.ts
      have hbe := (Below.refl wo.heap.size wo).alloc (Nat.le_refl _) (.cells #[.func (.func 121) #[] #[], .func (.func 122) #[] #[]] 158)
      have k0 := cell_new1 wo #[.func (.func 121) #[] #[], .func (.func 122) #[] #[]] 158 0
      have hzz : (wo.alloc (.cells #[.func (.func 121) #[] #[], .func (.func 122) #[] #[]] 158)).heap.size = wo.heap.size + 1 := by simp
      obtain ⟨W3, hW3⟩ : ∃ z, wo.alloc (.cells #[.func (.func 121) #[] #[], .func (.func 122) #[] #[]] 158) = z := ⟨_, rfl⟩
      rw [hW3] at hbe k0 hzz
      have hzo : w.heap.size + 3 ≤ wo.heap.size := by have h1 := hwf.hsz; rw [HZ.out] at h1; exact h1
      have HF3 := Lib.hid (hwf.below HZ.out hbe)
      have HR3 := Lib.hid (h3.below hbe (by omega))
      have HC8 := Lib.hid (show W3.cell? ⟨wo.heap.size, 0, none⟩ = some (.func (.func 121) #[] #[]) from k0)
      have HZ3 := Lib.hid hzz
      clear hwf h3 hbe k0 hzz
      go_wp2
      clear hW3 c0 c1 c2 c3 c4 c5 c6 c7 HWF H3
      go_loopw [19] (fun s19 wr => WF w W1 wr ∧ ∃ (i : Nat) (v : Int), i ≤ n ∧ s19 = .int .i64 (i : Int) ∧ (0 ≤ v ∧ v ≤ 100000) ∧ WB rch3 (l.take i) l v ∧ Ro wr (w.heap.size + 1) 160 u0 u1 u2 v ∧ wr.cell? ⟨wo.heap.size, 0, none⟩ = some (.func (.func 121) #[] #[]) ∧ wo.heap.size + 1 ≤ wr.heap.size) (fun s19 _ => n - (intOf s19).toNat)
      case atStart => exact ⟨HF3.out, 0, 0, Nat.zero_le _, rfl, ⟨by omega, by omega⟩, WB.nil _ _ _, HR3.out, HC8.out, by rw [HZ3.out]; exact Nat.le_refl _⟩
      case round =>
        obtain ⟨hwf, i, v, hi, rfl, hv, hwb, h3, h8, hom⟩ := hrel
        obtain ⟨wm, hwm⟩ : ∃ z, z = wr := ⟨_, rfl⟩
        subst hwm
        clear HF3 HR3 HC8 HZ3
        by_cases hin : i < n
        · have hil : i < l.length := by rw [HN.out]; exact hin
          obtain ⟨x, hx⟩ : ∃ z, l[i] = z := ⟨_, rfl⟩
          have HXL := Lib.hid hx
          have HPX := Lib.hid (HPR.out x (by rw [← hx]; exact List.getElem_mem hil))
          obtain ⟨bp, op, eA, p0, p1⟩ := HSL.out wm hwf.hb i x (by rw [← hx]; exact List.getElem?_eq_getElem hil)
          subst eA
          have hbe := (Below.refl wm.heap.size wm).alloc (Nat.le_refl _) (.cells #[.int .i64 x.x, .int .i64 x.y] 46)
          have k0 := cell_new1 wm #[.int .i64 x.x, .int .i64 x.y] 46 0
          have k1 := cell_new1 wm #[.int .i64 x.x, .int .i64 x.y] 46 1
          have hzz : (wm.alloc (.cells #[.int .i64 x.x, .int .i64 x.y] 46)).heap.size = wm.heap.size + 1 := by simp
          obtain ⟨W4, hW4⟩ : ∃ z, wm.alloc (.cells #[.int .i64 x.x, .int .i64 x.y] 46) = z := ⟨_, rfl⟩
          rw [hW4] at hbe k0 k1 hzz
          have HF4 := Lib.hid (hwf.below HZ.out hbe)
          have HR4' := Lib.hid (h3.below hbe (by omega))
          have HC8' := Lib.hid ((hbe.cell (p := ⟨wo.heap.size, 0, none⟩) (by simp; omega)).trans h8)
          have HX0' := Lib.hid (show W4.cell? ⟨wm.heap.size, 0, none⟩ = some (.int .i64 x.x) from k0)
          have HX1' := Lib.hid (show W4.cell? ⟨wm.heap.size, 1, none⟩ = some (.int .i64 x.y) from k1)
          have HZ4 := Lib.hid hzz
          have HWB := Lib.hid hwb; have HV := Lib.hid hv
          have i0 : (0 : Int) ≤ (i : Int) := by omega
          have i1 : (i : Int) < (n : Int) := by omega
          clear hx hbe k0 k1 hzz hwf h3 h8 hwb hv
          go_wp2
          clear hW4 p0 p1
          go_loopw [25] (fun s25 wr => WF w W1 wr ∧ ∃ (j : Nat) (v : Int), j ≤ n ∧ s25 = .int .i64 (j : Int) ∧ (0 ≤ v ∧ v ≤ 100000) ∧ WB rch3 (l.take i) l v ∧ WB rch3 [x] (l.take j) v ∧ Ro wr (w.heap.size + 1) 160 u0 u1 u2 v ∧ wr.cell? ⟨wo.heap.size, 0, none⟩ = some (.func (.func 121) #[] #[]) ∧ wr.cell? ⟨wm.heap.size, 0, none⟩ = some (.int .i64 x.x) ∧ wr.cell? ⟨wm.heap.size, 1, none⟩ = some (.int .i64 x.y) ∧ wm.heap.size + 1 ≤ wr.heap.size) (fun s25 _ => n - (intOf s25).toNat)
          case atStart => exact ⟨HF4.out, 0, v, Nat.zero_le _, rfl, HV.out, HWB.out, WB.nil2 _ _ _, HR4'.out, HC8'.out, HX0'.out, HX1'.out, by rw [HZ4.out]; exact Nat.le_refl _⟩
          case round =>
            clear HF4 HR4' HC8' HX0' HX1' HZ4 HWB HV
            obtain ⟨hwf, j, v, hj, rfl, hv, hwb1, hwb2, h3, h8, hx0, hx1, hmr⟩ := hrel
            have HWF := Lib.hid hwf; have HWB1 := Lib.hid hwb1; have HWB2 := Lib.hid hwb2; have H3 := Lib.hid h3; have HC8 := Lib.hid h8; have HX0 := Lib.hid hx0; have HX1 := Lib.hid hx1
            obtain ⟨hv0, hv1⟩ := hv
            by_cases hjn : j < n
            · have hjl : j < l.length := by rw [HN.out]; exact hjn
              obtain ⟨y, hy⟩ : ∃ z, l[j] = z := ⟨_, rfl⟩
              have HYL := Lib.hid hy
              have HPY := Lib.hid (HPR.out y (by rw [← hy]; exact List.getElem_mem hjl))
              obtain ⟨b2, o2, eA, p0, p1⟩ := HSL.out wr hwf.hb j y (by rw [← hy]; exact List.getElem?_eq_getElem hjl)
              cases eA
              obtain ⟨hrc, hr0, hr1⟩ := HRH3.out x y HPX.out HPY.out
              obtain ⟨r, hr⟩ : ∃ z, rch3 x y = z := ⟨_, rfl⟩
              rw [hr] at hrc hr0 hr1
              have HRC := Lib.hid hrc; have HRV := Lib.hid hr
              have hbe := (Below.refl wr.heap.size wr).alloc (Nat.le_refl _) (.cells #[.int .i64 y.x, .int .i64 y.y] 46)
              have k0 := cell_new1 wr #[.int .i64 y.x, .int .i64 y.y] 46 0
              have k1 := cell_new1 wr #[.int .i64 y.x, .int .i64 y.y] 46 1
              have hzz : (wr.alloc (.cells #[.int .i64 y.x, .int .i64 y.y] 46)).heap.size = wr.heap.size + 1 := by simp
              obtain ⟨W5, hW5⟩ : ∃ z, wr.alloc (.cells #[.int .i64 y.x, .int .i64 y.y] 46) = z := ⟨_, rfl⟩
              rw [hW5] at hbe k0 k1 hzz
              have HBE := Lib.hid hbe
              have HZM := Lib.hid (show wo.heap.size + 1 ≤ wm.heap.size ∧ wm.heap.size + 1 ≤ wr.heap.size ∧ w.heap.size + 3 ≤ wo.heap.size from ⟨hom, hmr, hzo⟩)
              have HCV := Lib.hid (show ∀ wx, Below W5.heap.size W5 wx → wx.cell? ⟨w.heap.size + 1, 3, none⟩ = some (.int .i64 v) from fun wx h => (h3.below (hbe.trans (h.mono hbe.size)) (by omega)).cell 3)
              have HCELL := Lib.hid (show ∀ wx, Below W5.heap.size W5 wx → wx.cell? ⟨wo.heap.size, 0, none⟩ = some (.func (.func 121) #[] #[]) ∧ wx.cell? ⟨wm.heap.size, 0, none⟩ = some (.int .i64 x.x) ∧ wx.cell? ⟨wm.heap.size, 1, none⟩ = some (.int .i64 x.y) ∧ wx.cell? ⟨wr.heap.size, 0, none⟩ = some (.int .i64 y.x) ∧ wx.cell? ⟨wr.heap.size, 1, none⟩ = some (.int .i64 y.y) ∧ (∃ z, wx.cell? ⟨w.heap.size + 1, 3, none⟩ = some (.int .i64 z)) ∧ wx.frozen? ⟨w.heap.size + 1, 3, none⟩ = false from fun wx h => by
                have h1 := hbe.trans (h.mono hbe.size)
                exact ⟨(h1.cell (p := ⟨wo.heap.size, 0, none⟩) (by simp; omega)).trans h8, (h1.cell (p := ⟨wm.heap.size, 0, none⟩) (by simp; omega)).trans hx0, (h1.cell (p := ⟨wm.heap.size, 1, none⟩) (by simp; omega)).trans hx1, (h.cell (p := ⟨wr.heap.size, 0, none⟩) (by simp; omega)).trans k0, (h.cell (p := ⟨wr.heap.size, 1, none⟩) (by simp; omega)).trans k1, ⟨_, (h3.below h1 (by omega)).cell 3⟩, (h3.below h1 (by omega)).frozen 3⟩)
              have j0 : (0 : Int) ≤ (j : Int) := by omega
              have j1 : (j : Int) < (n : Int) := by omega
              clear hy hr hrc hbe k0 k1 hzz hwf h3 h8 hx0 hx1 hwb1 hwb2
              go_wp2_with fail
              go_upto_region 11 with (fail)
              clear hW5 p0 p1
              have hbq : Below W5.heap.size W5 W5.drew := (Below.refl _ _).drew
              have HS := Lib.hid (HCELL.out _ hbq)
              refine wp_region_held_drew (S := fun wx => wx.cell? ⟨wo.heap.size, 0, none⟩ = some (.func (.func 121) #[] #[]) ∧ wx.cell? ⟨wm.heap.size, 0, none⟩ = some (.int .i64 x.x) ∧ wx.cell? ⟨wm.heap.size, 1, none⟩ = some (.int .i64 x.y) ∧ wx.cell? ⟨wr.heap.size, 0, none⟩ = some (.int .i64 y.x) ∧ wx.cell? ⟨wr.heap.size, 1, none⟩ = some (.int .i64 y.y) ∧ (∃ z, wx.cell? ⟨w.heap.size + 1, 3, none⟩ = some (.int .i64 z)) ∧ wx.frozen? ⟨w.heap.size + 1, 3, none⟩ = false) (by kernel_rfl) HS.out (fun _ => ?_)
              refine hTake (i := 0) (d := 29) (v := .int .i64 3) rfl rfl (by kernel_rfl) (by kernel_rfl) (by kernel_rfl) (fun _ _ _ h => h) (Or.inl ⟨rfl, ?gr⟩) HS.out ?_
              case gr =>
                rintro W' ⟨s0, s1, s2, s3, s4, ⟨z, s5⟩, s6⟩
                go_simp
              simp only [Act.put, List.setIfInBounds_toArray, List.set_cons_zero, List.set_cons_succ]
              refine hTake (i := 1) (d := 30) (v := .int .i64 3) rfl rfl (by kernel_rfl) (by kernel_rfl) (by kernel_rfl) (fun _ _ _ h => h) (Or.inl ⟨rfl, ?gr⟩) HS.out ?_
              case gr =>
                rintro W' ⟨s0, s1, s2, s3, s4, ⟨z, s5⟩, s6⟩
                go_simp
              simp only [Act.put, List.setIfInBounds_toArray, List.set_cons_zero, List.set_cons_succ]
              refine hTake (i := 2) (d := 31) (v := .pointer (some ⟨w.heap.size + 1, 3, none⟩)) rfl rfl (by kernel_rfl) (by kernel_rfl) (by kernel_rfl) (fun _ _ _ h => h) (Or.inl ⟨rfl, ?gr⟩) HS.out ?_
              case gr =>
                rintro W' ⟨s0, s1, s2, s3, s4, ⟨z, s5⟩, s6⟩
                go_simp
              simp only [Act.put, List.setIfInBounds_toArray, List.set_cons_zero, List.set_cons_succ]
              refine hTake (i := 4) (d := 33) (v := .pointer (some ⟨wo.heap.size, 0, none⟩)) rfl rfl (by kernel_rfl) (by kernel_rfl) (by kernel_rfl) (fun _ _ _ h => h) (Or.inl ⟨rfl, ?gr⟩) HS.out ?_
              case gr =>
                rintro W' ⟨s0, s1, s2, s3, s4, ⟨z, s5⟩, s6⟩
                go_simp
              simp only [Act.put, List.setIfInBounds_toArray, List.set_cons_zero, List.set_cons_succ]
              refine hTake (i := 5) (d := 34) (v := .func (.func 121) #[] #[]) rfl rfl (by kernel_rfl) (by kernel_rfl) (by kernel_rfl) (fun _ _ _ h => h) (Or.inl ⟨rfl, ?gr⟩) HS.out ?_
              case gr =>
                rintro W' ⟨s0, s1, s2, s3, s4, ⟨z, s5⟩, s6⟩
                go_simp
              simp only [Act.put, List.setIfInBounds_toArray, List.set_cons_zero, List.set_cons_succ]
              refine hTake (i := 6) (d := 35) (v := .agg #[.int .i64 x.x, .int .i64 x.y]) rfl rfl (by kernel_rfl) (by kernel_rfl) (by kernel_rfl) (fun _ _ _ h => h) (Or.inl ⟨rfl, ?gr⟩) HS.out ?_
              case gr =>
                rintro W' ⟨s0, s1, s2, s3, s4, ⟨z, s5⟩, s6⟩
                go_simp
              simp only [Act.put, List.setIfInBounds_toArray, List.set_cons_zero, List.set_cons_succ]
              refine hTake (i := 7) (d := 36) (v := .agg #[.int .i64 y.x, .int .i64 y.y]) rfl rfl (by kernel_rfl) (by kernel_rfl) (by kernel_rfl) (fun _ _ _ h => h) (Or.inl ⟨rfl, ?gr⟩) HS.out ?_
              case gr =>
                rintro W' ⟨s0, s1, s2, s3, s4, ⟨z, s5⟩, s6⟩
                go_simp
              simp only [Act.put, List.setIfInBounds_toArray, List.set_cons_zero, List.set_cons_succ]
              refine wpAnyH_ready (rs := [3, 8]) (by kernel_rfl) (by simp) ?_
              refine AllReadyH.cons rfl (fun K hK => ?_) (AllReadyH.cons rfl (fun K hK => ?_) AllReadyH.nil)
              · rw [if_pos (by rfl)]
                have c9 := HCV.out _ hbq
                go_simp
                refine hK.out _ _ HS.out (fun _ => ?_)
                clear c9
                clear hK K
                try simp only [Act.put, List.setIfInBounds_toArray, List.set_cons_zero, List.set_cons_succ]
                refine wpAnyH_ready (rs := [8]) (by kernel_rfl) (by simp) ?_
                refine AllReadyH.cons rfl (fun K hK => ?_) AllReadyH.nil
                rw [if_pos (by rfl)]
                go_simp
                (with_reducible refine (HRC.out _).mono ?_)
                rintro e wc ⟨rfl, hbc⟩
                replace hbq := hbq.trans (hbc.mono hbq.size)
                have HS := Lib.hid (HCELL.out _ hbq)
                clear hbc
                refine hK.out _ _ HS.out (fun _ => ?_)
                clear hK K
                try simp only [Act.put, List.setIfInBounds_toArray, List.set_cons_zero, List.set_cons_succ]
                refine hTake (i := 9) (d := 38) (v := .int .i64 (max v r)) rfl rfl (by kernel_rfl) (by kernel_rfl) (by kernel_rfl) (fun _ _ _ h => h) (Or.inl ⟨rfl, ?gr⟩) HS.out ?_
                case gr =>
                  rintro W' ⟨s0, s1, s2, s3, s4, ⟨z, s5⟩, s6⟩
                  go_simp
                simp only [Act.put, List.setIfInBounds_toArray, List.set_cons_zero, List.set_cons_succ]
                refine hTake (i := 10) (d := 39) (v := .pointer (some ⟨w.heap.size + 1, 3, none⟩)) rfl rfl (by kernel_rfl) (by kernel_rfl) (by kernel_rfl) (fun _ _ _ h => h) (Or.inl ⟨rfl, ?gr⟩) HS.out ?_
                case gr =>
                  rintro W' ⟨s0, s1, s2, s3, s4, ⟨z, s5⟩, s6⟩
                  go_simp
                simp only [Act.put, List.setIfInBounds_toArray, List.set_cons_zero, List.set_cons_succ]
                refine wpAnyH_ready (rs := [11]) (by kernel_rfl) (by simp) ?_
                refine AllReadyH.cons rfl (fun K hK => ?_) AllReadyH.nil
                rw [if_pos (by rfl)]
                obtain ⟨s0, s1, s2, s3, s4, ⟨z, s5⟩, s6⟩ := HS.out
                have hzm := HZM.out
                go_simp
                have HS2 := Lib.hid (show (fun wx : World => wx.cell? ⟨wo.heap.size, 0, none⟩ = some (.func (.func 121) #[] #[]) ∧ wx.cell? ⟨wm.heap.size, 0, none⟩ = some (.int .i64 x.x) ∧ wx.cell? ⟨wm.heap.size, 1, none⟩ = some (.int .i64 x.y) ∧ wx.cell? ⟨wr.heap.size, 0, none⟩ = some (.int .i64 y.x) ∧ wx.cell? ⟨wr.heap.size, 1, none⟩ = some (.int .i64 y.y) ∧ (∃ z, wx.cell? ⟨w.heap.size + 1, 3, none⟩ = some (.int .i64 z)) ∧ wx.frozen? ⟨w.heap.size + 1, 3, none⟩ = false) (World.setCell _ ⟨w.heap.size + 1, 3, none⟩ (.int .i64 (max v r))) from ⟨by rw [World.cell?_setCell_other (h := by simp <;> omega)]; exact s0, by rw [World.cell?_setCell_other (h := by simp <;> omega)]; exact s1, by rw [World.cell?_setCell_other (h := by simp <;> omega)]; exact s2, by rw [World.cell?_setCell_other (h := by simp <;> omega)]; exact s3, by rw [World.cell?_setCell_other (h := by simp <;> omega)]; exact s4, ⟨_, World.cell?_setCell_same _ _ _ s5⟩, by rw [World.frozen?_setCell]; exact s6⟩)
                refine hK.out _ _ HS2.out (fun _ => ?_)
                clear s0 s1 s2 s3 s4 s5 s6 HS2 hzm
                clear hK K
                try simp only [Act.put, List.setIfInBounds_toArray, List.set_cons_zero, List.set_cons_succ]
                refine wpAnyH_done (by kernel_rfl) ?_ _
                have HBQ := Lib.hid (HBE.out.trans (hbq.mono HBE.out.size))
                clear hbq
                go_wp2
                go_roundw
                case rel =>
                  have hz1 := HZ.out; have hzm := HZM.out
                  refine ⟨(HWF.out.below hz1 HBQ.out).set hz1 _ _, j + 1, max v r, by omega, by go_num, ⟨by omega, by omega⟩, HWB1.out.more (by omega), WB.right hjl (HWB2.out.more (by omega)) (by rw [HYL.out, HRV.out]; omega), (H3.out.below HBQ.out (by omega)).set3 _, ?_, ?_, ?_, ?_⟩
                  · rw [World.cell?_setCell_other (h := by simp <;> omega)]; exact (HBQ.out.cell (p := ⟨wo.heap.size, 0, none⟩) (by simp; omega)).trans HC8.out
                  · rw [World.cell?_setCell_other (h := by simp <;> omega)]; exact (HBQ.out.cell (p := ⟨wm.heap.size, 0, none⟩) (by simp; omega)).trans HX0.out
                  · rw [World.cell?_setCell_other (h := by simp <;> omega)]; exact (HBQ.out.cell (p := ⟨wm.heap.size, 1, none⟩) (by simp; omega)).trans HX1.out
                  · rw [World.size_setCell]
                    have h9 := HBQ.out.size
                    omega
                case measure => simp [intOf] <;> omega
              · rw [if_pos (by rfl)]
                go_simp
                (with_reducible refine (HRC.out _).mono ?_)
                rintro e wc ⟨rfl, hbc⟩
                replace hbq := hbq.trans (hbc.mono hbq.size)
                have HS := Lib.hid (HCELL.out _ hbq)
                clear hbc
                refine hK.out _ _ HS.out (fun _ => ?_)
                clear hK K
                try simp only [Act.put, List.setIfInBounds_toArray, List.set_cons_zero, List.set_cons_succ]
                refine wpAnyH_ready (rs := [3]) (by kernel_rfl) (by simp) ?_
                refine AllReadyH.cons rfl (fun K hK => ?_) AllReadyH.nil
                rw [if_pos (by rfl)]
                have c9 := HCV.out _ hbq
                go_simp
                refine hK.out _ _ HS.out (fun _ => ?_)
                clear c9
                clear hK K
                try simp only [Act.put, List.setIfInBounds_toArray, List.set_cons_zero, List.set_cons_succ]
                refine hTake (i := 9) (d := 38) (v := .int .i64 (max v r)) rfl rfl (by kernel_rfl) (by kernel_rfl) (by kernel_rfl) (fun _ _ _ h => h) (Or.inl ⟨rfl, ?gr⟩) HS.out ?_
                case gr =>
                  rintro W' ⟨s0, s1, s2, s3, s4, ⟨z, s5⟩, s6⟩
                  go_simp
                simp only [Act.put, List.setIfInBounds_toArray, List.set_cons_zero, List.set_cons_succ]
                refine hTake (i := 10) (d := 39) (v := .pointer (some ⟨w.heap.size + 1, 3, none⟩)) rfl rfl (by kernel_rfl) (by kernel_rfl) (by kernel_rfl) (fun _ _ _ h => h) (Or.inl ⟨rfl, ?gr⟩) HS.out ?_
                case gr =>
                  rintro W' ⟨s0, s1, s2, s3, s4, ⟨z, s5⟩, s6⟩
                  go_simp
                simp only [Act.put, List.setIfInBounds_toArray, List.set_cons_zero, List.set_cons_succ]
                refine wpAnyH_ready (rs := [11]) (by kernel_rfl) (by simp) ?_
                refine AllReadyH.cons rfl (fun K hK => ?_) AllReadyH.nil
                rw [if_pos (by rfl)]
                obtain ⟨s0, s1, s2, s3, s4, ⟨z, s5⟩, s6⟩ := HS.out
                have hzm := HZM.out
                go_simp
                have HS2 := Lib.hid (show (fun wx : World => wx.cell? ⟨wo.heap.size, 0, none⟩ = some (.func (.func 121) #[] #[]) ∧ wx.cell? ⟨wm.heap.size, 0, none⟩ = some (.int .i64 x.x) ∧ wx.cell? ⟨wm.heap.size, 1, none⟩ = some (.int .i64 x.y) ∧ wx.cell? ⟨wr.heap.size, 0, none⟩ = some (.int .i64 y.x) ∧ wx.cell? ⟨wr.heap.size, 1, none⟩ = some (.int .i64 y.y) ∧ (∃ z, wx.cell? ⟨w.heap.size + 1, 3, none⟩ = some (.int .i64 z)) ∧ wx.frozen? ⟨w.heap.size + 1, 3, none⟩ = false) (World.setCell _ ⟨w.heap.size + 1, 3, none⟩ (.int .i64 (max v r))) from ⟨by rw [World.cell?_setCell_other (h := by simp <;> omega)]; exact s0, by rw [World.cell?_setCell_other (h := by simp <;> omega)]; exact s1, by rw [World.cell?_setCell_other (h := by simp <;> omega)]; exact s2, by rw [World.cell?_setCell_other (h := by simp <;> omega)]; exact s3, by rw [World.cell?_setCell_other (h := by simp <;> omega)]; exact s4, ⟨_, World.cell?_setCell_same _ _ _ s5⟩, by rw [World.frozen?_setCell]; exact s6⟩)
                refine hK.out _ _ HS2.out (fun _ => ?_)
                clear s0 s1 s2 s3 s4 s5 s6 HS2 hzm
                clear hK K
                try simp only [Act.put, List.setIfInBounds_toArray, List.set_cons_zero, List.set_cons_succ]
                refine wpAnyH_done (by kernel_rfl) ?_ _
                have HBQ := Lib.hid (HBE.out.trans (hbq.mono HBE.out.size))
                clear hbq
                go_wp2
                go_roundw
                case rel =>
                  have hz1 := HZ.out; have hzm := HZM.out
                  refine ⟨(HWF.out.below hz1 HBQ.out).set hz1 _ _, j + 1, max v r, by omega, by go_num, ⟨by omega, by omega⟩, HWB1.out.more (by omega), WB.right hjl (HWB2.out.more (by omega)) (by rw [HYL.out, HRV.out]; omega), (H3.out.below HBQ.out (by omega)).set3 _, ?_, ?_, ?_, ?_⟩
                  · rw [World.cell?_setCell_other (h := by simp <;> omega)]; exact (HBQ.out.cell (p := ⟨wo.heap.size, 0, none⟩) (by simp; omega)).trans HC8.out
                  · rw [World.cell?_setCell_other (h := by simp <;> omega)]; exact (HBQ.out.cell (p := ⟨wm.heap.size, 0, none⟩) (by simp; omega)).trans HX0.out
                  · rw [World.cell?_setCell_other (h := by simp <;> omega)]; exact (HBQ.out.cell (p := ⟨wm.heap.size, 1, none⟩) (by simp; omega)).trans HX1.out
                  · rw [World.size_setCell]
                    have h9 := HBQ.out.size
                    omega
                case measure => simp [intOf] <;> omega
            · have hjl : l.length ≤ j := by rw [HN.out]; omega
              clear hwf h3 h8 hx0 hx1 hwb1 hwb2
              go_wp2
              go_roundw
              case rel =>
                refine ⟨HWF.out, i + 1, v, by omega, by go_num, ⟨hv0, hv1⟩, WB.left hil HWB1.out (by rw [HXL.out]; have h9 := HWB2.out; rwa [List.take_of_length_le hjl] at h9), H3.out, HC8.out, by omega⟩
              case measure => simp [intOf] <;> omega
        · have hil : l.length ≤ i := by rw [HN.out]; omega
          have HG := Lib.hid (show GW rch3 l v from ⟨hv, by rwa [List.take_of_length_le hil] at hwb⟩)
          have HWF := Lib.hid hwf; have H3 := Lib.hid h3
          clear hwf h3 h8 hwb hv
          go_wp2
          go_roundw
          case rel => exact ⟨HWF.out, .inr (.inr (.inr (.inr (⟨rfl, u0, u1, u2, v, HG0.out, HG1.out, HG2.out, HG.out, H3.out⟩))))⟩
          case measure => simp [intOf] <;> omega
    · have e0 := h3.cell 0; have e1 := h3.cell 1; have e2 := h3.cell 2; have e3 := h3.cell 3
      have f0 := hwf.r2.cell 0; have f1 := hwf.r2.cell 1; have f2 := hwf.r2.cell 2; have f3 := hwf.r2.cell 3
      have g0 := hwf.r2.frozen 0; have g1 := hwf.r2.frozen 1; have g2 := hwf.r2.frozen 2; have g3 := hwf.r2.frozen 3
      simp only [List.getElem?_toArray, List.getElem?_cons_zero, List.getElem?_cons_succ] at e0 e1 e2 e3 f0 f1 f2 f3
      have HBC := Lib.hid hwf.hb
      have HG := Lib.hid (show GW rch0 l u0 ∧ GW rch1 l u1 ∧ GW rch2 l u2 ∧ GW rch3 l u3 from ⟨hg0, hg1, hg2, hg3⟩)
      clear hwf h3 hg0 hg1 hg2 hg3
      go_wp2
      exact bodyPost_ret (v := .agg #[.int .i64 u0, .int .i64 u1, .int .i64 u2, .int .i64 u3]) (by simp [results, Tryz.results94, go_sem, (set4_read f0 f1 f2 f3).1, (set4_read f0 f1 f2 f3).2.1, (set4_read f0 f1 f2 f3).2.2.1, (set4_read f0 f1 f2 f3).2.2.2]) rfl ⟨⟨u0, u1, u2, u3, rfl, HG.out⟩, (((HBC.out.setCell (by simp) _).setCell (by simp) _).setCell (by simp) _).setCell (by simp) _⟩
end Go.Proofs.YtekambdnmaompaaGreat.SW
