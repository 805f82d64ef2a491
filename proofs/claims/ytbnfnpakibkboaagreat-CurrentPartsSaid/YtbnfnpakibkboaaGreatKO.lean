/- Texts C47 C48 C49 D7. -/
import Derived.Test.YtbnfnpakibkboaaGreatKNa
namespace Go.Proofs.YtbnfnpakibkboaaGreat
set_option linter.unusedVariables false
set_option linter.unusedSimpArgs false
open Go.RowKit

section
variable {w : World} {B sb : Nat} {x : SL} {C : Nat → Ci} {V : Nat → Vi} {K' : Nat → Bool} {z : Zs} {fon run : List Bool} {xs : List Pm}
set_option maxRecDepth 100000 in
set_option maxHeartbeats 8000000 in
theorem StA.backC (h : StA w B sb x C V K' z fon run xs (fun j => j < z.np)) (hz : z.Ok) :
    Calls Tryz.prog 99 #[.pointer (some ⟨sb, 0, none⟩)] w fun e w' => RuP (z.back fon run) w e w' := by
  have hb1 := ((Below.refl w.heap.size w).alloc (Nat.le_refl _) (.cells #[.pointer (some ⟨sb, 0, none⟩)] 97)).alloc (by simp) (.cells #[.int .i64 0, .int .i64 0, .int .i64 0, .int .i64 0] 92)
  obtain ⟨q1, q2⟩ := rows2 w #[.pointer (some ⟨sb, 0, none⟩)] #[.int .i64 0, .int .i64 0, .int .i64 0, .int .i64 0] 97 92
  obtain ⟨W1, hW1⟩ : ∃ y, (w.alloc (.cells #[.pointer (some ⟨sb, 0, none⟩)] 97)).alloc (.cells #[.int .i64 0, .int .i64 0, .int .i64 0, .int .i64 0] 92) = y := ⟨_, rfl⟩
  rw [hW1] at hb1 q1 q2
  have h1 := h.below hb1
  have HLE := Lib.hid (h1.least113C hz (z.backQ fon run) w.heap.size (fun wx hb u hu => (h1.below hb).back1C hz w.heap.size (q1.below hb q1.lt) u hu))
  have e1 := q1.cell
  have HB1 := Lib.hid hb1; have HQ1 := Lib.hid q1; have HQ2 := Lib.hid q2; have HH := Lib.hid h1; have HZ := Lib.hid hz
  have hlt := leastZ_lt z.ls run (z.backQ fon run) z.ls.length
  obtain ⟨f, hf⟩ : ∃ f, leastZ z.ls run (z.backQ fon run) z.ls.length = f := ⟨_, rfl⟩
  rw [hf] at HLE hlt
  have HF := Lib.hid hf
  clear hb1 q1 q2 h h1 hz hf
  go_enter Tryz.func99, Tryz.ntmps99
  go_wp2_with fail
  (with_reducible refine (HLE.out).mono ?_)
  rintro e w3 ⟨rfl, hb3⟩
  clear e1
  have r1 := HQ1.out.below hb3 HQ1.out.lt
  have r2 := HQ2.out.below hb3 HQ2.out.lt
  have HB3 := Lib.hid (HB1.out.trans (hb3.mono HB1.out.size)); have HB3' := Lib.hid hb3
  have e1 := r1.cell; have e2 := r2.cell; have f2 := r2.frozen
  by_cases hfn : f < 0
  · have hd : decide (0 ≤ f) = false := decide_eq_false (by omega)
    have HFD := Lib.hid (show z.back fon run = none from by unfold Zs.back; rw [HF.out, if_pos hfn])
    have HR5 := Lib.hid (show Rw ((((w3.setCell ⟨w.heap.size + 1, 0, none⟩ (.int .i64 0)).setCell ⟨w.heap.size + 1, 1, none⟩ (.int .i64 0)).setCell ⟨w.heap.size + 1, 2, none⟩ (.int .i64 0)).setCell ⟨w.heap.size + 1, 3, none⟩ (.int .i64 0)) (w.heap.size + 1) 92 #[.int .i64 0, .int .i64 0, .int .i64 0, .int .i64 0] from (((r2.set 0 _).set 1 _).set 2 _).set 3 _)
    have HBE := Lib.hid (((HB3.out.setCell (p := ⟨w.heap.size + 1, 0, none⟩) (Nat.le_succ _) (.int .i64 0)).setCell (p := ⟨w.heap.size + 1, 1, none⟩) (Nat.le_succ _) (.int .i64 0)).setCell (p := ⟨w.heap.size + 1, 2, none⟩) (Nat.le_succ _) (.int .i64 0) |>.setCell (p := ⟨w.heap.size + 1, 3, none⟩) (Nat.le_succ _) (.int .i64 0))
    clear r1 r2 hb3 hlt
    rw [hd]
    go_wp2
    (try simp only [Exit.inBlock, Exit.then])
    refine bodyPost_ret (res_ct rfl _ _ _ _ _ _ _ rfl rfl HR5.out Tryz.underlying92 rfl (by kernel_rfl)) rfl ?_
    exact ⟨by rw [HFD.out]; rfl, HBE.out⟩
  · have hd : decide (0 ≤ f) = true := decide_eq_true (by omega)
    obtain ⟨j, rfl⟩ : ∃ j : Nat, f = (j : Int) := ⟨f.toNat, by omega⟩
    have hjl : j < z.ls.length := by omega
    have hh3 := HH.out.below hb3
    have hlv := HZ.out.lv hjl
    obtain ⟨un, hun⟩ : ∃ c, (lvAt z.ls j).units = c := ⟨_, rfl⟩
    rw [hun] at hlv
    have HFD := Lib.hid (show z.back fon run = some (2, j, un, 1) from by unfold Zs.back; rw [HF.out, if_neg hfn, Int.toNat_natCast, hun])
    obtain ⟨b, o, hlA, gb, c0, c1, c2⟩ := load_at hh3.lr hjl
    rw [← lvAt_at hjl, hun] at c1
    have m := hh3.row
    rw [hlA] at m
    have mc := m.cell
    have hj0 : (0 : Int) ≤ (j : Int) := by omega
    have hj1 : (j : Int) < (x.loads.n : Int) := by have := hh3.ll; omega
    have HFR := Lib.hid (show Calls Tryz.prog 77 #[.int .i64 un, .int .i64 1] w3 fun e w' => e = .returned (.agg #[.int .i64 un, .int .i64 1]) ∧ Below w3.heap.size w3 w' from by
      have := frac_any un 1 w3 (by decide) (by decide) (by omega) (by omega)
      simpa using this)
    have HQ3 := Lib.hid r2
    clear r1 r2 hb3 hlt hh3 hlv hun c0 c2 m hlA gb hjl hfn
    rw [hd]
    go_wp2_with fail
    (with_reducible refine (HFR.out).mono ?_)
    rintro e w4 ⟨rfl, hb4⟩
    have r2 := HQ3.out.below hb4 HQ3.out.lt
    have HB4 := Lib.hid (HB3.out.trans (hb4.mono HB3.out.size))
    clear e2 f2
    have e2 := r2.cell; have f2 := r2.frozen
    have HR5 := Lib.hid (show Rw ((((w4.setCell ⟨w.heap.size + 1, 0, none⟩ (.int .i64 2)).setCell ⟨w.heap.size + 1, 1, none⟩ (.int .i64 (j : Int))).setCell ⟨w.heap.size + 1, 2, none⟩ (.int .i64 un)).setCell ⟨w.heap.size + 1, 3, none⟩ (.int .i64 1)) (w.heap.size + 1) 92 #[.int .i64 2, .int .i64 (j : Int), .int .i64 un, .int .i64 1] from (((r2.set 0 _).set 1 _).set 2 _).set 3 _)
    have HBE := Lib.hid (((HB4.out.setCell (p := ⟨w.heap.size + 1, 0, none⟩) (Nat.le_succ _) (.int .i64 2)).setCell (p := ⟨w.heap.size + 1, 1, none⟩) (Nat.le_succ _) (.int .i64 (j : Int))).setCell (p := ⟨w.heap.size + 1, 2, none⟩) (Nat.le_succ _) (.int .i64 un) |>.setCell (p := ⟨w.heap.size + 1, 3, none⟩) (Nat.le_succ _) (.int .i64 1))
    clear r2 hb4 e1 mc c1
    go_wp2
    (try simp only [Exit.inBlock, Exit.then])
    refine bodyPost_ret (res_ct rfl _ _ _ _ _ _ _ rfl rfl HR5.out Tryz.underlying92 rfl (by kernel_rfl)) rfl ?_
    exact ⟨by rw [HFD.out]; rfl, HBE.out⟩
end
end Go.Proofs.YtbnfnpakibkboaaGreat

namespace Go.Proofs.YtbnfnpakibkboaaGreat
set_option linter.unusedVariables false
set_option linter.unusedSimpArgs false
open Go.RowKit

theorem four_far {w : World} {k : Nat} {v0 v1 v2 v3 : Value} {j : Nat} (hj : j ≠ k) : ((((w.setCell ⟨k, 0, none⟩ v0).setCell ⟨k, 1, none⟩ v1).setCell ⟨k, 2, none⟩ v2).setCell ⟨k, 3, none⟩ v3).heap[j]? = w.heap[j]? :=
  (Below.heap_setCell _ _ _ j hj).trans ((Below.heap_setCell _ _ _ j hj).trans ((Below.heap_setCell _ _ _ j hj).trans (Below.heap_setCell _ _ _ j hj)))
set_option maxRecDepth 100000 in
set_option maxHeartbeats 8000000 in
theorem StA.lowC {w : World} {B sb : Nat} {x : SL} {C : Nat → Ci} {V : Nat → Vi} {K' : Nat → Bool} {z : Zs} {fon run : List Bool} {xs : List Pm} (h : StA w B sb x C V K' z fon run xs (fun j => j < z.np)) (hz : z.Ok) (hsv : z.solved fon run = true) :
    Calls Tryz.prog 100 #[.pointer (some ⟨sb, 0, none⟩)] w fun e w' => RuP (z.low fon run) w e w' := by
  have hll := h.ll; have hrn := h.rn; have hrr := h.rr.2
  obtain ⟨pb, hpof, hpb, hpr⟩ := h.P
  obtain ⟨⟨lA, ln, lc⟩, hl⟩ : ∃ s, x.loads = s := ⟨_, rfl⟩
  obtain ⟨⟨rA, rn, rc⟩, hru⟩ : ∃ s, x.run = s := ⟨_, rfl⟩
  have hlr := h.lr; have hRr := h.rr.1
  rw [hl] at hll hlr
  rw [hru] at hrr hRr
  simp only at hll hrr hlr hRr
  have hle : rn = ln := by omega
  subst hle
  have hn40 : rn ≤ 40 := by have := loadsB_len hz.lb; have := hz.n40; omega
  have hpn : x.parts.n = x.np := by rw [(own_sl fPm_len h.X).2, h.xl, h.np]
  have hnp40 : x.np ≤ 40 := by have := Zs.np_le (z := z); have := hz.n40; have := h.np; omega
  have HNP := Lib.hid h.np
  have HR := Lib.hid (show ∀ wx, Below w.heap.size w wx → Rw wx sb 110 #[.int .i64 (x.N : Int), .slice x.wires.A x.wires.n x.wires.c, .slice x.feeds.A x.feeds.n x.feeds.c, .int .i64 z.g.least, .slice x.fon.A x.fon.n x.fon.c, .slice x.sw.A x.sw.n x.sw.c, .slice lA rn lc, .slice rA rn rc, .slice x.parts.A x.np x.parts.c, .slice (some ⟨pb, 0, none⟩) z.N z.N, .slice (some ⟨x.cb, 0, none⟩) x.np x.np, .slice (some ⟨x.vb, 0, none⟩) x.np x.np, .slice (some ⟨x.kb, 0, none⟩) x.np x.np] from fun wx hb => by
    have := (h.below hb).row
    rw [hl, hru, hpof, hpn, h.le] at this
    exact this)
  have HP := Lib.hid (show ∀ wx, Below w.heap.size w wx → Rf wx pb 3 z.N (fun c => .int .i64 (z.pof c : Int)) from fun wx hb => hpr.below hb hpr.lt)
  have HH := Lib.hid h; have HZ := Lib.hid hz; have HL := Lib.hid hlr; have HRU := Lib.hid hRr; have HLL := Lib.hid hll; have HRL := Lib.hid (show run.length = rn by omega); have HSV := Lib.hid hsv
  have hle0 := hz.le0; have hle1 := hz.le1
  have hb1 := ((Below.refl w.heap.size w).alloc (Nat.le_refl _) (.cells #[.pointer (some ⟨sb, 0, none⟩)] 97)).alloc (by simp) (.cells #[.int .i64 0, .int .i64 0, .int .i64 0, .int .i64 0] 92)
  obtain ⟨q1, q2⟩ := rows2 w #[.pointer (some ⟨sb, 0, none⟩)] #[.int .i64 0, .int .i64 0, .int .i64 0, .int .i64 0] 97 92
  have hz1 : ((w.alloc (.cells #[.pointer (some ⟨sb, 0, none⟩)] 97)).alloc (.cells #[.int .i64 0, .int .i64 0, .int .i64 0, .int .i64 0] 92)).heap.size = w.heap.size + 2 := by simp
  obtain ⟨W1, hW1⟩ : ∃ y, (w.alloc (.cells #[.pointer (some ⟨sb, 0, none⟩)] 97)).alloc (.cells #[.int .i64 0, .int .i64 0, .int .i64 0, .int .i64 0] 92) = y := ⟨_, rfl⟩
  rw [hW1] at hb1 q1 q2 hz1
  obtain ⟨i4, hi4, hz4, hs4, hy4⟩ := info_parts info4
  have hmk := run_mk (P := Tryz.prog) 26 4 i4 _ 1 Tryz.underlying26 hi4 hz4 hs4 (x.np : Int) (x.np : Int) x.np x.np rfl rfl (by omega) (by rw [hy4]; omega) (by omega) W1
  rw [Nat.mul_one] at hmk
  have qw := (Rf.made1 W1 (.bool false) x.np 4).alloc (.cells #[.slice (some ⟨W1.heap.size, 0, none⟩) x.np x.np] 26)
  have q4 := Rw.new (W1.alloc (.cells (madeCells #[.bool false] x.np) 4)) #[.slice (some ⟨W1.heap.size, 0, none⟩) x.np x.np] 26
  rw [World.size_alloc] at q4
  have hb2 := hb1.trans ((((Below.refl W1.heap.size W1).alloc (Nat.le_refl _) (.cells (madeCells #[.bool false] x.np) 4)).alloc (by simp) (.cells #[.slice (some ⟨W1.heap.size, 0, none⟩) x.np x.np] 26)).mono hb1.size)
  have qa1 := (q1.alloc (.cells (madeCells #[.bool false] x.np) 4)).alloc (.cells #[.slice (some ⟨W1.heap.size, 0, none⟩) x.np x.np] 26)
  have qa2 := (q2.alloc (.cells (madeCells #[.bool false] x.np) 4)).alloc (.cells #[.slice (some ⟨W1.heap.size, 0, none⟩) x.np x.np] 26)
  obtain ⟨gw, hgw⟩ : ∃ g, W1.heap.size = g := ⟨_, rfl⟩
  rw [hgw] at qw q4 hb2 qa1 qa2 hmk hz1
  have m0 := q1.cell
  have m1 := (HR.out _ hb1).cell
  obtain ⟨W2, hW2⟩ : ∃ y, (W1.alloc (.cells (madeCells #[.bool false] x.np) 4)).alloc (.cells #[.slice (some ⟨gw, 0, none⟩) x.np x.np] 26) = y := ⟨_, rfl⟩
  rw [hW2] at qw q4 hb2 qa1 qa2
  have m2 := qa1.cell; have m3 := (HR.out _ hb2).cell
  have HGW := Lib.hid hz1
  have HQ1 := Lib.hid qa1; have HQ2 := Lib.hid qa2; have HQ4 := Lib.hid q4; have HQW := Lib.hid qw; have HB2 := Lib.hid hb2
  clear h hz hsv hlr hRr hll hrn hrr hpof hpb hpr hl hru hb1 q1 q2 hb2 qw q4 qa1 qa2 hpn hz1
  go_enter Tryz.func100, Tryz.ntmps100
  go_wp2
  clear m0 m1 m2 m3 hmk
  go_loopw [22] (fun s22 wr => ∃ k : Nat, k ≤ rn ∧ s22 = .int .i64 (k : Int) ∧ Rf wr gw 4 x.np (fun q => .bool (z.weak fon run k q)) ∧ Gr gw W2 wr) (fun s22 _ => rn - (intOf s22).toNat)
  case atStart => exact ⟨0, Nat.zero_le _, rfl, HQW.out.congr (fun q _ => rfl), Gr.refl _ _⟩
  case round =>
    obtain ⟨k, hk, rfl, hwk, hg⟩ := hrel
    have hgwn := HGW.out
    have hbw : Below w.heap.size w wr := HB2.out.trans ⟨hg.os, hg.tape, hg.output, hg.size, fun i hi => hg.blk (by have := HB2.out.size; omega) (by omega)⟩
    have r1 := hg.rw' HQ1.out (by omega); have r2 := hg.rw' HQ2.out (by omega); have r4 := hg.rw' HQ4.out (by omega)
    have HBW := Lib.hid hbw; have HR1 := Lib.hid r1; have HR2 := Lib.hid r2; have HR4 := Lib.hid r4; have HWK := Lib.hid hwk; have HGR := Lib.hid hg
    have hH := HH.out.below hbw
    by_cases hkn : k < rn
    · have hii : (k : Int) < (rn : Int) := by omega
      have hi0 : (0 : Int) ≤ (k : Int) := by omega
      have hab : (k : Int) + 1 ≤ 1000 := by omega
      have hkl : k < z.ls.length := by have := HLL.out; omega
      have hkr : k < run.length := by have := HRL.out; omega
      obtain ⟨b, o, rfl, gb, c0, c1, c2⟩ := load_at (HL.out.below hbw) hkl
      obtain ⟨rb, ro, rfl, grb, d0⟩ := bool_at (HRU.out.below hbw) hkr
      have hlv := HZ.out.lv hkl
      rw [← lvAt_at hkl] at c0 c1 c2
      rw [← runAt_at hkr] at d0
      obtain ⟨c, hc⟩ : ∃ c, (lvAt z.ls k).pl.toNat = c := ⟨_, rfl⟩
      rw [hc] at hlv
      obtain ⟨un, hun⟩ : ∃ c, (lvAt z.ls k).units = c := ⟨_, rfl⟩
      obtain ⟨rk, hrk⟩ : ∃ c, (lvAt z.ls k).rank = c := ⟨_, rfl⟩
      obtain ⟨br, hbr2⟩ : ∃ c, runAt run k = c := ⟨_, rfl⟩
      rw [← hlv.1] at c0
      rw [hun] at c1; rw [hrk] at c2; rw [hbr2] at d0
      obtain ⟨q, hq⟩ : ∃ q, z.pof c = q := ⟨_, rfl⟩
      have hqn : q < z.np := by rw [← hq]; exact HZ.out.pof_lt hlv.2.1
      have hcN := hlv.2.1
      have hvb := HZ.out.volt_bd (fon := fon) (run := run) hcN
      obtain ⟨⟨v1, v2⟩, hv⟩ : ∃ v, z.volt fon run c = v := ⟨_, rfl⟩
      rw [hv] at hvb
      simp only at hvb
      have hm : z.g.least * v2 ≤ 1000 * 300000000000000 := Int.mul_le_mul hle1 hvb.2.1 (by omega) (by decide)
      have hm0 : 0 ≤ z.g.least * v2 := Int.mul_nonneg hle0 (by omega)
      have hmw : wrap64 (z.g.least * v2) = z.g.least * v2 := by unfold wrap64; omega
      have hmw2 : IntKind.i64.wrap (z.g.least * v2) = z.g.least * v2 := by rw [IntKind.wrap_i64]; omega
      have HWI := Lib.hid (show z.weakI fon run k = (br && (decide (0 < un) && decide (v1 < z.g.least * v2))) from by unfold Zs.weakI; rw [hbr2, hun, hc, hv])
      have HCQ := Lib.hid (show z.pof (lvAt z.ls k).pl.toNat = q from by rw [hc]; exact hq)
      have hcz : (c : Int) < (z.N : Int) := by omega
      have hcz0 : (0 : Int) ≤ (c : Int) := by omega
      have hqz : (q : Int) < (x.np : Int) := by have := HNP.out; omega
      have hqz0 : (0 : Int) ≤ (q : Int) := by omega
      have HKN := Lib.hid hkn
      have hb3 := (Below.refl wr.heap.size wr).alloc (Nat.le_refl _) (.cells #[.int .i64 (c : Int), .int .i64 un, .int .i64 rk] 79)
      have q3 := Rw.new wr #[.int .i64 (c : Int), .int .i64 un, .int .i64 rk] 79
      obtain ⟨w3, hw3⟩ : ∃ y, wr.alloc (.cells #[.int .i64 (c : Int), .int .i64 un, .int .i64 rk] 79) = y := ⟨_, rfl⟩
      rw [hw3] at hb3 q3
      have hbw3 := hbw.trans (hb3.mono hbw.size)
      have hgr3 : Gr gw W2 w3 := hg.trans (Gr.of_below hb3 (Nat.le_refl _) _)
      have HV := Lib.hid (by
        have := (HH.out.below hbw3).voltC HZ.out hcN (Zs.solved_at HSV.out (HZ.out.pof_lt hcN))
        rw [hv] at this; exact this)
      obtain ⟨g3, hg3⟩ : ∃ g, wr.heap.size = g := ⟨_, rfl⟩
      rw [hg3] at q3
      have hgl : gw < wr.heap.size := hwk.lt
      have HFX := Lib.hid (show ∀ wx, Below w3.heap.size w3 wx → Rw wx sb 110 #[.int .i64 (x.N : Int), .slice x.wires.A x.wires.n x.wires.c, .slice x.feeds.A x.feeds.n x.feeds.c, .int .i64 z.g.least, .slice x.fon.A x.fon.n x.fon.c, .slice x.sw.A x.sw.n x.sw.c, .slice (some ⟨b, o, none⟩) rn lc, .slice (some ⟨rb, ro, none⟩) rn rc, .slice x.parts.A x.np x.parts.c, .slice (some ⟨pb, 0, none⟩) z.N z.N, .slice (some ⟨x.cb, 0, none⟩) x.np x.np, .slice (some ⟨x.vb, 0, none⟩) x.np x.np, .slice (some ⟨x.kb, 0, none⟩) x.np x.np] ∧ wx.cell? ⟨rb, ro + k, none⟩ = some (.bool br) ∧ Rw wx g3 79 #[.int .i64 (c : Int), .int .i64 un, .int .i64 rk] ∧ wx.cell? ⟨pb, c, none⟩ = some (.int .i64 (q : Int)) ∧ Rw wx w.heap.size 97 #[.pointer (some ⟨sb, 0, none⟩)] ∧ Rw wx (gw + 1) 26 #[.slice (some ⟨gw, 0, none⟩) x.np x.np] ∧ Rf wx gw 4 x.np (fun q => .bool (z.weak fon run k q)) ∧ Gr gw W2 wx from fun wx hb => by
        have hp3 := HP.out _ (hbw3.trans (hb.mono hbw3.size))
        have hpc := hp3.cell hcN
        rw [hq] at hpc
        have hz3 := hb3.size
        exact ⟨HR.out wx (hbw3.trans (hb.mono hbw3.size)), far_cell (hb.5 rb (by have := hbw.size; omega)) (far_cell (hb3.5 rb (by have := hbw.size; omega)) d0), q3.below hb q3.lt, hpc, (r1.below hb3 r1.lt).below hb (by have := r1.lt; omega), (r4.below hb3 r4.lt).below hb (by have := r4.lt; omega), (hwk.below hb3 hwk.lt).below hb (by have := hwk.lt; omega), hgr3.trans (Gr.of_below hb (Nat.le_refl _) _)⟩)
      obtain ⟨f1, f2, f3, f4, f5, f6, f7, f8⟩ := HFX.out w3 (Below.refl _ _)
      have m3 := f3.cell; have m5 := f5.cell
      have r1c := r1.cell
      clear hwk hg hbw r1 r2 r4 hH hkn hk hkl hkr gb grb d0 hlv hc hun hrk hbr2 hq hqn hv hb3 q3 hbw3 hgr3 f1 f2 f3 f4 f5 f6 f7 f8 hgl hgwn hvb
      go_wp2_with fail
      (with_reducible refine (HV.out).mono ?_)
      rintro e w4 ⟨rfl, hb4⟩
      clear m3 m5 c0 c1 c2 r1c hw3 hg3
      obtain ⟨f1, f2, f3, f4, f5, f6, f7, f8⟩ := HFX.out w4 hb4
      have m1 := f1.cell; have m3 := f3.cell; have m5 := f5.cell; have m6 := f6.cell
      have HG8 := Lib.hid f8; have HW7 := Lib.hid f7
      clear f1 f3 f5 f6 f7 f8 hb4
      have HNO := Lib.hid (show ∀ hw : z.weakI fon run k = false, ∀ q', z.weak fon run (k + 1) q' = z.weak fon run k q' from fun hw q' => by rw [Zs.weak_succ, hw]; simp)
      cases br with
      | false =>
        have HNX := Lib.hid (show Rf w4 gw 4 x.np (fun q' => .bool (z.weak fon run (k + 1) q')) from HW7.out.congr (fun q' _ => by rw [HNO.out (by rw [HWI.out]; rfl) q']))
        clear f4 m6
        go_wp2
        refine ⟨⟨k + 1, by have := HKN.out; omega, by simp, HNX.out, HG8.out⟩, ?_⟩
        exact round_less HKN.out
      | true =>
        by_cases hun : (0 : Int) < un
        · by_cases hvl : v1 < z.g.least * v2
          · have hw7 := HW7.out
            have k7 := hw7.cell (show q < x.np by omega)
            have z7 := hw7.frozen q
            have HNX := Lib.hid (show Rf (w4.drew.setCell ⟨gw, q, none⟩ (.bool true)) gw 4 x.np (fun q' => .bool (z.weak fon run (k + 1) q')) from (Rf.set (show Rf w4.drew gw 4 x.np _ from hw7) q (.bool true)).congr (fun q' _ => by
              rw [Zs.weak_succ, HWI.out, HCQ.out, decide_eq_true hun, decide_eq_true hvl]
              by_cases e : q' = q
              · subst e; simp
              · have : (q == q') = false := by simp; omega
                rw [if_neg e, this]; simp))
            have HGN := Lib.hid (show Gr gw W2 (w4.drew.setCell ⟨gw, q, none⟩ (.bool true)) from HG8.out.drew.set (p := ⟨gw, q, none⟩) _ (.inl rfl))
            clear hw7
            go_upto_region 7 with (fail)
            refine wp_region_noPanic ?_
            go_region
            refine NoPanic.normal ?_
            (try simp only [Exit.inBlock, Exit.then])
            go_wp2
            refine ⟨⟨k + 1, by have := HKN.out; omega, by simp, HNX.out, HGN.out⟩, ?_⟩
            exact round_less HKN.out
          · have HNX := Lib.hid (show Rf w4 gw 4 x.np (fun q' => .bool (z.weak fon run (k + 1) q')) from HW7.out.congr (fun q' _ => by rw [HNO.out (by rw [HWI.out, decide_eq_false hvl]; simp) q']))
            clear f4 m6
            go_wp2
            refine ⟨⟨k + 1, by have := HKN.out; omega, by simp, HNX.out, HG8.out⟩, ?_⟩
            exact round_less HKN.out
        · have HNX := Lib.hid (show Rf w4 gw 4 x.np (fun q' => .bool (z.weak fon run (k + 1) q')) from HW7.out.congr (fun q' _ => by rw [HNO.out (by rw [HWI.out, decide_eq_false hun]; simp) q']))
          clear f4 m6
          go_wp2
          refine ⟨⟨k + 1, by have := HKN.out; omega, by simp, HNX.out, HG8.out⟩, ?_⟩
          exact round_less HKN.out
    · have hii : ¬ (k : Int) < (rn : Int) := by omega
      have hkk : k = z.ls.length := by have := HLL.out; omega
      subst hkk
      have HLE := Lib.hid (hH.least115C HZ.out (z.lowQ fon run) (gw + 1) w.heap.size (fun wx hb u hu => (hH.below hb).low1C HZ.out w.heap.size (gw + 1) gw (r1.below hb r1.lt) (r4.below hb r4.lt) (hwk.below hb hwk.lt) u hu))
      have hlt := leastZ_lt z.ls run (z.lowQ fon run) z.ls.length
      obtain ⟨f, hf⟩ : ∃ f, leastZ z.ls run (z.lowQ fon run) z.ls.length = f := ⟨_, rfl⟩
      rw [hf] at HLE hlt
      have HF := Lib.hid hf
      have e1 := r1.cell
      clear hwk hg hbw r1 r2 r4 hkn hk hf hgwn
      go_wp2_with fail
      (with_reducible refine (HLE.out).mono ?_)
      rintro e w3 ⟨rfl, hb3⟩
      clear e1
      have r1 := HR1.out.below hb3 HR1.out.lt
      have r2 := HR2.out.below hb3 HR2.out.lt
      have HB3 := Lib.hid (HBW.out.trans (hb3.mono HBW.out.size))
      by_cases hfn : f < 0
      · have e2 := r2.cell; have f2 := r2.frozen; have e1 := r1.cell
        have hd : decide (0 ≤ f) = false := decide_eq_false (by omega)
        have HFD := Lib.hid (show z.low fon run = none from by unfold Zs.low; rw [HF.out, if_pos hfn])
        have HR5 := Lib.hid (show Rw ((((w3.setCell ⟨w.heap.size + 1, 0, none⟩ (.int .i64 0)).setCell ⟨w.heap.size + 1, 1, none⟩ (.int .i64 0)).setCell ⟨w.heap.size + 1, 2, none⟩ (.int .i64 0)).setCell ⟨w.heap.size + 1, 3, none⟩ (.int .i64 0)) (w.heap.size + 1) 92 #[.int .i64 0, .int .i64 0, .int .i64 0, .int .i64 0] from (((r2.set 0 _).set 1 _).set 2 _).set 3 _)
        have HBE := Lib.hid (((HB3.out.setCell (p := ⟨w.heap.size + 1, 0, none⟩) (Nat.le_succ _) (.int .i64 0)).setCell (p := ⟨w.heap.size + 1, 1, none⟩) (Nat.le_succ _) (.int .i64 0)).setCell (p := ⟨w.heap.size + 1, 2, none⟩) (Nat.le_succ _) (.int .i64 0) |>.setCell (p := ⟨w.heap.size + 1, 3, none⟩) (Nat.le_succ _) (.int .i64 0))
        clear r1 r2 hb3 hlt hH
        rw [hd]
        go_wp2
        (try simp only [Exit.inBlock, Exit.then])
        refine bodyPost_ret (res_ct rfl _ _ _ _ _ _ _ rfl rfl HR5.out Tryz.underlying92 rfl (by kernel_rfl)) rfl ?_
        exact ⟨by rw [HFD.out]; rfl, HBE.out⟩
      · have hd : decide (0 ≤ f) = true := decide_eq_true (by omega)
        obtain ⟨j, rfl⟩ : ∃ j : Nat, f = (j : Int) := ⟨f.toNat, by omega⟩
        have hjl : j < z.ls.length := by omega
        have hh3 := HH.out.below HB3.out
        have hlv := HZ.out.lv hjl
        obtain ⟨c, hc⟩ : ∃ c, (lvAt z.ls j).pl.toNat = c := ⟨_, rfl⟩
        rw [hc] at hlv
        have hcN := hlv.2.1
        have hvb := HZ.out.volt_bd (fon := fon) (run := run) hcN
        obtain ⟨⟨v1, v2⟩, hv⟩ : ∃ v, z.volt fon run c = v := ⟨_, rfl⟩
        rw [hv] at hvb
        simp only at hvb
        obtain ⟨⟨a1, a2⟩, ha⟩ : ∃ v, redQ (v1, v2) = v := ⟨_, rfl⟩
        have HFD := Lib.hid (show z.low fon run = some (3, j, a1, a2) from by unfold Zs.low; rw [HF.out, if_neg hfn, Int.toNat_natCast, hc, hv, ha])
        obtain ⟨b, o, hlA, gb, c0, c1, c2⟩ := load_at (HL.out.below HB3.out) hjl
        subst hlA
        rw [← lvAt_at hjl, ← hlv.1] at c0
        have hj0 : (0 : Int) ≤ (j : Int) := by omega
        have hj1 : (j : Int) < (rn : Int) := by have := HLL.out; omega
        have HFRC := Lib.hid (show ∀ wx, Calls Tryz.prog 77 #[.int .i64 v1, .int .i64 v2] wx fun e w' => e = .returned (.agg #[.int .i64 a1, .int .i64 a2]) ∧ Below wx.heap.size wx w' from fun wx => by
          have := frac_any v1 v2 wx (by omega) (by omega) (by omega) (by omega)
          have e1 : a1 = v1 / (Int.gcd v1 v2 : Int) := congrArg Prod.fst ha.symm
          have e2 : a2 = v2 / (Int.gcd v1 v2 : Int) := congrArg Prod.snd ha.symm
          rw [e1, e2]; exact this)
        have HV := Lib.hid (show ∀ wx, Below w3.heap.size w3 wx → Calls Tryz.prog 78 #[.pointer (some ⟨sb, 0, none⟩), .int .i64 (c : Int)] wx fun e w' => e = .returned (.tuple #[.int .i64 v1, .int .i64 v2]) ∧ Below wx.heap.size wx w' from fun wx hb => by
          have := (hh3.below hb).voltC HZ.out hcN (Zs.solved_at HSV.out (HZ.out.pof_lt hcN))
          rw [hv] at this; exact this)
        have HRS := Lib.hid (show ∀ wx, Below w3.heap.size w3 wx → Rw wx (w.heap.size) 97 #[.pointer (some ⟨sb, 0, none⟩)] ∧ Rw wx (sb) 110 #[.int .i64 (x.N : Int), .slice x.wires.A x.wires.n x.wires.c, .slice x.feeds.A x.feeds.n x.feeds.c, .int .i64 z.g.least, .slice x.fon.A x.fon.n x.fon.c, .slice x.sw.A x.sw.n x.sw.c, .slice (some ⟨b, o, none⟩) rn lc, .slice rA rn rc, .slice x.parts.A x.np x.parts.c, .slice (some ⟨pb, 0, none⟩) z.N z.N, .slice (some ⟨x.cb, 0, none⟩) x.np x.np, .slice (some ⟨x.vb, 0, none⟩) x.np x.np, .slice (some ⟨x.kb, 0, none⟩) x.np x.np] ∧ wx.cell? ⟨b, o + j * 3, none⟩ = some (.int .i64 (c : Int)) from fun wx hb =>
          ⟨r1.below hb r1.lt, HR.out wx (HB3.out.trans (hb.mono HB3.out.size)), far_cell (hb.5 b (by have := HB3.out.size; omega)) c0⟩)
        have HSBL := Lib.hid (show sb ≠ w.heap.size + 1 ∧ b ≠ w.heap.size + 1 from ⟨by have := (HR.out w (Below.refl _ _)).lt; omega, by omega⟩)
        have HFR4 := Lib.hid (show ∀ wa wb : World, (∀ k, k ≠ w.heap.size + 1 → wb.heap[k]? = wa.heap[k]?) → (fun wx => Rw wx (w.heap.size) 97 #[.pointer (some ⟨sb, 0, none⟩)] ∧ Rw wx (sb) 110 #[.int .i64 (x.N : Int), .slice x.wires.A x.wires.n x.wires.c, .slice x.feeds.A x.feeds.n x.feeds.c, .int .i64 z.g.least, .slice x.fon.A x.fon.n x.fon.c, .slice x.sw.A x.sw.n x.sw.c, .slice (some ⟨b, o, none⟩) rn lc, .slice rA rn rc, .slice x.parts.A x.np x.parts.c, .slice (some ⟨pb, 0, none⟩) z.N z.N, .slice (some ⟨x.cb, 0, none⟩) x.np x.np, .slice (some ⟨x.vb, 0, none⟩) x.np x.np, .slice (some ⟨x.kb, 0, none⟩) x.np x.np] ∧ wx.cell? ⟨b, o + j * 3, none⟩ = some (.int .i64 (c : Int))) wa → (fun wx => Rw wx (w.heap.size) 97 #[.pointer (some ⟨sb, 0, none⟩)] ∧ Rw wx (sb) 110 #[.int .i64 (x.N : Int), .slice x.wires.A x.wires.n x.wires.c, .slice x.feeds.A x.feeds.n x.feeds.c, .int .i64 z.g.least, .slice x.fon.A x.fon.n x.fon.c, .slice x.sw.A x.sw.n x.sw.c, .slice (some ⟨b, o, none⟩) rn lc, .slice rA rn rc, .slice x.parts.A x.np x.parts.c, .slice (some ⟨pb, 0, none⟩) z.N z.N, .slice (some ⟨x.cb, 0, none⟩) x.np x.np, .slice (some ⟨x.vb, 0, none⟩) x.np x.np, .slice (some ⟨x.kb, 0, none⟩) x.np x.np] ∧ wx.cell? ⟨b, o + j * 3, none⟩ = some (.int .i64 (c : Int))) wb from fun wa wb hk hh =>
          ⟨(hk _ (by omega)).trans hh.1, (hk _ HSBL.out.1).trans hh.2.1, far_cell (hk _ HSBL.out.2) hh.2.2⟩)
        have HQ3 := Lib.hid r2
        clear r1 r2 hb3 hlt hh3 hlv hc hcN hvb hv ha c0 c1 c2 gb hjl hfn hH
        rw [hd]
        go_upto_region 12 with (fail)
        have hbq : Below w3.heap.size w3 w3.drew := (Below.refl _ _).drew
        have HS := Lib.hid (show (fun wx => Rw wx (w.heap.size) 97 #[.pointer (some ⟨sb, 0, none⟩)] ∧ Rw wx (sb) 110 #[.int .i64 (x.N : Int), .slice x.wires.A x.wires.n x.wires.c, .slice x.feeds.A x.feeds.n x.feeds.c, .int .i64 z.g.least, .slice x.fon.A x.fon.n x.fon.c, .slice x.sw.A x.sw.n x.sw.c, .slice (some ⟨b, o, none⟩) rn lc, .slice rA rn rc, .slice x.parts.A x.np x.parts.c, .slice (some ⟨pb, 0, none⟩) z.N z.N, .slice (some ⟨x.cb, 0, none⟩) x.np x.np, .slice (some ⟨x.vb, 0, none⟩) x.np x.np, .slice (some ⟨x.kb, 0, none⟩) x.np x.np] ∧ wx.cell? ⟨b, o + j * 3, none⟩ = some (.int .i64 (c : Int))) w3.drew from HRS.out _ hbq)
        refine wp_region_noPanic ?_
        refine wp_region_held_drew (S := fun wx => Rw wx (w.heap.size) 97 #[.pointer (some ⟨sb, 0, none⟩)] ∧ Rw wx (sb) 110 #[.int .i64 (x.N : Int), .slice x.wires.A x.wires.n x.wires.c, .slice x.feeds.A x.feeds.n x.feeds.c, .int .i64 z.g.least, .slice x.fon.A x.fon.n x.fon.c, .slice x.sw.A x.sw.n x.sw.c, .slice (some ⟨b, o, none⟩) rn lc, .slice rA rn rc, .slice x.parts.A x.np x.parts.c, .slice (some ⟨pb, 0, none⟩) z.N z.N, .slice (some ⟨x.cb, 0, none⟩) x.np x.np, .slice (some ⟨x.vb, 0, none⟩) x.np x.np, .slice (some ⟨x.kb, 0, none⟩) x.np x.np] ∧ wx.cell? ⟨b, o + j * 3, none⟩ = some (.int .i64 (c : Int))) (by kernel_rfl) HS.out (fun _ => ?_)
        refine hTk (i := 0) (d := 77) (v := .int .i64 (j : Int)) rfl rfl (Or.inl ⟨rfl, by rintro W' ⟨r0, r1, r2⟩; have ry0 := r0.cell; have ry1 := r1.cell; go_simp⟩) HS.out ?_
        simp only [Act.put, sB, sZ, sS]
        refine hTk (i := 1) (d := 78) (v := .pointer (some ⟨sb, 0, none⟩)) rfl rfl (Or.inl ⟨rfl, by rintro W' ⟨r0, r1, r2⟩; have ry0 := r0.cell; have ry1 := r1.cell; go_simp⟩) HS.out ?_
        simp only [Act.put, sB, sZ, sS]
        refine hTk (i := 2) (d := 79) (v := .pointer (some ⟨sb, 0, none⟩)) rfl rfl (Or.inl ⟨rfl, by rintro W' ⟨r0, r1, r2⟩; have ry0 := r0.cell; have ry1 := r1.cell; go_simp⟩) HS.out ?_
        simp only [Act.put, sB, sZ, sS]
        refine hTk (i := 3) (d := 80) (v := .pointer (some ⟨sb, 0, none⟩)) rfl rfl (Or.inl ⟨rfl, by rintro W' ⟨r0, r1, r2⟩; have ry0 := r0.cell; have ry1 := r1.cell; go_simp⟩) HS.out ?_
        simp only [Act.put, sB, sZ, sS]
        refine hTk (i := 4) (d := 81) (v := .pointer (some ⟨sb, 6, none⟩)) rfl rfl (Or.inl ⟨rfl, by rintro W' ⟨r0, r1, r2⟩; have ry0 := r0.cell; have ry1 := r1.cell; go_simp⟩) HS.out ?_
        simp only [Act.put, sB, sZ, sS]
        refine hTk (i := 5) (d := 82) (v := .slice (some ⟨b, o, none⟩) rn lc) rfl rfl (Or.inl ⟨rfl, by rintro W' ⟨r0, r1, r2⟩; have ry0 := r0.cell; have ry1 := r1.cell; go_simp⟩) HS.out ?_
        simp only [Act.put, sB, sZ, sS]
        refine hTk (i := 6) (d := 83) (v := .int .i64 (j : Int)) rfl rfl (Or.inl ⟨rfl, by rintro W' ⟨r0, r1, r2⟩; have ry0 := r0.cell; have ry1 := r1.cell; go_simp⟩) HS.out ?_
        simp only [Act.put, sB, sZ, sS]
        refine hTk (i := 7) (d := 84) (v := .pointer (some ⟨b, o + j * 3, none⟩)) rfl rfl (Or.inl ⟨rfl, by rintro W' ⟨r0, r1, r2⟩; have ry0 := r0.cell; have ry1 := r1.cell; go_simp⟩) HS.out ?_
        simp only [Act.put, sB, sZ, sS]
        refine hTk (i := 8) (d := 85) (v := .pointer (some ⟨b, o + j * 3, none⟩)) rfl rfl (Or.inl ⟨rfl, by rintro W' ⟨r0, r1, r2⟩; have ry0 := r0.cell; have ry1 := r1.cell; go_simp⟩) HS.out ?_
        simp only [Act.put, sB, sZ, sS]
        refine hTk (i := 9) (d := 86) (v := .int .i64 (c : Int)) rfl rfl (Or.inl ⟨rfl, by rintro W' ⟨r0, r1, r2⟩; have ry0 := r0.cell; have ry1 := r1.cell; go_simp⟩) HS.out ?_
        simp only [Act.put, sB, sZ, sS]
        refine wpAnyH_ready (rs := [10]) (by kernel_rfl) (by simp) ?_
        refine AllReadyH.cons rfl (fun K hK => ?_) AllReadyH.nil
        rw [if_pos (by rfl)]
        go_simp
        go_at_call 78
        (with_reducible refine (HV.out _ hbq).mono ?_)
        rintro e wc0 ⟨rfl, hbn⟩
        replace hbq := hbq.trans (hbn.mono hbq.size)
        clear hbn
        have HS := Lib.hid (show (fun wx => Rw wx (w.heap.size) 97 #[.pointer (some ⟨sb, 0, none⟩)] ∧ Rw wx (sb) 110 #[.int .i64 (x.N : Int), .slice x.wires.A x.wires.n x.wires.c, .slice x.feeds.A x.feeds.n x.feeds.c, .int .i64 z.g.least, .slice x.fon.A x.fon.n x.fon.c, .slice x.sw.A x.sw.n x.sw.c, .slice (some ⟨b, o, none⟩) rn lc, .slice rA rn rc, .slice x.parts.A x.np x.parts.c, .slice (some ⟨pb, 0, none⟩) z.N z.N, .slice (some ⟨x.cb, 0, none⟩) x.np x.np, .slice (some ⟨x.vb, 0, none⟩) x.np x.np, .slice (some ⟨x.kb, 0, none⟩) x.np x.np] ∧ wx.cell? ⟨b, o + j * 3, none⟩ = some (.int .i64 (c : Int))) wc0 from HRS.out _ hbq)
        refine hK.out _ _ HS.out (fun _ => ?_)
        clear hK K
        try simp only [Act.put, sB, sZ, sS]
        refine hTk (i := 11) (d := 88) (v := .int .i64 v1) rfl rfl (Or.inl ⟨rfl, by rintro W' ⟨r0, r1, r2⟩; have ry0 := r0.cell; have ry1 := r1.cell; go_simp⟩) HS.out ?_
        simp only [Act.put, sB, sZ, sS]
        refine hTk (i := 12) (d := 89) (v := .int .i64 v2) rfl rfl (Or.inl ⟨rfl, by rintro W' ⟨r0, r1, r2⟩; have ry0 := r0.cell; have ry1 := r1.cell; go_simp⟩) HS.out ?_
        simp only [Act.put, sB, sZ, sS]
        refine wpAnyH_ready (rs := [13]) (by kernel_rfl) (by simp) ?_
        refine AllReadyH.cons rfl (fun K hK => ?_) AllReadyH.nil
        rw [if_pos (by rfl)]
        go_simp
        go_at_call 77
        (with_reducible refine (HFRC.out _).mono ?_)
        rintro e wc1 ⟨rfl, hbn⟩
        replace hbq := hbq.trans (hbn.mono hbq.size)
        clear hbn
        have HS := Lib.hid (show (fun wx => Rw wx (w.heap.size) 97 #[.pointer (some ⟨sb, 0, none⟩)] ∧ Rw wx (sb) 110 #[.int .i64 (x.N : Int), .slice x.wires.A x.wires.n x.wires.c, .slice x.feeds.A x.feeds.n x.feeds.c, .int .i64 z.g.least, .slice x.fon.A x.fon.n x.fon.c, .slice x.sw.A x.sw.n x.sw.c, .slice (some ⟨b, o, none⟩) rn lc, .slice rA rn rc, .slice x.parts.A x.np x.parts.c, .slice (some ⟨pb, 0, none⟩) z.N z.N, .slice (some ⟨x.cb, 0, none⟩) x.np x.np, .slice (some ⟨x.vb, 0, none⟩) x.np x.np, .slice (some ⟨x.kb, 0, none⟩) x.np x.np] ∧ wx.cell? ⟨b, o + j * 3, none⟩ = some (.int .i64 (c : Int))) wc1 from HRS.out _ hbq)
        refine hK.out _ _ HS.out (fun _ => ?_)
        clear hK K
        try simp only [Act.put, sB, sZ, sS]
        refine hTk (i := 14) (d := 91) (v := .agg #[.int .i64 3, .int .i64 (j : Int), .int .i64 a1, .int .i64 a2]) rfl rfl (Or.inl ⟨rfl, by rintro W' ⟨r0, r1, r2⟩; have ry0 := r0.cell; have ry1 := r1.cell; go_simp⟩) HS.out ?_
        simp only [Act.put, sB, sZ, sS]
        refine wpAnyH_ready (rs := [15]) (by kernel_rfl) (by simp) ?_
        refine AllReadyH.cons rfl (fun K hK => ?_) AllReadyH.nil
        rw [if_pos (by rfl)]
        have r2 := HQ3.out.below hbq HQ3.out.lt
        have e2 := r2.cell; have f2 := r2.frozen
        go_simp
        have HR5 := Lib.hid (show Rw ((((wc1.setCell ⟨w.heap.size + 1, 0, none⟩ (.int .i64 3)).setCell ⟨w.heap.size + 1, 1, none⟩ (.int .i64 (j : Int))).setCell ⟨w.heap.size + 1, 2, none⟩ (.int .i64 a1)).setCell ⟨w.heap.size + 1, 3, none⟩ (.int .i64 a2)) (w.heap.size + 1) 92 #[.int .i64 3, .int .i64 (j : Int), .int .i64 a1, .int .i64 a2] from (((r2.set 0 _).set 1 _).set 2 _).set 3 _)
        have HBE := Lib.hid ((((HB3.out.trans (hbq.mono HB3.out.size)).setCell (p := ⟨w.heap.size + 1, 0, none⟩) (Nat.le_succ _) (.int .i64 3)).setCell (p := ⟨w.heap.size + 1, 1, none⟩) (Nat.le_succ _) (.int .i64 (j : Int))).setCell (p := ⟨w.heap.size + 1, 2, none⟩) (Nat.le_succ _) (.int .i64 a1) |>.setCell (p := ⟨w.heap.size + 1, 3, none⟩) (Nat.le_succ _) (.int .i64 a2))
        have HT := Lib.hid (show (fun wx => Rw wx (w.heap.size) 97 #[.pointer (some ⟨sb, 0, none⟩)] ∧ Rw wx (sb) 110 #[.int .i64 (x.N : Int), .slice x.wires.A x.wires.n x.wires.c, .slice x.feeds.A x.feeds.n x.feeds.c, .int .i64 z.g.least, .slice x.fon.A x.fon.n x.fon.c, .slice x.sw.A x.sw.n x.sw.c, .slice (some ⟨b, o, none⟩) rn lc, .slice rA rn rc, .slice x.parts.A x.np x.parts.c, .slice (some ⟨pb, 0, none⟩) z.N z.N, .slice (some ⟨x.cb, 0, none⟩) x.np x.np, .slice (some ⟨x.vb, 0, none⟩) x.np x.np, .slice (some ⟨x.kb, 0, none⟩) x.np x.np] ∧ wx.cell? ⟨b, o + j * 3, none⟩ = some (.int .i64 (c : Int))) ((((wc1.setCell ⟨w.heap.size + 1, 0, none⟩ (.int .i64 3)).setCell ⟨w.heap.size + 1, 1, none⟩ (.int .i64 (j : Int))).setCell ⟨w.heap.size + 1, 2, none⟩ (.int .i64 a1)).setCell ⟨w.heap.size + 1, 3, none⟩ (.int .i64 a2)) from HFR4.out _ _ (fun k hk => four_far hk) (HRS.out _ hbq))
        clear r2 e2 f2 HS
        have HS := HT
        refine hK.out _ _ HS.out (fun _ => ?_)
        clear hK K
        try simp only [Act.put, sB, sZ, sS]
        refine hTk (i := 16) (d := 3) (v := .bool true) rfl rfl (Or.inl ⟨rfl, by rintro W' ⟨r0, r1, r2⟩; have ry0 := r0.cell; have ry1 := r1.cell; go_simp⟩) HS.out ?_
        simp only [Act.put, sB, sZ, sS]
        refine wpAnyH_done (by kernel_rfl) ?_ _
        clear HS
        refine NoPanic.normal ?_
        (try simp only [Exit.inBlock, Exit.then])
        go_wp2
        (try simp only [Exit.inBlock, Exit.then])
        refine bodyPost_ret (res_ct rfl _ _ _ _ _ _ _ rfl rfl HR5.out Tryz.underlying92 rfl (by kernel_rfl)) rfl ?_
        exact ⟨by rw [HFD.out]; rfl, HBE.out⟩
end Go.Proofs.YtbnfnpakibkboaaGreat

namespace Go.Proofs.YtbnfnpakibkboaaGreat
set_option linter.unusedVariables false
set_option linter.unusedSimpArgs false
open Go.RowKit

def moZ (q : Nat → Int × Int) (lim : Nat → Int) (f : Int) : Int := if f < 0 then 0 else (q f.toNat).1 - lim f.toNat * (q f.toNat).2
def muZ (q : Nat → Int × Int) (f : Int) : Int := if f < 0 then 1 else (q f.toNat).2
theorem tripZ_step (q : Nat → Int × Int) (lim : Nat → Int) (k : Nat) {o : Int} (ho : (q k).1 - lim k * (q k).2 = o) : tripZ q lim (k + 1) = if 0 < o ∧ moZ q lim (tripZ q lim k) * (q k).2 < o * muZ q (tripZ q lim k) then (k : Int) else tripZ q lim k := by
  conv => lhs; unfold tripZ
  rw [ho]
  generalize tripZ q lim k = f
  unfold moZ muZ
  by_cases hf : f < 0
  · simp [hf]
  · simp [hf]
set_option maxRecDepth 100000 in
set_option maxHeartbeats 8000000 in
theorem StA.tripC {w : World} {B sb : Nat} {x : SL} {C : Nat → Ci} {V : Nat → Vi} {K' : Nat → Bool} {z : Zs} {fon run : List Bool} {xs : List Pm} (h : StA w B sb x C V K' z fon run xs (fun j => j < z.np)) (hz : z.Ok) (hsv : z.solved fon run = true) :
    Calls Tryz.prog 101 #[.pointer (some ⟨sb, 0, none⟩)] w fun e w' => RuP (z.trip fon run) w e w' := by
  obtain ⟨⟨fA, nf, fc⟩, hfe⟩ : ∃ s, x.feeds = s := ⟨_, rfl⟩
  have hfl : z.g.feeds.length = nf := by have := h.g.fl; rw [hfe] at this; exact this
  have hfs := h.gr.fs
  rw [hfe] at hfs
  simp only at hfs
  have hn12 : nf ≤ 12 := by have := (feedsB_nd hz.fb).2; omega
  have HR := Lib.hid (show ∀ wx, Below w.heap.size w wx → Rw wx sb 110 #[.int .i64 (x.N : Int), .slice x.wires.A x.wires.n x.wires.c, .slice fA nf fc, .int .i64 x.least, .slice x.fon.A x.fon.n x.fon.c, .slice x.sw.A x.sw.n x.sw.c, .slice x.loads.A x.loads.n x.loads.c, .slice x.run.A x.run.n x.run.c, .slice x.parts.A x.parts.n x.parts.c, .slice x.pof.A x.pof.n x.pof.c, .slice (some ⟨x.cb, 0, none⟩) x.np x.np, .slice (some ⟨x.vb, 0, none⟩) x.np x.np, .slice (some ⟨x.kb, 0, none⟩) x.np x.np] from fun wx hb => by
    have := (h.below hb).row
    rw [hfe] at this
    exact this)
  have HH := Lib.hid h; have HZ := Lib.hid hz; have HFS := Lib.hid hfs; have HFL := Lib.hid hfl; have HSV := Lib.hid hsv
  have hb1 := (Below.refl w.heap.size w).alloc (Nat.le_refl _) (.cells #[.int .i64 0, .int .i64 0, .int .i64 0, .int .i64 0] 92)
  have q1 := Rw.new w #[.int .i64 0, .int .i64 0, .int .i64 0, .int .i64 0] 92
  have m0 := (HR.out w (Below.refl _ _)).cell
  have m1 := (HR.out _ hb1).cell
  obtain ⟨W1, hW1⟩ : ∃ y, w.alloc (.cells #[.int .i64 0, .int .i64 0, .int .i64 0, .int .i64 0] 92) = y := ⟨_, rfl⟩
  rw [hW1] at hb1 q1 m1
  have HBW := Lib.hid hb1; have HQ1 := Lib.hid q1
  have HAM := Lib.hid (show ∀ f, f < nf → ∀ wx, Below w.heap.size w wx → Calls Tryz.prog 79 #[.pointer (some ⟨sb, 0, none⟩), .int .i64 (f : Int)] wx fun e w' => e = .returned (.tuple #[.int .i64 (z.amp fon run f).1, .int .i64 (z.amp fon run f).2]) ∧ Below wx.heap.size wx w' from fun f hf wx hb => (h.below hb).ampC hz (by omega) (Zs.solved_at hsv (hz.pof_lt (hz.fpl_at (by omega)).1)))
  clear h hz hsv hfs hfl hfe hb1 q1
  obtain ⟨Q, hQ⟩ : ∃ Q, z.amp fon run = Q := ⟨_, rfl⟩
  have HBD := Lib.hid (show ∀ f, f < nf → 0 < (Q f).2 ∧ (Q f).2 ≤ 300000000000000 ∧ 0 ≤ (Q f).1 ∧ (Q f).1 ≤ 2920000000000000000 ∧ 0 ≤ limZ z f ∧ limZ z f ≤ 2000 from fun f hf => by
    have hfl := HFL.out
    have h1 := HZ.out.amp_bd (fon := fon) (run := run) (f := f) (by omega)
    rw [hQ] at h1
    have h2 := feedsB_at HZ.out.fb (List.getElem_mem (show f < z.g.feeds.length by omega))
    have h3 : limZ z f = (z.g.feeds[f]'(by omega)).limit := by unfold limZ fvAt; rw [List.getElem?_eq_getElem (by omega)]; rfl
    rw [h3]
    omega)
  have HTP := Lib.hid (show z.trip fon run = if tripZ Q (limZ z) nf < 0 then none else some (4, (tripZ Q (limZ z) nf).toNat, redQ (Q (tripZ Q (limZ z) nf).toNat)) from by unfold Zs.trip; rw [hQ, HFL.out])
  rw [hQ] at HAM
  clear hQ
  go_enter Tryz.func101, Tryz.ntmps101
  go_wp2
  clear m0 m1
  go_loopw [4, 5, 6, 17] (fun s4 s5 s6 s17 wr => ∃ k : Nat, k ≤ nf ∧ s4 = .int .i64 (tripZ Q (limZ z) k) ∧ s5 = .int .i64 (moZ Q (limZ z) (tripZ Q (limZ z) k)) ∧ s6 = .int .i64 (muZ Q (tripZ Q (limZ z) k)) ∧ s17 = .int .i64 (k : Int) ∧ Below W1.heap.size W1 wr) (fun _ _ _ s17 _ => nf - (intOf s17).toNat)
  case atStart => exact ⟨0, Nat.zero_le _, rfl, rfl, rfl, rfl, Below.refl _ _⟩
  case round =>
    obtain ⟨k, hk, h4, h5, h6, rfl, hbr⟩ := hrel
    have htl := tripZ_lt Q (limZ z) k
    have hst := fun o ho => tripZ_step Q (limZ z) k (o := o) ho
    obtain ⟨f, hf⟩ : ∃ f, tripZ Q (limZ z) k = f := ⟨_, rfl⟩
    rw [hf] at h4 h5 h6 htl hst
    obtain ⟨mo, hmo⟩ : ∃ f', moZ Q (limZ z) f = f' := ⟨_, rfl⟩
    obtain ⟨mu, hmu⟩ : ∃ f', muZ Q f = f' := ⟨_, rfl⟩
    rw [hmo] at h5 hst; rw [hmu] at h6 hst
    subst h4; subst h5; subst h6
    have HF := Lib.hid hf
    have HMO := Lib.hid (And.intro hmo hmu)
    by_cases hkn : k < nf
    · have hii : (k : Int) < (nf : Int) := by omega
      have hi0 : (0 : Int) ≤ (k : Int) := by omega
      have hab : (k : Int) + 1 ≤ 1000 := by omega
      have hkl : k < z.g.feeds.length := by have := HFL.out; omega
      have hbw := HBW.out.trans (hbr.mono HBW.out.size)
      obtain ⟨b, o, rfl, gb, c0, c1, c2, c3⟩ := feed_at (HFS.out.below hbw) hkl
      have hlm : (z.g.feeds[k]).limit = limZ z k := by unfold limZ fvAt; rw [List.getElem?_eq_getElem hkl]; rfl
      obtain ⟨⟨fp, fv, fs, lm⟩, hfx⟩ : ∃ y, z.g.feeds[k] = y := ⟨_, rfl⟩
      rw [hfx] at c0 c1 c2 c3 hlm
      simp only at c0 c1 c2 c3 hlm
      have hbd := HBD.out k hkn
      rw [← hlm] at hbd
      obtain ⟨⟨a, d⟩, had⟩ : ∃ y, Q k = y := ⟨_, rfl⟩
      have HA := Lib.hid (HAM.out k hkn)
      rw [had] at hbd HA hst
      rw [← hlm] at hst
      simp only at hbd hst
      have hm : lm * d ≤ 2000 * 300000000000000 := Int.mul_le_mul hbd.2.2.2.2.2 hbd.2.1 (by omega) (by decide)
      have hm0 : 0 ≤ lm * d := Int.mul_nonneg hbd.2.2.2.2.1 (by omega)
      have hw1 : wrap64 (lm * d) = lm * d := by unfold wrap64; omega
      have hw2 : wrap64 (a - lm * d) = a - lm * d := by unfold wrap64; omega
      have hw3 : IntKind.i64.wrap (lm * d) = lm * d := by rw [IntKind.wrap_i64]; omega
      have hw4 : IntKind.i64.wrap (a - lm * d) = a - lm * d := by rw [IntKind.wrap_i64]; omega
      have HST := Lib.hid (hst (a - lm * d) rfl)
      obtain ⟨ov, hov⟩ : ∃ v, a - lm * d = v := ⟨_, rfl⟩
      rw [hov] at hw2 hw4 HST
      have hovb : ov ≤ 2920000000000000000 := by omega
      have HOV := Lib.hid (show (Q k).1 - limZ z k * (Q k).2 = ov from by rw [had, ← hlm]; exact hov)
      have HQD := Lib.hid (show (Q k).2 = d from by rw [had])
      have hmob : 0 ≤ mo ∧ mo ≤ 2920000000000000000 ∧ 0 < mu ∧ mu ≤ 300000000000000 := by
        rw [← hmo, ← hmu]
        unfold moZ muZ
        by_cases hfn : f < 0
        · rw [if_pos hfn, if_pos hfn]; omega
        · rw [if_neg hfn, if_neg hfn]
          have h1 := HBD.out f.toNat (by omega)
          have h2 := htl.2.2 (by omega)
          have h3 : 0 ≤ limZ z f.toNat * (Q f.toNat).2 := Int.mul_nonneg h1.2.2.2.2.1 (by omega)
          omega
      have HKN := Lib.hid hkn
      have hb3 := (Below.refl wr.heap.size wr).alloc (Nat.le_refl _) (.cells #[.int .i64 fp, .int .i64 fv, .int .i64 fs, .int .i64 lm] 58)
      have q3 := Rw.new wr #[.int .i64 fp, .int .i64 fv, .int .i64 fs, .int .i64 lm] 58
      obtain ⟨w3, hw3'⟩ : ∃ y, wr.alloc (.cells #[.int .i64 fp, .int .i64 fv, .int .i64 fs, .int .i64 lm] 58) = y := ⟨_, rfl⟩
      rw [hw3'] at hb3 q3
      have hbw3 := hbw.trans (hb3.mono hbw.size)
      have HB3 := Lib.hid (hbr.trans (hb3.mono hbr.size))
      have HAC := Lib.hid (HA.out w3 hbw3)
      have HQ3 := Lib.hid q3
      have q3c := q3.cell
      have hdb : 0 < d ∧ d ≤ 300000000000000 := ⟨hbd.1, hbd.2.1⟩
      have HAX := Lib.hid hov
      clear hbr hkn hk hkl hbw gb hlm hfx hbd had hb3 q3 hbw3 hmo hmu hf htl hst hm hm0
      go_wp2_with fail
      (with_reducible refine (HAC.out).mono ?_)
      rintro e w4 ⟨rfl, hb4⟩
      have q4 := HQ3.out.below hb4 HQ3.out.lt
      have q4c := q4.cell
      have HB4 := Lib.hid (HB3.out.trans (hb4.mono HB3.out.size))
      have hov := HAX.out
      clear c0 c1 c2 c3 hw3' q3c q4 hb4
      by_cases hop : 0 < ov
      · obtain ⟨X, hX⟩ : ∃ X : Nat, ov = (X : Int) := ⟨ov.toNat, by omega⟩
        obtain ⟨D, hD⟩ : ∃ X : Nat, d = (X : Int) := ⟨d.toNat, by omega⟩
        obtain ⟨M, hM⟩ : ∃ X : Nat, mo = (X : Int) := ⟨mo.toNat, by omega⟩
        obtain ⟨U, hU⟩ : ∃ X : Nat, mu = (X : Int) := ⟨mu.toNat, by omega⟩
        have HCP := Lib.hid (show ∀ wx, Calls Tryz.prog 116 #[.int .i64 ov, .int .i64 d, .int .i64 mo, .int .i64 mu] wx fun e w' => e = .returned (.int .i64 (cmpI (ov * mu) (mo * d))) ∧ Below wx.heap.size wx w' from fun wx => by
          have := compare_any X D M U (by omega) (by omega) (by omega) (by omega) wx
          rw [hX, hD, hM, hU]
          rw [Int.natCast_mul, Int.natCast_mul] at this
          exact this)
        clear hX hD hM hU
        by_cases hgt : mo * d < ov * mu
        · have hc : cmpI (ov * mu) (mo * d) = 1 := by unfold cmpI; rw [if_neg (by omega), if_neg (by omega)]
          rw [hc] at HCP
          have HN := Lib.hid (show tripZ Q (limZ z) (k + 1) = (k : Int) from by rw [HST.out, if_pos ⟨hop, hgt⟩])
          have HN2 := Lib.hid (show moZ Q (limZ z) (tripZ Q (limZ z) (k + 1)) = ov ∧ muZ Q (tripZ Q (limZ z) (k + 1)) = d from by
            rw [HN.out]; unfold moZ muZ
            rw [if_neg (by omega), if_neg (by omega), Int.toNat_natCast]; exact ⟨HOV.out, HQD.out⟩)
          clear hgt hc
          go_wp2_with fail
          (with_reducible refine (HCP.out _).mono ?_)
          rintro e w5 ⟨rfl, hb5⟩
          have HB5 := Lib.hid (HB4.out.trans (hb5.mono HB4.out.size))
          clear hb5
          go_wp2
          refine ⟨⟨k + 1, by have := HKN.out; omega, by rw [HN.out], by rw [HN2.out.1], by rw [HN2.out.2], by simp, HB5.out⟩, ?_⟩
          exact round_less HKN.out
        · obtain ⟨cc, hcc⟩ : ∃ cc, cmpI (ov * mu) (mo * d) = cc := ⟨_, rfl⟩
          have hc : ¬ (0 : Int) < cc := by rw [← hcc]; unfold cmpI; split <;> (try split) <;> omega
          rw [hcc] at HCP
          have HN := Lib.hid (show tripZ Q (limZ z) (k + 1) = f from by rw [HST.out, if_neg (fun h => hgt h.2)])
          clear hgt hcc
          go_wp2_with fail
          (with_reducible refine (HCP.out _).mono ?_)
          rintro e w5 ⟨rfl, hb5⟩
          have HB5 := Lib.hid (HB4.out.trans (hb5.mono HB4.out.size))
          clear hb5
          go_wp2
          refine ⟨⟨k + 1, by have := HKN.out; omega, by rw [HN.out], by rw [HN.out, HMO.out.1], by rw [HN.out, HMO.out.2], by simp, HB5.out⟩, ?_⟩
          exact round_less HKN.out
      · have HN := Lib.hid (show tripZ Q (limZ z) (k + 1) = f from by rw [HST.out, if_neg (fun h => hop h.1)])
        go_wp2
        refine ⟨⟨k + 1, by have := HKN.out; omega, by rw [HN.out], by rw [HN.out, HMO.out.1], by rw [HN.out, HMO.out.2], by simp, HB4.out⟩, ?_⟩
        exact round_less HKN.out
    · have hii : ¬ (k : Int) < (nf : Int) := by omega
      have hkk : k = nf := by omega
      have hHF : tripZ Q (limZ z) nf = f := by rw [← hkk]; exact hf
      have hq := HQ1.out.below hbr HQ1.out.lt
      have hbw := HBW.out.trans (hbr.mono HBW.out.size)
      have e2 := hq.cell; have f2 := hq.frozen
      have HBE0 := Lib.hid hbw
      by_cases hfn : f < 0
      · have HFD := Lib.hid (show z.trip fon run = none from by rw [HTP.out, hHF, if_pos hfn])
        have HR5 := Lib.hid (show Rw ((((wr.setCell ⟨w.heap.size, 0, none⟩ (.int .i64 0)).setCell ⟨w.heap.size, 1, none⟩ (.int .i64 0)).setCell ⟨w.heap.size, 2, none⟩ (.int .i64 0)).setCell ⟨w.heap.size, 3, none⟩ (.int .i64 0)) w.heap.size 92 #[.int .i64 0, .int .i64 0, .int .i64 0, .int .i64 0] from (((hq.set 0 _).set 1 _).set 2 _).set 3 _)
        have HBE := Lib.hid (((hbw.setCell (p := ⟨w.heap.size, 0, none⟩) (Nat.le_refl _) (.int .i64 0)).setCell (p := ⟨w.heap.size, 1, none⟩) (Nat.le_refl _) (.int .i64 0)).setCell (p := ⟨w.heap.size, 2, none⟩) (Nat.le_refl _) (.int .i64 0) |>.setCell (p := ⟨w.heap.size, 3, none⟩) (Nat.le_refl _) (.int .i64 0))
        clear hbr hq hbw hkk hkn hk htl hst hmo hmu hf hHF
        go_wp2
        (try simp only [Exit.inBlock, Exit.then])
        refine bodyPost_ret (res_ct rfl _ _ _ _ _ _ _ rfl rfl HR5.out Tryz.underlying92 rfl (by kernel_rfl)) rfl ?_
        exact ⟨by rw [HFD.out]; rfl, HBE.out⟩
      · obtain ⟨j, rfl⟩ : ∃ j : Nat, f = (j : Int) := ⟨f.toNat, by omega⟩
        have hjn : j < nf := by omega
        have hbd := HBD.out j hjn
        obtain ⟨⟨v1, v2⟩, hv⟩ : ∃ v, Q j = v := ⟨_, rfl⟩
        have HAC := Lib.hid (HAM.out j hjn wr hbw)
        rw [hv] at hbd HAC
        simp only at hbd
        obtain ⟨⟨a1, a2⟩, ha⟩ : ∃ v, redQ (v1, v2) = v := ⟨_, rfl⟩
        have HFD := Lib.hid (show z.trip fon run = some (4, j, a1, a2) from by rw [HTP.out, hHF, if_neg hfn, Int.toNat_natCast, hv, ha])
        have HFRC := Lib.hid (show ∀ wx, Calls Tryz.prog 77 #[.int .i64 v1, .int .i64 v2] wx fun e w' => e = .returned (.agg #[.int .i64 a1, .int .i64 a2]) ∧ Below wx.heap.size wx w' from fun wx => by
          have := frac_any v1 v2 wx (by omega) (by omega) (by omega) (by omega)
          have e1 : a1 = v1 / (Int.gcd v1 v2 : Int) := congrArg Prod.fst ha.symm
          have e2 : a2 = v2 / (Int.gcd v1 v2 : Int) := congrArg Prod.snd ha.symm
          rw [e1, e2]; exact this)
        have HQ := Lib.hid hq
        have hj0 : ¬ (j : Int) < 0 := by omega
        clear hbr hq hbw hkk hkn hk htl hst hmo hmu hf hHF hbd hv ha hjn
        go_wp2_with fail
        (with_reducible refine (HAC.out).mono ?_)
        rintro e w4 ⟨rfl, hb4⟩
        clear e2 f2
        go_wp2_with fail
        (with_reducible refine (HFRC.out _).mono ?_)
        rintro e w5 ⟨rfl, hb5⟩
        have hb45 := hb4.trans (hb5.mono hb4.size)
        have r2 := HQ.out.below hb45 HQ.out.lt
        have hbw := HBE0.out.trans (hb45.mono HBE0.out.size)
        have e2 := r2.cell; have f2 := r2.frozen
        have HR5 := Lib.hid (show Rw ((((w5.setCell ⟨w.heap.size, 0, none⟩ (.int .i64 4)).setCell ⟨w.heap.size, 1, none⟩ (.int .i64 (j : Int))).setCell ⟨w.heap.size, 2, none⟩ (.int .i64 a1)).setCell ⟨w.heap.size, 3, none⟩ (.int .i64 a2)) w.heap.size 92 #[.int .i64 4, .int .i64 (j : Int), .int .i64 a1, .int .i64 a2] from (((r2.set 0 _).set 1 _).set 2 _).set 3 _)
        have HBE := Lib.hid (((hbw.setCell (p := ⟨w.heap.size, 0, none⟩) (Nat.le_refl _) (.int .i64 4)).setCell (p := ⟨w.heap.size, 1, none⟩) (Nat.le_refl _) (.int .i64 (j : Int))).setCell (p := ⟨w.heap.size, 2, none⟩) (Nat.le_refl _) (.int .i64 a1) |>.setCell (p := ⟨w.heap.size, 3, none⟩) (Nat.le_refl _) (.int .i64 a2))
        clear hb4 hb5 hb45 r2 hbw
        go_wp2
        (try simp only [Exit.inBlock, Exit.then])
        refine bodyPost_ret (res_ct rfl _ _ _ _ _ _ _ rfl rfl HR5.out Tryz.underlying92 rfl (by kernel_rfl)) rfl ?_
        exact ⟨by rw [HFD.out]; rfl, HBE.out⟩
end Go.Proofs.YtbnfnpakibkboaaGreat

namespace Go.Proofs.YtbnfnpakibkboaaGreat
set_option linter.unusedVariables false
set_option linter.unusedSimpArgs false
open Go.RowKit

theorem tkF_from {ns : List Nat} {ls : List Lv} {j : Nat} (h : tkF ns ls j ≠ 0) : ∃ x ∈ ls, x.pl ∈ nI ns ∧ (nI ns).idxOf x.pl = j ∧ x.units = tkF ns ls j := by
  unfold tkF at h ⊢
  have key : ∀ (l : List Lv) (f : Nat → Int), l.foldl (tkStep ns) f j = f j ∨ ∃ x ∈ l, x.pl ∈ nI ns ∧ (nI ns).idxOf x.pl = j ∧ x.units = l.foldl (tkStep ns) f j := by
    intro l
    induction l with
    | nil => intro f; left; rfl
    | cons x l ih =>
      intro f
      rw [List.foldl_cons]
      rcases ih (tkStep ns f x) with e | ⟨y, hy, h1, h2, h3⟩
      · rw [e]
        unfold tkStep
        split
        · rename_i hc
          right; exact ⟨x, by simp, hc.1, hc.2, rfl⟩
        · left; rfl
      · right; exact ⟨y, by simp [hy], h1, h2, h3⟩
  rcases key ls (fun _ => 0) with e | e
  · exact absurd e h
  · exact e
theorem runL_from {ls : List Lv} {run : List Bool} {x : Lv} (hx : x ∈ runL ls run ls.length) : ∃ m, m < ls.length ∧ lvAt ls m = x ∧ runAt run m = true := by
  unfold runL at hx
  obtain ⟨⟨u, b⟩, hm, rfl⟩ := List.mem_map.1 hx
  obtain ⟨hm1, hb⟩ := List.mem_filter.1 hm
  obtain ⟨m, hm2, e⟩ := List.getElem_of_mem (List.mem_of_mem_take hm1)
  rw [List.length_zip] at hm2
  rw [List.getElem_zip] at e
  injection e with e1 e2
  simp only at hb
  refine ⟨m, by omega, ?_, ?_⟩
  · rw [lvAt_at (by omega)]; exact e1
  · rw [runAt_at (by omega), e2, hb]
theorem leastZ_none {ls : List Lv} {run : List Bool} {m : Lv → Bool} {n : Nat} (h : leastZ ls run m n < 0) : ∀ k, k < n → (runAt run k && m (lvAt ls k)) = false := by
  induction n with
  | zero => intro k hk; omega
  | succ n ih =>
    unfold leastZ at h
    split at h
    · omega
    · rename_i hc
      intro k hk
      rcases Nat.lt_or_ge k n with q | q
      · exact ih h k q
      · have : k = n := by omega
        subst this
        rw [decide_eq_true h] at hc
        simpa using hc
theorem sumL_neg_mem {α : Type} {l : List α} {f : α → Int} (h : sumL l f < 0) : ∃ x ∈ l, f x < 0 := by
  induction l with
  | nil => simp [sumL] at h
  | cons a l ih =>
    rw [sumL_cons] at h
    by_cases e : f a < 0
    · exact ⟨a, by simp, e⟩
    · obtain ⟨x, hx, h2⟩ := ih (by omega)
      exact ⟨x, by simp [hx], h2⟩
section
variable {z : Zs}
/-- a node's current, if it isn't 0, is that of a load that runs, in this part -/
theorem Zs.Ok.tk_from (h : z.Ok) {run : List Bool} {i j : Nat} (hi : i < z.np) (hne : z.tk run i j ≠ 0) : ∃ m, m < z.ls.length ∧ runAt run m = true ∧ (lvAt z.ls m).units = z.tk run i j ∧ z.pof (lvAt z.ls m).pl.toNat = i := by
  obtain ⟨x, hx, h1, h2, h3⟩ := tkF_from hne
  obtain ⟨m, hm, rfl, hr⟩ := runL_from hx
  refine ⟨m, hm, hr, h3, ?_⟩
  have hl := (h.lv hm).1
  rw [← hl] at h1
  exact ((h.mem_nd hi _).1 (nI_mem.1 h1)).2
theorem Zs.Ok.solved_of (h : z.Ok) {fon run : List Bool} (hd : z.dead fon run = none) (hb : z.back fon run = none) : z.solved fon run = true := by
  unfold Zs.solved
  rw [List.all_eq_true]
  intro i hi
  have hin := List.mem_range.1 hi
  cases hs : z.sol fon run i with
  | some p => rfl
  | none =>
    exfalso
    rcases h.sol_none hin hs with ⟨ho, j, hj, hne⟩ | ⟨ho, ht⟩
    · obtain ⟨m, hm, hr, hu, hp⟩ := h.tk_from hin hne
      unfold Zs.dead at hd
      rw [Option.map_eq_none_iff, List.find?_eq_none] at hd
      refine hd m (List.mem_range.2 hm) ?_
      unfold Zs.deadP
      rw [hr, hp, ho, decide_eq_false (by rw [hu]; exact hne)]; rfl
    · unfold total at ht
      obtain ⟨j, hj, hneg⟩ := sumL_neg_mem ht
      obtain ⟨m, hm, hr, hu, hp⟩ := h.tk_from hin (show z.tk run i j ≠ 0 by omega)
      unfold Zs.back at hb
      split at hb
      · rename_i hlt
        have := leastZ_none hlt m hm
        rw [hr] at this
        unfold Zs.backQ at this
        rw [hp, isEmpty_ne ho, decide_eq_true (show (lvAt z.ls m).units < 0 by omega), decide_eq_true (show total (z.nd i).length (z.tk run i) < 0 from ht)] at this
        cases this
      · cases hb
end
end Go.Proofs.YtbnfnpakibkboaaGreat
