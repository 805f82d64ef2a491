/- A round of the search: nothing left; an item that is out of date. -/
import Derived.Test.YtcpanfpijljeaaaR1
import Derived.BigQuiet
import Derived.Deep.QuietTactic
import Derived.Test.YtcpanfpijljeaaaR7
import Derived.Deep.Light
namespace Go.Proofs.Ytcpanfpijljeaaa
set_option linter.unusedVariables false
set_option linter.unusedSimpArgs false
open Go.RowKit

set_option maxRecDepth 100000 in
set_option maxHeartbeats 2000000 in
theorem out_nil {w wr : World} {g kb M S to gi ci : Nat} {res : List C2} (u : Nat → Value) (K : Act → World → Prop) (Q : Exit → Act → World → Prop)
    (hQ : ∀ a' w', a'.defers = [] ∧ a'.tmps.getD 6 undef = .slice (some ⟨S, 0, none⟩) M M → CRow w' S res → Below S w w' → Q .ret a' w')
    (hp : Pile wr (S + 1) (S + 1 + 1) vless [] gi ci) (hr : CRow wr S res) (hbe : Below S w wr) (hSw : S = w.heap.size) :
    Code.wp Try.prog (((Try.f56.body.map loopsIn).getD []).getD 1 .skip) (Exit.then K Q) (FRO g kb M S (S + 1 + 1) (to : Int) u) wr := by
  have HP := Lib.hid hp; have HR := Lib.hid hr; have HB := Lib.hid hbe
  have HS := Lib.hid (show S ≤ wr.heap.size by have := hbe.size; omega)
  clear hp hr hbe hSw
  have hm1 := meth_take; have hm3 := nila_take
  conv => arg 2; whnf
  simp only [FRO]
  go_wp2_with fail
  refine (take_nil HP.out).mono ?_
  rintro e w2 ⟨rfl, hb2⟩
  have HB2 := Lib.hid hb2
  clear hb2
  go_wp2
  refine hQ _ _ ⟨rfl, rfl⟩ ?_ ?_
  · exact (HR.out.below HB2.out HR.out.lt).alloc _
  · exact (HB.out.trans (HB2.out.mono HS.out)).alloc (Nat.le_trans HS.out HB2.out.size) _

set_option maxRecDepth 100000 in
set_option maxHeartbeats 2000000 in
theorem out_skip {w wr : World} {g kb M S to gi ci v k : Nat} {xl xm d1 d2 : Int} {r : List V3} {ln : Int → Int} {bef : Nat → List Int} {cl : List Bool} {cs res : List C2} (u : Nat → Value) (K : Act → World → Prop) (Q : Exit → Act → World → Prop)
    (hK : ∀ a' w', OutR w g kb M S (to : Int) ln bef cl res k a' w' → K a' w')
    (hp : Pile wr (S + 1) (S + 1 + 1) vless (⟨xl, xm, (v : Int)⟩ :: r) gi ci) (hr : CRow wr S cs) (hbe : Below S w wr) (hSw : S = w.heap.size)
    (hl6 : r.length ≤ 1000000) (hcs : cs.length = M) (hit : ∀ y ∈ (⟨xl, xm, (v : Int)⟩ : V3) :: r, OkV M y) (hvM : v < M) (hM : M ≤ 800)
    (hvc : v < cs.length) (hd1 : cs[v].1 = d1) (hd2 : cs[v].2 = d2) (hs : search ln bef cl k cs (restL ⟨xl, xm, (v : Int)⟩ r) = some res)
    (hne : (d1 = xl ∧ ¬ d2 = xm) ∨ ¬ d1 = xl) :
    Code.wp Try.prog (((Try.f56.body.map loopsIn).getD []).getD 1 .skip) (Exit.then K Q) (FRO g kb M S (S + 1 + 1) (to : Int) u) wr := by
  have hgi := hp.gl
  have hSz : S ≤ w.heap.size := by omega
  have HP := Lib.hid hp; have HR := Lib.hid hr; have HB := Lib.hid hbe; have HC := Lib.hid hcs; have HI := Lib.hid hit; have HSE := Lib.hid hs
  have HD1 := Lib.hid hd1; have HD2 := Lib.hid hd2; have HNE := Lib.hid hne
  clear hp hr hbe hSw hcs hit hd1 hd2 hs hne
  have hm1 := meth_take; have hm3 := nila_take
  conv => arg 2; whnf
  simp only [FRO]
  go_wp2_with fail
  refine (take_any HP.out hl6).mono ?_
  rintro e w2 ⟨rfl, hp2, hf2⟩
  have HP2 := Lib.hid hp2
  have hcr2 := HR.out.fp hf2 (by omega) (by omega)
  have HB2 := Lib.hid (HB.out.trans (hf2.toBelow (B := S) (by omega) (by omega) (by have := HB.out.size; omega)))
  have HC2 := Lib.hid hcr2
  obtain ⟨q0, q1⟩ := hcr2.cell hvc
  rw [HD1.out] at q0
  rw [HD2.out] at q1
  have hS2 : S + 1 + 1 < w2.heap.size := hp2.plt
  have iS0 : S < w2.heap.size := by omega
  have iS1 : S < w2.heap.size + 1 := by omega
  have v0 : (0 : Int) ≤ (v : Int) := by omega
  have v1 : (v : Int) < (M : Int) := by omega
  clear hp2 hf2 hcr2 hm1 hm3
  rcases HNE.out with ⟨h1, h2⟩ | h1
  · subst h1
    have h3 : (xm == d2) = false := by simp; exact fun e => h2 e.symm
    have h4 : (xm != d2) = true := by simp; exact fun e => h2 e.symm
    have h5 : ¬ xm = d2 := fun e => h2 e.symm
    clear h2
    go_wp2
    go_quiet (fail)
    obtain ⟨nA, rfl⟩ : ∃ n, n = nq := ⟨_, rfl⟩
    go_wp2
    exact ⟨rfl, ⟨⟨cs, _, gi, ci, HSE.out, HC.out, fun y hy => HI.out y (mem_restL hy), (HP2.out.alloc _).drewN _, HC2.out.alloc _⟩, bDrewN (HB2.out.alloc (by omega) _) _⟩⟩
  · have h3 : (xl == d1) = false := by simp; exact fun e => h1 e.symm
    have h4 : (xl != d1) = true := by simp; exact fun e => h1 e.symm
    have h5 : ¬ xl = d1 := fun e => h1 e.symm
    clear h1
    go_wp2
    go_quiet (fail)
    obtain ⟨nA, rfl⟩ : ∃ n, n = nq := ⟨_, rfl⟩
    go_wp2
    exact ⟨rfl, ⟨⟨cs, _, gi, ci, HSE.out, HC.out, fun y hy => HI.out y (mem_restL hy), (HP2.out.alloc _).drewN _, HC2.out.alloc _⟩, bDrewN (HB2.out.alloc (by omega) _) _⟩⟩
end Go.Proofs.Ytcpanfpijljeaaa
/- Contract: costs: for each move, what it costs to get from it to a move. -/
namespace Go.Proofs.Ytcpanfpijljeaaa
open Go.RowKit

set_option maxRecDepth 100000 in
set_option maxHeartbeats 2000000 in
theorem outer_loop {w W : World} {B g kb M S to : Nat} {p : Pl} {cl : List Bool} {res : List C2} (a : Act) (Q : Exit → Act → World → Prop)
    (ha : a = FRO g kb M S (S + 1 + 1) (to : Int) (fun i => a.tmps.getD i undef))
    (hQ : ∀ a' w', a'.defers = [] ∧ a'.tmps.getD 6 undef = .slice (some ⟨S, 0, none⟩) M M → CRow w' S res → Below S w w' → Q .ret a' w')
    (n : Nat) (hst : CSt w S M (lenAt p) (befL p M) cl res n W) (h : Nw w B g p) (hM : 2 * p.rails.length = M) (hBS : B ≤ S) (hkb : BRow w kb cl) (hcl : cl.length = M) (hSw : S = w.heap.size) :
    (Code.loop (((Try.f56.body.map loopsIn).getD []).getD 1 .skip)).wp Try.prog Q a W := by
  have hsz := h.sizes
  have hgB := h.gB
  obtain ⟨A1, c1, A2, c2, lb, sb, nb, bb, hN, x1, x2, x3, x4, x5, x6⟩ := h.net
  obtain ⟨_, _, k2, _, k4, k5⟩ := hN.cell
  have hV := h.v
  rw [hM] at k4 k5 x6
  refine wp_loop_ghost (fun n a w' => OutR w g kb M S (to : Int) (lenAt p) (befL p M) cl res n a w') n ⟨ha, hst⟩ ?_
  rintro k a wr ⟨ha, ⟨cs, it, gi, ci, hse, hcs, hit, hpi, hrw⟩, hbe⟩
  obtain ⟨u, rfl⟩ : ∃ u, a = FRO g kb M S (S + 1 + 1) (to : Int) u := ⟨_, ha⟩
  cases k with
  | zero => exact absurd hse (by simp [search])
  | succ k =>
  have hK : ∀ a' w', OutR w g kb M S (to : Int) (lenAt p) (befL p M) cl res k a' w' → ∃ n', n' < k + 1 ∧ OutR w g kb M S (to : Int) (lenAt p) (befL p M) cl res n' a' w' := fun a' w' h => ⟨k, by omega, h⟩
  cases it with
  | nil =>
    obtain rfl : cs = res := Option.some.inj hse
    exact out_nil u _ Q hQ hpi hrw hbe hSw
  | cons x r =>
    have hl6 : r.length ≤ 1000000 := by
      rw [search] at hse
      split at hse
      · cases hse
      · omega
    obtain ⟨xl, xm, xv⟩ := x
    obtain ⟨⟨v, hv, hvM⟩, hx0, hx1⟩ := hit ⟨xl, xm, xv⟩ (by simp)
    simp only at hv hx0 hx1
    subst hv
    have hvc : v < cs.length := by omega
    have hca := costAt_at hvc
    rw [search, if_neg (by omega)] at hse
    by_cases heq : (xl, xm) = costAt cs (v : Int)
    · rw [if_pos heq] at hse
      rw [hca] at heq
      have hd1 : cs[v].1 = xl := by rw [← heq]
      have hd2 : cs[v].2 = xm := by rw [← heq]
      have hvR : v / 2 < p.rails.length := by omega
      have nz := x3.cell (i := v / 2) (by rw [lens_len]; exact hvR)
      rw [lens_get hvR] at nz
      have hb1 := lenAt_bd hV ((v / 2 : Nat) : Int)
      obtain ⟨Ab, cb, m0, m1, m2, m3⟩ := x6.2 v hvM
      have hLl : (befL p M v).length ≤ 1600 := by have := befL_len p v M; omega
      simp only [Int.toNat_natCast] at hse
      rw [show ((v : Int) / 2) = ((v / 2 : Nat) : Int) by omega] at hse
      split at hse
      · cases hse
      · exact out_step u _ Q hK hpi hrw hbe hSw hl6 hcs hit hvM (by omega) hM hvc hd1 hd2 hx0 hx1 hBS hgB x1 x6.1 k2 k5 rfl nz hb1.1 m0 m1 m2 m3 befL_bd hLl hkb hcl (by omega) (by omega) hse
    · rw [if_neg heq] at hse
      rw [hca] at heq
      refine out_skip u _ Q hK hpi hrw hbe hSw hl6 hcs hit hvM (by omega) hvc rfl rfl hse ?_
      by_cases h1 : cs[v].1 = xl
      · exact .inl ⟨h1, fun h2 => heq (by rw [← h1, ← h2])⟩
      · exact .inr h1

set_option maxRecDepth 100000 in
set_option maxHeartbeats 8000000 in
theorem costs_any (B g kb to n : Nat) (cl : List Bool) (res : List C2) (p : Pl) (w : World) (h : Nw w B g p) (hB : B ≤ w.heap.size) (hto : to < 2 * p.rails.length) (hcl : cl.length = 2 * p.rails.length) (hk : BRow w kb cl)
    (hs : costsL (lenAt p) (befL p (2 * p.rails.length)) cl (2 * p.rails.length) to n = some res) :
    Calls Try.prog 56 #[.pointer (some ⟨g, 0, none⟩), .int .i64 (to : Int), .slice (some ⟨kb, 0, none⟩) (2 * p.rails.length) (2 * p.rails.length)] w (CostsPost (2 * p.rails.length) res w) := by
  have hsz := h.sizes
  have hgB := h.gB
  obtain ⟨A1, c1, A2, c2, lb, sb, nb, bb, hN, x1, x2, x3, x4, x5, x6⟩ := h.net
  obtain ⟨_, _, k2, _, k4, k5⟩ := hN.cell
  have hkl := hk.lt
  obtain ⟨R, hR⟩ : ∃ R, p.rails.length = R := ⟨_, rfl⟩
  obtain ⟨M, hM⟩ : ∃ M, 2 * R = M := ⟨_, rfl⟩
  rw [hR] at k2 k4 k5 hto hcl hsz x6 hs ⊢
  rw [hM] at k4 k5 hto hcl x6 hs ⊢
  have HX3 := Lib.hid x3; have HX6 := Lib.hid x6; have HV := Lib.hid h.v; have HK := Lib.hid hk
  have HCL := Lib.hid hcl
  have HRR := Lib.hid hR; have HMM := Lib.hid hM
  have hM800 : M ≤ 800 := by omega
  have hM2 : (M : Int) ≤ 800 := by omega
  have hcell : w.cell? ⟨kb, to, none⟩ = some (.bool (cl.getD to false)) := by
    rw [hk.cell (by omega)]; simp [List.getD, show to < cl.length by omega]
  obtain ⟨i0, hi, hz0, hz1, hz2⟩ := info_parts inf108
  have hmk : ∀ W : World, (Instr.makeSlice 105 (.int .i64 (M : Int)) (.int .i64 (M : Int))).run Try.prog W = .ok (.slice (some ⟨W.heap.size, 0, none⟩) M M) (W.alloc (.cells (madeCells #[.int .i64 0, .int .i64 0] (M * 2)) 108)) := fun W => by
    have := run_mk (P := Try.prog) 105 108 i0 _ 2 Try.underlying105 hi hz0 hz1 (M : Int) (M : Int) M M rfl rfl (by omega) (by rw [hz2]; omega) (by omega) W
    rw [this]; rfl
  have HS := Lib.hid hs
  have HNW := Lib.hid h
  clear h hN x3 x4 x5 x6 hk hs hcl hR hM
  have hgl : g < w.heap.size := by omega
  have hgl1 : g < w.heap.size + 1 := by omega
  have hkl1 : kb < w.heap.size + 1 := by omega
  have t0 : (0 : Int) ≤ (to : Int) := by omega
  have t1 : (to : Int) < (M : Int) := by omega
  have HC0 := Lib.hid (CRow.made w M)
  go_enter Try.func56, Try.ntmps56
  go_wp2
  go_loopw [23] (fun i wr => ∃ k : Nat, k ≤ M ∧ i = .int .i64 (k : Int) ∧ CRow wr w.heap.size (negRow M k) ∧ wr.heap.size = w.heap.size + 1 ∧ Below w.heap.size w wr) (fun i _ => M - (intOf i).toNat)
  case atStart => exact ⟨0, by omega, rfl, by rw [negRow_zero]; exact HC0.out, by simp, (Below.refl _ w).alloc (Nat.le_refl _) _⟩
  case round =>
    obtain ⟨k, hkM, rfl, hrow, hsz1, hbe⟩ := hrel
    have HROW := Lib.hid hrow; have HSZ := Lib.hid hsz1; have HBE := Lib.hid hbe
    clear hrow hsz1
    by_cases hlt : k < M
    · obtain ⟨y0, y1⟩ := HROW.out.cell (i := k) (by rw [negRow_len hkM]; exact hlt)
      have y2 := HROW.out.fro (k * 2)
      have j0 : (0 : Int) ≤ (k : Int) := by omega
      have j1 : (k : Int) < (M : Int) := by omega
      clear hbe
      go_wp2
      go_roundw
      case rel => exact ⟨k + 1, by omega, by go_num, by rw [← negRow_set hlt]; exact HROW.out.set1 (by rw [negRow_len hkM]; exact hlt) (-1), by have := HSZ.out; simpa [World.setCell] using this, HBE.out.setCell (p := ⟨w.heap.size, k * 2, none⟩) (Nat.le_refl _) _⟩
      case measure => simp [intOf]; omega
    · obtain rfl : M = k := by omega
      obtain ⟨hcw, _⟩ := bcell hbe
      have hsz1 := HSZ.out
      have hc1 : wr.cell? ⟨kb, to, none⟩ = some (.bool (cl.getD to false)) := (hcw kb to hkl).trans hcell
      have hrow := HROW.out
      rw [negRow_all] at hrow
      have HROW2 := Lib.hid hrow
      clear hbe hcell hrow hcw
      cases hb : cl.getD to false
      · have HS2 := Lib.hid (show search (lenAt p) (befL p M) cl n ((List.replicate M (-1, 0)).set to (0, 0)) [⟨0, 0, to⟩] = some res by
          have := HS.out; unfold costsL at this; rwa [hb, if_neg (by simp)] at this)
        rw [hb] at hc1
        obtain ⟨y0, y1⟩ := HROW2.out.cell (i := to) (by simp; omega)
        rw [List.getElem_replicate] at y0 y1
        have y2 := HROW2.out.fro (to * 2); have y3 := HROW2.out.fro (to * 2 + 1)
        have HR3 := Lib.hid (((HROW2.out.set (i := to) (by simp; omega) (0, 0)).alloc (.cells #[.int .i64 0, .int .i64 0, .int .i64 (to : Int)] 118)).alloc (.cells #[.slice (some ⟨w.heap.size + 1, 0, none⟩) 1 1, vless] 123))
        have HB3 := Lib.hid ((((HBE.out.setCell (p := ⟨w.heap.size, to * 2, none⟩) (Nat.le_refl _) (.int .i64 0)).setCell (p := ⟨w.heap.size, to * 2 + 1, none⟩) (Nat.le_refl _) (.int .i64 0)).alloc (by simp [World.setCell, hsz1]) (.cells #[.int .i64 0, .int .i64 0, .int .i64 (to : Int)] 118)).alloc (by simp [World.setCell, hsz1]; omega) (.cells #[.slice (some ⟨w.heap.size + 1, 0, none⟩) 1 1, vless] 123))
        have HP3 := Lib.hid (pile_new ((wr.setCell ⟨w.heap.size, to * 2, none⟩ (.int .i64 0)).setCell ⟨w.heap.size, to * 2 + 1, none⟩ (.int .i64 0)) (w.heap.size + 1) ⟨0, 0, to⟩ (by simp [World.setCell, hsz1]))
        clear hb
        go_wp2
        clear hsz1 hc1 y0 y1 y2 y3
        refine outer_loop (w := w) (B := B) (g := g) (kb := kb) (M := M) (S := w.heap.size) (to := to) (p := p) (cl := cl) (res := res) _ _ rfl ?_ n ⟨⟨_, _, _, _, HS2.out, by simp, by intro y hy; simp at hy; subst hy; exact ⟨⟨to, rfl, hto⟩, by simp, by simp⟩, HP3.out, HR3.out⟩, HB3.out⟩ HNW.out (by rw [HRR.out]; exact HMM.out) hB HK.out HCL.out rfl
        rintro a' w' ⟨h1, h2⟩ h3 h4
        exact bodyPost_ret (v := .slice (some ⟨w.heap.size, 0, none⟩) M M) (by simp only [Array.getD_eq_getD_getElem?] at h2; simp [results, Try.results56, go_sem, h2]) h1 ⟨⟨w.heap.size, rfl, h3, Nat.le_refl _⟩, h4⟩
      · have HQ := Lib.hid (show List.replicate M (-1, 0) = res by
          have := HS.out; unfold costsL at this; rw [hb, if_pos rfl] at this; exact Option.some.inj this)
        rw [hb] at hc1
        clear hb
        go_wp2
        go_ret
        exact ⟨⟨w.heap.size, rfl, by rw [← HQ.out]; exact HROW2.out, Nat.le_refl _⟩, HBE.out⟩
end Go.Proofs.Ytcpanfpijljeaaa
