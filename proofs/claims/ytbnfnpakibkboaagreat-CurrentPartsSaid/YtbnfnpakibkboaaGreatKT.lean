/- Contract: the reference's Grid. -/
import Derived.Test.YtbnfnpakibkboaaGreatKS
namespace Go.Proofs.YtbnfnpakibkboaaGreat
set_option linter.unusedVariables false
set_option linter.unusedSimpArgs false
open Go.RowKit

/-- how many feeders stand at a place -/
def fcn (fs : List Fv) (k : Nat) : Int := (fs.map fun x => if x.pl = (k : Int) then (1 : Int) else 0).sum
theorem fcn_cons (x : Fv) (fs : List Fv) (k : Nat) : fcn (x :: fs) k = (if x.pl = (k : Int) then (1 : Int) else 0) + fcn fs k := by unfold fcn; simp
theorem fcn_succ {fs : List Fv} {i : Nat} (hi : i < fs.length) (k : Nat) : fcn (fs.take (i + 1)) k = fcn (fs.take i) k + (if fs[i].pl = (k : Int) then (1 : Int) else 0) := by
  unfold fcn; rw [List.take_succ_eq_append_getElem hi, List.map_append, List.sum_append]; simp
theorem fcn_le (fs : List Fv) (k : Nat) : 0 ≤ fcn fs k ∧ fcn fs k ≤ fs.length := by
  induction fs with
  | nil => simp [fcn]
  | cons x fs ih => rw [fcn_cons]; split <;> (simp only [List.length_cons]; omega)
theorem fcn_pos {fs : List Fv} {y : Fv} (hy : y ∈ fs) {k : Nat} (hk : y.pl = (k : Int)) : 1 ≤ fcn fs k := by
  induction fs with
  | nil => cases hy
  | cons x fs ih =>
    rw [fcn_cons]
    rcases List.mem_cons.1 hy with rfl | h
    · rw [if_pos hk]; have := (fcn_le fs k).1; omega
    · have := ih h; split <;> omega
theorem fcn_zero {fs : List Fv} {k : Nat} (h : ∀ y ∈ fs, y.pl ≠ (k : Int)) : fcn fs k = 0 := by
  induction fs with
  | nil => rfl
  | cons x fs ih => rw [fcn_cons, if_neg (h x (by simp)), ih (fun y hy => h y (by simp [hy]))]; rfl
theorem fcn_dist {N : Nat} {fs : List Fv} (hf : fs.all (feedB N) = true) : distB (fs.map Fv.pl) = decide (∀ k, k < N → fcn fs k ≤ 1) := by
  have hr : ∀ x ∈ fs, 0 ≤ x.pl ∧ x.pl < N := fun x hx => by
    have h1 := List.all_eq_true.1 hf x hx
    unfold feedB at h1
    simp only [Bool.and_eq_true] at h1
    have := inB_iff.1 h1.1; omega
  clear hf
  rw [Bool.eq_iff_iff, decide_eq_true_iff]
  unfold distB
  rw [decide_eq_true_iff]
  induction fs with
  | nil => simp [fcn]
  | cons x fs ih =>
    rw [List.map_cons, List.pairwise_cons, ih (fun y hy => hr y (by simp [hy]))]
    have hx := hr x (by simp)
    constructor
    · rintro ⟨h1, h2⟩ k hk
      rw [fcn_cons]
      split
      · rename_i e
        rw [fcn_zero (fun y hy => by have := h1 y.pl (List.mem_map.2 ⟨y, hy, rfl⟩); rw [← e]; exact fun q => this q.symm)]; omega
      · have := h2 k hk; omega
    · intro h
      refine ⟨?_, fun k hk => ?_⟩
      · intro p hp
        obtain ⟨y, hy, rfl⟩ := List.mem_map.1 hp
        intro e
        have h1 := h x.pl.toNat (by omega)
        rw [fcn_cons, if_pos (by omega)] at h1
        have := fcn_pos hy (k := x.pl.toNat) (by omega)
        omega
      · have := h k hk
        rw [fcn_cons] at this
        split at this <;> omega
def FGr (s M M2 N : Nat) (u : Nat → Value) : Array Value := #[u 0, .pointer (some ⟨s, 0, none⟩), .bool false, .slice (some ⟨M, 0, none⟩) N N, .slice (some ⟨M2, 0, none⟩) N N, u 5, u 6, u 7, u 8, u 9, u 10, u 11, u 12, u 13, u 14, u 15, u 16, u 17, u 18, u 19, u 20, u 21, u 22, u 23, u 24, u 25, u 26, u 27, u 28, u 29, u 30, u 31, u 32, u 33, u 34, u 35, u 36, u 37, u 38, u 39, u 40, u 41, u 42, u 43, u 44, u 45, u 46, u 47, u 48, u 49, u 50, u 51, u 52, u 53, u 54, u 55, u 56, u 57, u 58, u 59, u 60, u 61, u 62, u 63, u 64, u 65, u 66, u 67, u 68, u 69, u 70, u 71, u 72, u 73, u 74, u 75, u 76, u 77, u 78, u 79, u 80, u 81, u 82, u 83, u 84, u 85, u 86, u 87, u 88, u 89, u 90, u 91, u 92, u 93, u 94, u 95, u 96, u 97, u 98, u 99, u 100, u 101, u 102, u 103, u 104, u 105, u 106, u 107, u 108, u 109, u 110, u 111, u 112, u 113, u 114, u 115, u 116, u 117, u 118, u 119, u 120, u 121, u 122, u 123, u 124, u 125, u 126, u 127, u 128, u 129, u 130, u 131, u 132, u 133, u 134, u 135, u 136, u 137, u 138, u 139, u 140, u 141, u 142, u 143, u 144, u 145, u 146, u 147, u 148, u 149, u 150, u 151, u 152, u 153, u 154]
set_option maxRecDepth 100000 in
set_option maxHeartbeats 8000000 in
theorem rGridN_any (Aw Af : Option Addr) (nw nf cw cf N : Nat) (g : Gv) (w : World) (hN : g.nodes = N) (hN1 : 1 ≤ N) (hN2 : N ≤ 40) (hG : GAt w w.heap.size Aw nw Af nf g) :
    Calls Tryz.prog 17 #[.agg #[.int .i64 g.nodes, .slice Aw nw cw, .slice Af nf cf, .int .i64 g.least]] w fun e w' => e = .returned (.bool (gridB g)) ∧ Below w.heap.size w w' := by
  obtain ⟨i0, hi, hz0, hz1, hz2⟩ := info_parts info3
  have hmk := fun W : World => run_mk (P := Tryz.prog) 40 3 i0 _ 1 Tryz.underlying40 hi hz0 hz1 (N : Int) (N : Int) N N rfl rfl (by omega) (by rw [hz2]; omega) (by omega) W
  obtain ⟨bl, hbl⟩ : ∃ v, inB g.least 0 1000 = v := ⟨_, rfl⟩
  have HTR0 := Lib.hid (show gridB g = (bl && (wiresB N g.wires && feedsB N g.feeds)) from by
    unfold gridB; rw [hbl, hN]; rw [show inB (N : Int) 1 40 = true from inB_iff.2 (by omega)]; simp)
  have HC0 := Lib.hid (show ∀ wx, Calls Tryz.prog 50 #[.int .i64 (N : Int), .int .i64 1, .int .i64 40] wx fun e w' => e = .returned (.bool true) ∧ wx = w' from fun wx => by have := in_any (N : Int) 1 40 wx; rwa [show inB (N : Int) 1 40 = true from inB_iff.2 (by omega)] at this)
  have HC1 := Lib.hid (show ∀ wx, Calls Tryz.prog 50 #[.int .i64 g.least, .int .i64 0, .int .i64 1000] wx fun e w' => e = .returned (.bool bl) ∧ wx = w' from fun wx => by have := in_any g.least 0 1000 wx; rwa [hbl] at this)
  rw [hN]
  have hb1 := (Below.refl w.heap.size w).alloc (Nat.le_refl _) (.cells #[.int .i64 (N : Int), .slice Aw nw cw, .slice Af nf cf, .int .i64 g.least] 25)
  have q1 := Rw.new w #[.int .i64 (N : Int), .slice Aw nw cw, .slice Af nf cf, .int .i64 g.least] 25
  have hG1 := (hG.below hb1).more hb1.size
  have hz1' : (w.alloc (.cells #[.int .i64 (N : Int), .slice Aw nw cw, .slice Af nf cf, .int .i64 g.least] 25)).heap.size = w.heap.size + 1 := by simp
  obtain ⟨W1, hW1⟩ : ∃ z, w.alloc (.cells #[.int .i64 (N : Int), .slice Aw nw cw, .slice Af nf cf, .int .i64 g.least] 25) = z := ⟨_, rfl⟩
  rw [hW1] at hb1 q1 hG1 hz1'
  have e0 := q1.cell 0; have e1 := q1.cell 1; have e2 := q1.cell 2; have e3 := q1.cell 3
  have HB1 := Lib.hid hb1; have HQ := Lib.hid q1; have HG := Lib.hid hG1; have HN := Lib.hid (And.intro hN1 hN2); have HZ1 := Lib.hid hz1'
  have HWL := Lib.hid hG1.wl; have HWM := Lib.hid hG1.wm; have HFL := Lib.hid hG1.fl; have HFM := Lib.hid hG1.fm
  have hwm := hG1.wm; have hfm := hG1.fm
  clear hG hG1 hb1 q1 hN hN1 hbl hz1'
  go_enter Tryz.func17, Tryz.ntmps17
  go_wp2_with fail
  (with_reducible refine (HC0.out _).mono ?_)
  rintro e w2 ⟨rfl, rfl⟩
  by_cases h80 : nw ≤ 80
  case neg =>
    have h81 : (80 : Int) < (nw : Int) := by omega
    have HBAD := Lib.hid (show gridB g = false from by rw [HTR0.out]; unfold wiresB; rw [decide_eq_false (by have := HWL.out; omega)]; simp)
    go_wp2
    go_ret
    exact ⟨by rw [HBAD.out]; first | done | rfl | simp, HB1.out⟩
  have h81 : ¬ (80 : Int) < (nw : Int) := by omega
  by_cases h12 : nf ≤ 12
  case neg =>
    have h13 : (12 : Int) < (nf : Int) := by omega
    have HBAD := Lib.hid (show gridB g = false from by rw [HTR0.out]; unfold feedsB; rw [decide_eq_false (p := g.feeds.length ≤ 12) (by have := HFL.out; omega)]; simp)
    go_wp2
    go_ret
    exact ⟨by rw [HBAD.out]; first | done | rfl | simp, HB1.out⟩
  have h13 : ¬ (12 : Int) < (nf : Int) := by omega
  have H80 := Lib.hid h80; have H12 := Lib.hid h12
  clear h80 h12
  go_wp2_with fail
  (with_reducible refine (HC1.out _).mono ?_)
  rintro e w2 ⟨rfl, rfl⟩
  cases bl with
  | false =>
    have HBAD := Lib.hid (show gridB g = false from by rw [HTR0.out]; rfl)
    go_wp2
    go_ret
    exact ⟨by rw [HBAD.out]; first | done | rfl | simp, HB1.out⟩
  | true =>
    have HTR := Lib.hid (show gridB g = (wiresB N g.wires && feedsB N g.feeds) from by rw [HTR0.out]; simp)
    clear HTR0
    go_upto_region 3 with (fail)
    clear e1 e2 e3
    have e0a := (HQ.out.alloc (.cells (madeCells #[.int .i64 0] N) 3)).cell 0
    refine Code.wp_mono (Q := fun e a' w' => e = .normal ∧ ∃ (M M2 : Nat), a' = { tmps := FGr w.heap.size M M2 N (fun i => a'.tmps.getD i undef), defers := [] } ∧ Rf w' M 3 N (fun k => .int .i64 (degI (g.wires.take 0) k)) ∧ Rf w' M2 3 N (fun _ => .int .i64 0) ∧ M ≠ M2 ∧ W1.heap.size ≤ M ∧ W1.heap.size ≤ M2 ∧ Below W1.heap.size W1 w') (fun e a' w' h => ?rest) ?reg
    case reg =>
      refine wp_region_noPanic ?_
      go_region
      · refine NoPanic.normal ?_
        have r1 := Rw.drew ((Rf.made1 W1 (.int .i64 0) N 3).alloc (.cells (madeCells #[.int .i64 0] N) 3))
        have r2 := Rf.made1 (W1.alloc (.cells (madeCells #[.int .i64 0] N) 3)) (.int .i64 0) N 3
        rw [World.size_alloc] at r2
        replace r2 := Rw.drew r2
        have hb2 := (((Below.refl W1.heap.size W1).alloc (Nat.le_refl _) (.cells (madeCells #[.int .i64 0] N) 3)).alloc (by simp) (.cells (madeCells #[.int .i64 0] N) 3)).drew
        exact ⟨rfl, W1.heap.size, W1.heap.size + 1, rfl, r1, r2, by omega, by omega, by omega, hb2⟩
      · refine NoPanic.normal ?_
        have r1 := Rw.drew ((Rf.made1 W1 (.int .i64 0) N 3).alloc (.cells (madeCells #[.int .i64 0] N) 3))
        have r2 := Rf.made1 (W1.alloc (.cells (madeCells #[.int .i64 0] N) 3)) (.int .i64 0) N 3
        rw [World.size_alloc] at r2
        replace r2 := Rw.drew r2
        have hb2 := (((Below.refl W1.heap.size W1).alloc (Nat.le_refl _) (.cells (madeCells #[.int .i64 0] N) 3)).alloc (by simp) (.cells (madeCells #[.int .i64 0] N) 3)).drew
        exact ⟨rfl, W1.heap.size + 1, W1.heap.size, rfl, r2, r1, by omega, by omega, by omega, hb2⟩
    case rest =>
      obtain ⟨rfl, M, M2, ha, hr1, hr2, hne, hl1, hl2, hb2⟩ := h
      obtain ⟨u, rfl⟩ : ∃ u, a' = { tmps := FGr w.heap.size M M2 N u, defers := [] } := ⟨_, ha⟩
      have HR := Lib.hid (And.intro hr1 hr2); have HNE := Lib.hid hne; have HM := Lib.hid (And.intro hl1 hl2); have HB2 := Lib.hid hb2
      have q2 := HQ.out.below hb2 HQ.out.lt
      have e0 := q2.cell 0; have e1 := q2.cell 1; have e2 := q2.cell 2
      clear ha hr1 hr2 hne hl1 hl2 hb2 q2 hmk e0a
      unfold FGr
      go_wp2
      clear e0 e1 e2
      go_loopw [5] (fun sl wr => ∃ i : Nat, i ≤ nw ∧ sl = .int .i64 (i : Int) ∧ (g.wires.take i).all (wireB N) = true ∧ Rf wr M 3 N (fun k => .int .i64 (degI (g.wires.take i) k)) ∧ Rf wr M2 3 N (fun k => .int .i64 0) ∧ Below W1.heap.size W1 wr) (fun sl _ => nw - (intOf sl).toNat)
      case atStart => exact ⟨0, Nat.zero_le _, rfl, rfl, HR.out.1, HR.out.2, HB2.out⟩
      case round =>
        clear HR HB2
        obtain ⟨i, hi, rfl, hall, hrf, hrf2, hbr⟩ := hrel
        have HAL := Lib.hid hall; have HRF := Lib.hid (And.intro hrf hrf2); have HBR := Lib.hid hbr
        have q2 := HQ.out.below hbr HQ.out.lt
        have e0 := q2.cell 0; have e1 := q2.cell 1; have e2 := q2.cell 2
        have hgr := HG.out.below hbr
        by_cases hin : i < nw
        · have hii : (i : Int) < (nw : Int) := by omega
          have hi0 : (0 : Int) ≤ (i : Int) := by omega
          have hil : i < g.wires.length := by have := HWL.out; omega
          obtain ⟨b, o, rfl, hbb, c0, c1, c2, c3⟩ := wire_at hgr.ws hil
          obtain ⟨x, hx⟩ : ∃ x, g.wires[i] = x := ⟨_, rfl⟩
          rw [hx] at c0 c1 c2 c3
          clear q2 hgr hall hrf hrf2 hbr
          go_upto_region 8 with (fail)
          have q3 := Rw.new wr #[.int .i64 x.a, .int .i64 x.b, .int .i64 x.s, .bool x.sw] 60
          have hb3 := (Below.refl wr.heap.size wr).alloc (Nat.le_refl _) (.cells #[.int .i64 x.a, .int .i64 x.b, .int .i64 x.s, .bool x.sw] 60)
          obtain ⟨W3, hW3⟩ : ∃ z, wr.alloc (.cells #[.int .i64 x.a, .int .i64 x.b, .int .i64 x.s, .bool x.sw] 60) = z := ⟨_, rfl⟩
          rw [hW3] at q3 hb3 ⊢
          have HB3 := Lib.hid (HBR.out.trans (hb3.mono HBR.out.size))
          have HRF3 := Lib.hid (And.intro (HRF.out.1.below hb3 HRF.out.1.lt) (HRF.out.2.below hb3 HRF.out.2.lt))
          have HMW := Lib.hid HRF.out.1.lt
          obtain ⟨M3, hM3⟩ : ∃ n, wr.heap.size = n := ⟨_, rfl⟩
          rw [hM3] at q3 ⊢
          have HMM := Lib.hid (show M < M3 from by rw [← hM3]; exact HRF.out.1.lt)
          have q2 := HQ.out.below HB3.out HQ.out.lt
          have e0 := q2.cell 0; have e1 := q2.cell 1; have e2 := q2.cell 2
          have d0 := q3.cell 0; have d1 := q3.cell 1; have d2 := q3.cell 2; have d3 := q3.cell 3
          have HQ3 := Lib.hid q3
          have hwN : IntKind.i64.wrap ((N : Int) - 1) = (N : Int) - 1 := by have := HN.out; rw [IntKind.wrap_i64]; omega
          have HBAD := Lib.hid (show wireB N x = false → gridB g = false from fun h => by
            have : g.wires.all (wireB N) = false := by rw [List.all_eq_false]; exact ⟨x, by rw [← hx]; exact List.getElem_mem hil, by rw [h]; simp⟩
            rw [HTR.out]; unfold wiresB; rw [this]; simp)
          have HGO := Lib.hid (show wireB N x = true → (g.wires.take (i + 1)).all (wireB N) = true from fun h => by
            rw [List.take_succ_eq_append_getElem hil, List.all_append, HAL.out, hx]; simp [h])
          have HDG := Lib.hid (show ∀ k, degI (g.wires.take (i + 1)) k = degI (g.wires.take i) k + dg x k from fun k => by rw [degI_succ hil, hx])
          have HLE := Lib.hid (show ∀ k, 0 ≤ degI (g.wires.take i) k ∧ degI (g.wires.take i) k ≤ 200000 from fun k => by
            have := degI_le (g.wires.take i) k; have h2 := List.length_take_le i g.wires; have := HWM.out; omega)
          obtain ⟨b0, hb0⟩ : ∃ v, inB x.a 0 ((N : Int) - 1) = v := ⟨_, rfl⟩
          obtain ⟨b1, hb1⟩ : ∃ v, inB x.b 0 ((N : Int) - 1) = v := ⟨_, rfl⟩
          obtain ⟨b3, hb3'⟩ : ∃ v, inB x.s 1 4 = v := ⟨_, rfl⟩
          have HW0 := Lib.hid (show ∀ wx, Calls Tryz.prog 50 #[.int .i64 x.a, .int .i64 0, .int .i64 ((N : Int) - 1)] wx fun e w' => e = .returned (.bool b0) ∧ wx = w' from fun wx => by have := in_any x.a 0 ((N : Int) - 1) wx; rwa [hb0] at this)
          have HW1 := Lib.hid (show ∀ wx, Calls Tryz.prog 50 #[.int .i64 x.b, .int .i64 0, .int .i64 ((N : Int) - 1)] wx fun e w' => e = .returned (.bool b1) ∧ wx = w' from fun wx => by have := in_any x.b 0 ((N : Int) - 1) wx; rwa [hb1] at this)
          have HW3 := Lib.hid (show ∀ wx, Calls Tryz.prog 50 #[.int .i64 x.s, .int .i64 1, .int .i64 4] wx fun e w' => e = .returned (.bool b3) ∧ wx = w' from fun wx => by have := in_any x.s 1 4 wx; rwa [hb3'] at this)
          have HWB := Lib.hid (show wireB N x = (b0 && (b1 && (!decide (x.a = x.b) && b3))) from by unfold wireB; rw [hb0, hb1, hb3'])
          have HA0 := Lib.hid (show b0 = true → 0 ≤ x.a ∧ x.a < N from fun h => by have := inB_iff.1 (hb0.trans h); omega)
          have HA1 := Lib.hid (show b1 = true → 0 ≤ x.b ∧ x.b < N from fun h => by have := inB_iff.1 (hb1.trans h); omega)
          have HIN := Lib.hid hin
          clear c0 c1 c2 c3 hx hb0 hb1 hb3' q2 q3 hW3 hM3 hb3 hil hin hii hbb
          go_wp2_with fail
          (with_reducible refine (HW0.out _).mono ?_)
          rintro e w3 ⟨rfl, rfl⟩
          cases b0 with
          | false =>
            go_wp2
            go_ret
            exact ⟨by rw [HBAD.out (by rw [HWB.out]; rfl)]; first | done | rfl | simp, HB1.out.trans (HB3.out.mono HB1.out.size)⟩
          | true =>
            go_wp2_with fail
            (with_reducible refine (HW1.out _).mono ?_)
            rintro e w3 ⟨rfl, rfl⟩
            cases b1 with
            | false =>
              go_wp2
              go_ret
              exact ⟨by rw [HBAD.out (by rw [HWB.out]; rfl)]; first | done | rfl | simp, HB1.out.trans (HB3.out.mono HB1.out.size)⟩
            | true =>
              by_cases hab : x.a = x.b
              · have HAB := Lib.hid hab
                go_wp2
                go_ret
                exact ⟨by rw [HBAD.out (by rw [HWB.out, decide_eq_true HAB.out]; rfl)]; first | done | rfl | simp, HB1.out.trans (HB3.out.mono HB1.out.size)⟩
              · have HAB := Lib.hid hab
                have hbe : (x.a == x.b) = false := by simpa using hab
                go_wp2_with fail
                (with_reducible refine (HW3.out _).mono ?_)
                rintro e w3 ⟨rfl, rfl⟩
                cases b3 with
                | false =>
                  go_wp2
                  go_ret
                  exact ⟨by rw [HBAD.out (by rw [HWB.out]; simp)]; first | done | rfl | simp, HB1.out.trans (HB3.out.mono HB1.out.size)⟩
                | true =>
                  have HWT := Lib.hid (HGO.out (by rw [HWB.out, decide_eq_false HAB.out]; rfl))
                  obtain ⟨na, hna⟩ : ∃ n : Nat, x.a = (n : Int) := ⟨x.a.toNat, by have := HA0.out (by first | rfl | trivial); omega⟩
                  obtain ⟨nb, hnb⟩ : ∃ n : Nat, x.b = (n : Int) := ⟨x.b.toNat, by have := HA1.out (by first | rfl | trivial); omega⟩
                  have haN : na < N := by have := HA0.out (by first | rfl | trivial); omega
                  have hbN : nb < N := by have := HA1.out (by first | rfl | trivial); omega
                  have hxab : na ≠ nb := by intro e; exact HAB.out (by rw [hna, hnb, e])
                  have hdg : ∀ k, dg x k = (if k = na then 1 else 0) + (if k = nb then 1 else 0) := fun k => by
                    unfold dg; rw [hna, hnb]
                    by_cases p : k = na <;> by_cases q : k = nb <;> simp [p, q] <;> omega
                  rw [hna] at d0
                  rw [hnb] at d1
                  obtain ⟨va, hva⟩ : ∃ v, degI (g.wires.take i) na = v := ⟨_, rfl⟩
                  obtain ⟨vb, hvb⟩ : ∃ v, degI (g.wires.take i) nb = v := ⟨_, rfl⟩
                  have r3 := HRF3.out.1
                  have ga := r3.cell haN
                  have fa := r3.frozen na
                  rw [hva] at ga
                  have r4 := r3.set na (.int .i64 (va + 1))
                  have hb4 : Below W1.heap.size W1 (W3.setCell ⟨M, na, none⟩ (.int .i64 (va + 1))) := HB3.out.setCell HM.out.1 _
                  have q4 := HQ3.out.far na (.int .i64 (va + 1)) (show M3 ≠ M from by have := HMM.out; omega)
                  have q2' := HQ.out.below hb4 HQ.out.lt
                  have gb := r4.cell hbN
                  have fb := r4.frozen nb
                  rw [if_neg (Ne.symm hxab), hvb] at gb
                  have r5 := r4.set nb (.int .i64 (vb + 1))
                  have hb5 : Below W1.heap.size W1 ((W3.setCell ⟨M, na, none⟩ (.int .i64 (va + 1))).setCell ⟨M, nb, none⟩ (.int .i64 (vb + 1))) := hb4.setCell HM.out.1 _
                  have HEND := Lib.hid (show Rf ((W3.setCell ⟨M, na, none⟩ (.int .i64 (va + 1))).setCell ⟨M, nb, none⟩ (.int .i64 (vb + 1))) M 3 N (fun k => .int .i64 (degI (g.wires.take (i + 1)) k)) from r5.congr (fun k hk => by
                    rw [HDG.out, hdg]
                    by_cases p : k = nb
                    · subst p; rw [if_pos rfl, if_neg (Ne.symm hxab), if_pos rfl, hvb]; simp
                    · rw [if_neg p]
                      by_cases q : k = na
                      · subst q; rw [if_pos rfl, if_pos rfl, if_neg hxab, hva]; simp
                      · rw [if_neg q, if_neg q, if_neg p]; simp))
                  have HB5 := Lib.hid hb5
                  have HRW := Lib.hid ((HRF3.out.2.far na (.int .i64 (va + 1)) HNE.out.symm).far nb (.int .i64 (vb + 1)) HNE.out.symm)
                  have hwa : IntKind.i64.wrap (va + 1) = va + 1 := by have := HLE.out na; rw [hva] at this; rw [IntKind.wrap_i64]; omega
                  have hwb : IntKind.i64.wrap (vb + 1) = vb + 1 := by have := HLE.out nb; rw [hvb] at this; rw [IntKind.wrap_i64]; omega
                  have haI : (na : Int) < (N : Int) := by omega
                  have hbI : (nb : Int) < (N : Int) := by omega
                  have ha0 : (0 : Int) ≤ (na : Int) := by omega
                  have hb0 : (0 : Int) ≤ (nb : Int) := by omega
                  have d1' := q4.cell 1
                  rw [hnb] at d1'
                  have hI := HIN.out
                  have HI := Lib.hid hI
                  clear r3 r4 r5 hb4 hb5 q4 q2' hdg hva hvb haN hbN hxab hna hnb hI hab hbe
                  go_wp2
                  go_roundw
                  case rel => exact ⟨i + 1, by have := HI.out; omega, by simp, HWT.out, HEND.out, HRW.out, HB5.out⟩
                  case measure => have := HI.out; simp [intOf] <;> omega
        · have hii : ¬ (i : Int) < (nw : Int) := by omega
          have hie : i = nw := by omega
          subst hie
          have htk : g.wires.take i = g.wires := List.take_of_length_le (by have := HWL.out; omega)
          rw [htk] at hall hrf
          have HALW := Lib.hid hall
          have HRW := Lib.hid (And.intro hrf (show Rf wr M2 3 N (fun k => .int .i64 (fcn (g.feeds.take 0) k)) from hrf2))
          have HBQ := Lib.hid hbr
          clear hall hrf hrf2 htk HAL HRF HBR hi q2 hgr hbr
          go_wp2
          clear e0 e1 e2
          go_loopw [7] (fun sl wr => ∃ i : Nat, i ≤ nf ∧ sl = .int .i64 (i : Int) ∧ (g.feeds.take i).all (feedB N) = true ∧ Rf wr M 3 N (fun k => .int .i64 (degI g.wires k)) ∧ Rf wr M2 3 N (fun k => .int .i64 (fcn (g.feeds.take i) k)) ∧ Below W1.heap.size W1 wr) (fun sl _ => nf - (intOf sl).toNat)
          case atStart => exact ⟨0, Nat.zero_le _, rfl, rfl, HRW.out.1, HRW.out.2, HBQ.out⟩
          case round =>
            clear HRW HBQ
            obtain ⟨i, hi, rfl, hall, hrf, hrf2, hbr⟩ := hrel
            have HAL := Lib.hid hall; have HRF := Lib.hid (And.intro hrf hrf2); have HBR := Lib.hid hbr
            have q2 := HQ.out.below hbr HQ.out.lt
            have e0 := q2.cell 0; have e1 := q2.cell 1; have e2 := q2.cell 2
            have hgr := HG.out.below hbr
            by_cases hin : i < nf
            · have hii : (i : Int) < (nf : Int) := by omega
              have hi0 : (0 : Int) ≤ (i : Int) := by omega
              have hil : i < g.feeds.length := by have := HFL.out; omega
              obtain ⟨b, o, rfl, hbb, c0, c1, c2, c3⟩ := feed_at hgr.fs hil
              obtain ⟨x, hx⟩ : ∃ x, g.feeds[i] = x := ⟨_, rfl⟩
              rw [hx] at c0 c1 c2 c3
              clear q2 hgr hall hrf hrf2 hbr
              go_upto_region 16 with (fail)
              have q3 := Rw.new wr #[.int .i64 x.pl, .int .i64 x.volts, .int .i64 x.siem, .int .i64 x.limit] 58
              have hb3 := (Below.refl wr.heap.size wr).alloc (Nat.le_refl _) (.cells #[.int .i64 x.pl, .int .i64 x.volts, .int .i64 x.siem, .int .i64 x.limit] 58)
              obtain ⟨W3, hW3⟩ : ∃ z, wr.alloc (.cells #[.int .i64 x.pl, .int .i64 x.volts, .int .i64 x.siem, .int .i64 x.limit] 58) = z := ⟨_, rfl⟩
              rw [hW3] at q3 hb3 ⊢
              have HB3 := Lib.hid (HBR.out.trans (hb3.mono HBR.out.size))
              have HRF3 := Lib.hid (And.intro (HRF.out.1.below hb3 HRF.out.1.lt) (HRF.out.2.below hb3 HRF.out.2.lt))
              obtain ⟨M3, hM3⟩ : ∃ n, wr.heap.size = n := ⟨_, rfl⟩
              rw [hM3] at q3 ⊢
              have q2 := HQ.out.below HB3.out HQ.out.lt
              have e0 := q2.cell 0; have e1 := q2.cell 1; have e2 := q2.cell 2
              have d0 := q3.cell 0; have d1 := q3.cell 1; have d2 := q3.cell 2; have d3 := q3.cell 3
              have hwN : IntKind.i64.wrap ((N : Int) - 1) = (N : Int) - 1 := by have := HN.out; rw [IntKind.wrap_i64]; omega
              have HBAD := Lib.hid (show feedB N x = false → gridB g = false from fun h => by
                have : g.feeds.all (feedB N) = false := by rw [List.all_eq_false]; exact ⟨x, by rw [← hx]; exact List.getElem_mem hil, by rw [h]; simp⟩
                rw [HTR.out]; unfold feedsB; rw [this]; simp)
              have HGO := Lib.hid (show feedB N x = true → (g.feeds.take (i + 1)).all (feedB N) = true from fun h => by
                rw [List.take_succ_eq_append_getElem hil, List.all_append, HAL.out, hx]; simp [h])
              have HDG := Lib.hid (show ∀ k, fcn (g.feeds.take (i + 1)) k = fcn (g.feeds.take i) k + (if x.pl = (k : Int) then (1 : Int) else 0) from fun k => by rw [fcn_succ hil, hx])
              have HLE := Lib.hid (show ∀ k, 0 ≤ fcn (g.feeds.take i) k ∧ fcn (g.feeds.take i) k ≤ 100000 from fun k => by
                have := fcn_le (g.feeds.take i) k; have h2 := List.length_take_le i g.feeds; have := HFM.out; omega)
              obtain ⟨b0, hb0⟩ : ∃ v, inB x.pl 0 ((N : Int) - 1) = v := ⟨_, rfl⟩
              obtain ⟨b1, hb1⟩ : ∃ v, inB x.volts 1 1000 = v := ⟨_, rfl⟩
              obtain ⟨b2, hb2⟩ : ∃ v, inB x.siem 1 4 = v := ⟨_, rfl⟩
              obtain ⟨b3, hb3'⟩ : ∃ v, inB x.limit 0 2000 = v := ⟨_, rfl⟩
              have HW0 := Lib.hid (show ∀ wx, Calls Tryz.prog 50 #[.int .i64 x.pl, .int .i64 0, .int .i64 ((N : Int) - 1)] wx fun e w' => e = .returned (.bool b0) ∧ wx = w' from fun wx => by have := in_any x.pl 0 ((N : Int) - 1) wx; rwa [hb0] at this)
              have HW1 := Lib.hid (show ∀ wx, Calls Tryz.prog 50 #[.int .i64 x.volts, .int .i64 1, .int .i64 1000] wx fun e w' => e = .returned (.bool b1) ∧ wx = w' from fun wx => by have := in_any x.volts 1 1000 wx; rwa [hb1] at this)
              have HW2 := Lib.hid (show ∀ wx, Calls Tryz.prog 50 #[.int .i64 x.siem, .int .i64 1, .int .i64 4] wx fun e w' => e = .returned (.bool b2) ∧ wx = w' from fun wx => by have := in_any x.siem 1 4 wx; rwa [hb2] at this)
              have HW3 := Lib.hid (show ∀ wx, Calls Tryz.prog 50 #[.int .i64 x.limit, .int .i64 0, .int .i64 2000] wx fun e w' => e = .returned (.bool b3) ∧ wx = w' from fun wx => by have := in_any x.limit 0 2000 wx; rwa [hb3'] at this)
              have HWB := Lib.hid (show feedB N x = (b0 && (b1 && (b2 && b3))) from by unfold feedB; rw [hb0, hb1, hb2, hb3'])
              have HA0 := Lib.hid (show b0 = true → 0 ≤ x.pl ∧ x.pl < N from fun h => by have := inB_iff.1 (hb0.trans h); omega)
              have HIN := Lib.hid hin
              clear c0 c1 c2 c3 hx hb0 hb1 hb2 hb3' q2 q3 hW3 hM3 hb3 hil hin hii hbb
              go_wp2_with fail
              (with_reducible refine (HW0.out _).mono ?_)
              rintro e w3 ⟨rfl, rfl⟩
              cases b0 with
              | false =>
                go_wp2
                go_ret
                exact ⟨by rw [HBAD.out (by rw [HWB.out]; simp)]; first | done | rfl | simp, HB1.out.trans (HB3.out.mono HB1.out.size)⟩
              | true =>
                go_wp2_with fail
                (with_reducible refine (HW1.out _).mono ?_)
                rintro e w3 ⟨rfl, rfl⟩
                cases b1 with
                | false =>
                  go_wp2
                  go_ret
                  exact ⟨by rw [HBAD.out (by rw [HWB.out]; simp)]; first | done | rfl | simp, HB1.out.trans (HB3.out.mono HB1.out.size)⟩
                | true =>
                  go_wp2_with fail
                  (with_reducible refine (HW2.out _).mono ?_)
                  rintro e w3 ⟨rfl, rfl⟩
                  cases b2 with
                  | false =>
                    go_wp2
                    go_ret
                    exact ⟨by rw [HBAD.out (by rw [HWB.out]; simp)]; first | done | rfl | simp, HB1.out.trans (HB3.out.mono HB1.out.size)⟩
                  | true =>
                    go_wp2_with fail
                    (with_reducible refine (HW3.out _).mono ?_)
                    rintro e w3 ⟨rfl, rfl⟩
                    cases b3 with
                    | false =>
                      go_wp2
                      go_ret
                      exact ⟨by rw [HBAD.out (by rw [HWB.out]; simp)]; first | done | rfl | simp, HB1.out.trans (HB3.out.mono HB1.out.size)⟩
                    | true =>
                      have HWT := Lib.hid (HGO.out (by rw [HWB.out]; rfl))
                      obtain ⟨na, hna⟩ : ∃ n : Nat, x.pl = (n : Int) := ⟨x.pl.toNat, by have := HA0.out (by first | rfl | trivial); omega⟩
                      have haN : na < N := by have := HA0.out (by first | rfl | trivial); omega
                      have hdg : ∀ k : Nat, (if x.pl = (k : Int) then (1 : Int) else 0) = if k = na then 1 else 0 := fun k => by
                        rw [hna]; by_cases p : k = na <;> simp [p] <;> omega
                      rw [hna] at d0
                      obtain ⟨va, hva⟩ : ∃ v, fcn (g.feeds.take i) na = v := ⟨_, rfl⟩
                      have r3 := HRF3.out.2
                      have ga := r3.cell haN
                      have fa := r3.frozen na
                      rw [hva] at ga
                      have r4 := r3.set na (.int .i64 (va + 1))
                      have HB4 := Lib.hid (show Below W1.heap.size W1 (W3.setCell ⟨M2, na, none⟩ (.int .i64 (va + 1))) from HB3.out.setCell HM.out.2 _)
                      have HRW := Lib.hid (HRF3.out.1.far na (.int .i64 (va + 1)) HNE.out)
                      have HEND := Lib.hid (show Rf (W3.setCell ⟨M2, na, none⟩ (.int .i64 (va + 1))) M2 3 N (fun k => .int .i64 (fcn (g.feeds.take (i + 1)) k)) from r4.congr (fun k hk => by
                        rw [HDG.out, hdg]
                        by_cases p : k = na
                        · subst p; rw [if_pos rfl, if_pos rfl, hva]
                        · rw [if_neg p, if_neg p]; simp))
                      have hwa : IntKind.i64.wrap (va + 1) = va + 1 := by have := HLE.out na; rw [hva] at this; rw [IntKind.wrap_i64]; omega
                      have haI : (na : Int) < (N : Int) := by omega
                      have ha0 : (0 : Int) ≤ (na : Int) := by omega
                      clear r3 r4 hdg hva haN hna
                      go_wp2
                      go_roundw
                      case rel => exact ⟨i + 1, by have := HIN.out; omega, by simp, HWT.out, HRW.out, HEND.out, HB4.out⟩
                      case measure => have := HIN.out; simp [intOf] <;> omega
            · have hii : ¬ (i : Int) < (nf : Int) := by omega
              have hie : i = nf := by omega
              subst hie
              have htk : g.feeds.take i = g.feeds := List.take_of_length_le (by have := HFL.out; omega)
              rw [htk] at hall hrf2
              have HALF := Lib.hid hall
              have HRQ := Lib.hid (And.intro HRF.out.1 (show Rf wr M2 3 N (fun k => .int .i64 (fcn g.feeds k)) from hrf2))
              have HBS := Lib.hid HBR.out
              clear hall hrf hrf2 htk HAL HRF hi q2 hgr hbr HBR
              have HFIN := Lib.hid (show gridB g = decide (∀ k, k < N → degI g.wires k ≤ 3 ∧ fcn g.feeds k ≤ 1) from by
                rw [HTR.out]; unfold wiresB feedsB
                rw [decide_eq_true (show g.wires.length ≤ 80 by have := HWL.out; have := H80.out; omega), HALW.out, decide_eq_true (show g.feeds.length ≤ 12 by have := HFL.out; have := H12.out; omega), HALF.out, fcn_dist HALF.out]
                rw [Bool.true_and, Bool.true_and, Bool.true_and, Bool.true_and, Bool.eq_iff_iff]
                simp only [Bool.and_eq_true, List.all_eq_true, List.mem_range, decide_eq_true_iff]
                exact ⟨fun h k hk => ⟨h.1 k hk, h.2 k hk⟩, fun h => ⟨fun k hk => (h k hk).1, fun k hk => (h k hk).2⟩⟩)
              go_wp2
              clear e0 e1 e2
              go_loopw [9] (fun sl wz => ∃ i : Nat, i ≤ N ∧ sl = .int .i64 (i : Int) ∧ (∀ k, k < i → degI g.wires k ≤ 3 ∧ fcn g.feeds k ≤ 1) ∧ wr = wz) (fun sl _ => N - (intOf sl).toNat)
              case atStart => exact ⟨0, Nat.zero_le _, rfl, fun k hk => absurd hk (Nat.not_lt_zero _), rfl⟩
              case round =>
                obtain ⟨i, hi, rfl, hpre, rfl⟩ := hrel
                have HPR := Lib.hid hpre
                have q2 := HQ.out.below HBS.out HQ.out.lt
                have e0 := q2.cell 0
                by_cases hin : i < N
                · have hii : (i : Int) < (N : Int) := by omega
                  have hi0 : (0 : Int) ≤ (i : Int) := by omega
                  have ga := HRQ.out.1.cell hin
                  have gb := HRQ.out.2.cell hin
                  obtain ⟨va, hva⟩ : ∃ v, degI g.wires i = v := ⟨_, rfl⟩
                  obtain ⟨vb, hvb⟩ : ∃ v, fcn g.feeds i = v := ⟨_, rfl⟩
                  rw [hva] at ga
                  rw [hvb] at gb
                  have HVA := Lib.hid hva; have HVB := Lib.hid hvb; have HIN := Lib.hid hin
                  clear hva hvb hin q2 hpre hi
                  by_cases h3 : (3 : Int) < va
                  · have HBD := Lib.hid (show gridB g = false from by rw [HFIN.out, decide_eq_false]; intro h; have := (h i HIN.out).1; rw [HVA.out] at this; omega)
                    go_wp2
                    go_ret
                    exact ⟨by rw [HBD.out]; first | done | rfl | simp, HB1.out.trans (HBS.out.mono HB1.out.size)⟩
                  · have H3 := Lib.hid h3
                    by_cases h1 : (1 : Int) < vb
                    · have HBD := Lib.hid (show gridB g = false from by rw [HFIN.out, decide_eq_false]; intro h; have := (h i HIN.out).2; rw [HVB.out] at this; omega)
                      go_wp2
                      go_ret
                      exact ⟨by rw [HBD.out]; first | done | rfl | simp, HB1.out.trans (HBS.out.mono HB1.out.size)⟩
                    · have H1' := Lib.hid h1
                      go_wp2
                      go_roundw
                      case rel => exact ⟨i + 1, by have := HIN.out; omega, by simp, fun k hk => by
                                    rcases Nat.lt_or_ge k i with q | q
                                    · exact HPR.out k q
                                    · have : k = i := by omega
                                      subst this; rw [HVA.out, HVB.out]; exact ⟨by have := H3.out; omega, by have := H1'.out; omega⟩, by first | rfl | trivial⟩
                      case measure => have := HIN.out; simp [intOf] <;> omega
                · have hii : ¬ (i : Int) < (N : Int) := by omega
                  have hie : i = N := by omega
                  subst hie
                  have HOK := Lib.hid (show gridB g = true from by rw [HFIN.out, decide_eq_true]; exact HPR.out)
                  clear q2 hpre hin hi
                  go_wp2
                  go_ret
                  exact ⟨by rw [HOK.out]; first | done | rfl | simp, HB1.out.trans (HBS.out.mono HB1.out.size)⟩
set_option maxRecDepth 100000 in
set_option maxHeartbeats 4000000 in
theorem rGrid_any (Aw Af : Option Addr) (nw nf cw cf : Nat) (g : Gv) (w : World) (hG : GAt w w.heap.size Aw nw Af nf g) :
    Calls Tryz.prog 17 #[.agg #[.int .i64 g.nodes, .slice Aw nw cw, .slice Af nf cf, .int .i64 g.least]] w fun e w' => e = .returned (.bool (gridB g)) ∧ Below w.heap.size w w' := by
  cases hn : inB g.nodes 1 40 with
  | true =>
    have h := inB_iff.1 hn
    exact rGridN_any Aw Af nw nf cw cf g.nodes.toNat g w (by omega) (by omega) (by omega) hG
  | false =>
    have HBAD := Lib.hid (show gridB g = false from by unfold gridB; rw [hn]; rfl)
    have HC0 := Lib.hid (show ∀ wx, Calls Tryz.prog 50 #[.int .i64 g.nodes, .int .i64 1, .int .i64 40] wx fun e w' => e = .returned (.bool false) ∧ wx = w' from fun wx => by have := in_any g.nodes 1 40 wx; rwa [hn] at this)
    have hb1 := (Below.refl w.heap.size w).alloc (Nat.le_refl _) (.cells #[.int .i64 g.nodes, .slice Aw nw cw, .slice Af nf cf, .int .i64 g.least] 25)
    have q1 := Rw.new w #[.int .i64 g.nodes, .slice Aw nw cw, .slice Af nf cf, .int .i64 g.least] 25
    obtain ⟨W1, hW1⟩ : ∃ z, w.alloc (.cells #[.int .i64 g.nodes, .slice Aw nw cw, .slice Af nf cf, .int .i64 g.least] 25) = z := ⟨_, rfl⟩
    rw [hW1] at hb1 q1
    have e0 := q1.cell 0; have e1 := q1.cell 1; have e2 := q1.cell 2; have e3 := q1.cell 3
    have HB1 := Lib.hid hb1
    clear hb1 q1 hn hG
    go_enter Tryz.func17, Tryz.ntmps17
    go_wp2_with fail
    (with_reducible refine (HC0.out _).mono ?_)
    rintro e w2 ⟨rfl, rfl⟩
    go_wp2
    go_ret
    exact ⟨by rw [HBAD.out]; first | done | rfl | simp, HB1.out⟩
end Go.Proofs.YtbnfnpakibkboaaGreat
