/- Texts C2 C3 C4 So C5 C6. -/
import Derived.Test.YtbnfnpakibkboaaGreatKC
import Derived.Shelf.SortM.Plain
import Derived.Shelf.SortM.SortNone
import Derived.Ground.SlgmProg
import Derived.Sort.OwnSortedInts
import Derived.Test.YtbnfnpakibkboaaGreatJQ
import Derived.Deep.DeepMust
namespace Go.Proofs.YtbnfnpakibkboaaGreat
set_option linter.unusedVariables false
set_option linter.unusedSimpArgs false
open Go.RowKit

def wireB (N : Int) (x : Wv) : Bool := inB x.a 0 (N - 1) && (inB x.b 0 (N - 1) && (!decide (x.a = x.b) && inB x.s 1 4))
def dg (x : Wv) (k : Nat) : Int := (if x.a = (k : Int) then 1 else 0) + (if x.b = (k : Int) then 1 else 0)
def degI (ws : List Wv) (k : Nat) : Int := (ws.map fun x => dg x k).sum
def wiresB (N : Nat) (ws : List Wv) : Bool := decide (ws.length ≤ 80) && (ws.all (wireB N) && (List.range N).all fun k => decide (degI ws k ≤ 3))
theorem degI_succ {ws : List Wv} {i : Nat} (hi : i < ws.length) (k : Nat) : degI (ws.take (i + 1)) k = degI (ws.take i) k + dg ws[i] k := by
  unfold degI; rw [List.take_succ_eq_append_getElem hi, List.map_append, List.sum_append]; simp
theorem dg_le (x : Wv) (k : Nat) : 0 ≤ dg x k ∧ dg x k ≤ 2 := by unfold dg; split <;> split <;> omega
theorem degI_le (ws : List Wv) (k : Nat) : 0 ≤ degI ws k ∧ degI ws k ≤ 2 * ws.length := by
  unfold degI
  induction ws with
  | nil => simp
  | cons x ws ih => have := dg_le x k; simp only [List.map_cons, List.sum_cons, List.length_cons]; omega
set_option maxRecDepth 100000 in
set_option maxHeartbeats 4000000 in
theorem max_any (gb n : Nat) (F : Nat → Int) (w : World) (hn : 1 ≤ n) (hn2 : n ≤ 100000) (hc : ∀ k, k < n → w.cell? ⟨gb, k, none⟩ = some (.int .i64 (F k))) (hg : gb < w.heap.size) :
    Calls Tryz.prog 89 #[.slice (some ⟨gb, 0, none⟩) n n] w fun e w' => ∃ m : Int, e = .returned (.int .i64 m) ∧ (∀ k, k < n → F k ≤ m) ∧ (∃ k, k < n ∧ F k = m) ∧ w = w' := by
  have HC := Lib.hid hc
  have HG := Lib.hid hg
  have c0 := hc 0 (by omega)
  have h1 : ¬ (n : Int) < 1 := by omega
  have h2 : (0 : Int) < (n : Int) := by omega
  clear hc
  obtain ⟨x0, hx0⟩ : ∃ x, F 0 = x := ⟨_, rfl⟩
  rw [hx0] at c0
  have HX := Lib.hid hx0
  clear hx0
  go_enter Tryz.func89, Tryz.ntmps89
  go_wp2
  clear c0
  go_loopw [3, 4] (fun s3 s4 wr => ∃ (i : Nat) (m : Int), 1 ≤ i ∧ i ≤ n ∧ s4 = .int .i64 (i : Int) ∧ s3 = .int .i64 m ∧ (∀ k, k < i → F k ≤ m) ∧ (∃ k, k < i ∧ F k = m) ∧ w = wr) (fun _ s4 _ => n - (intOf s4).toNat)
  case atStart => exact ⟨1, x0, by omega, by omega, rfl, rfl, fun k hk => by have : k = 0 := by omega
                                                                             rw [this, HX.out]; exact Int.le_refl _, ⟨0, by omega, HX.out⟩, rfl⟩
  case round =>
    obtain ⟨i, m, hi1, hi, rfl, rfl, hle, hex, rfl⟩ := hrel
    have HLE := Lib.hid hle; have HEX := Lib.hid hex
    clear hle hex
    by_cases hin : i < n
    · have hii : (i : Int) < (n : Int) := by omega
      have hi0 : (0 : Int) ≤ (i : Int) := by omega
      have c1 := HC.out i hin
      obtain ⟨x, hx⟩ : ∃ x, F i = x := ⟨_, rfl⟩
      rw [hx] at c1
      have HXI := Lib.hid hx
      have HI := Lib.hid hin
      clear hx hin
      rcases Int.le_total x m with hxm | hxm
      · have hmx : max m x = m := Int.max_eq_left hxm
        have HXM := Lib.hid hxm
        go_wp2
        all_goals first
          | (go_roundw
             case rel => exact ⟨i + 1, m, by omega, by have := HI.out; omega, by simp, by first | rfl | (rw [hmx]) | (have := HXM.out; congr 1; split <;> omega), fun k hk => by
                           rcases Nat.lt_or_ge k i with q | q
                           · exact HLE.out k q
                           · have : k = i := by omega
                             rw [this, HXI.out]; exact HXM.out, by obtain ⟨k, hk, e⟩ := HEX.out; exact ⟨k, by omega, e⟩, by first | rfl | trivial⟩
             case measure => have := HI.out; simp [intOf] <;> omega)
      · have hmx : max m x = x := Int.max_eq_right hxm
        have HXM := Lib.hid hxm
        go_wp2
        all_goals first
          | (go_roundw
             case rel => exact ⟨i + 1, x, by omega, by have := HI.out; omega, by simp, by first | rfl | (rw [hmx]) | (have := HXM.out; congr 1; split <;> omega), fun k hk => by
                           rcases Nat.lt_or_ge k i with q | q
                           · exact Int.le_trans (HLE.out k q) HXM.out
                           · have : k = i := by omega
                             rw [this, HXI.out]; exact Int.le_refl _, ⟨i, by omega, HXI.out⟩, by first | rfl | trivial⟩
             case measure => have := HI.out; simp [intOf] <;> omega)
    · have hii : ¬ (i : Int) < (n : Int) := by omega
      have hie : i = n := by omega
      have HF := Lib.hid (show (∀ k, k < n → F k ≤ m) ∧ (∃ k, k < n ∧ F k = m) from by rw [← hie]; exact ⟨HLE.out, HEX.out⟩)
      clear hie hi hin
      go_wp2
      go_ret
      exact ⟨m, rfl, HF.out.1, HF.out.2, rfl⟩
set_option maxRecDepth 100000 in
set_option maxHeartbeats 4000000 in
theorem wiresRight_any (Aw Af : Option Addr) (nw nf cw cf N : Nat) (g : Gv) (w : World) (hN : g.nodes = N) (hN1 : 1 ≤ N) (hN2 : N ≤ 40) (hG : GAt w w.heap.size Aw nw Af nf g) :
    Calls Tryz.prog 71 #[.agg #[.int .i64 g.nodes, .slice Aw nw cw, .slice Af nf cf, .int .i64 g.least]] w fun e w' => e = .returned (.bool (wiresB N g.wires)) ∧ Below w.heap.size w w' := by
  obtain ⟨i0, hi, hz0, hz1, hz2⟩ := info_parts info3
  have hmk := fun W : World => run_mk (P := Tryz.prog) 40 3 i0 _ 1 Tryz.underlying40 hi hz0 hz1 (N : Int) (N : Int) N N rfl rfl (by omega) (by rw [hz2]; omega) (by omega) W
  rw [hN]
  have hb1 := (Below.refl w.heap.size w).alloc (Nat.le_refl _) (.cells #[.int .i64 (N : Int), .slice Aw nw cw, .slice Af nf cf, .int .i64 g.least] 25)
  have q1 := Rw.new w #[.int .i64 (N : Int), .slice Aw nw cw, .slice Af nf cf, .int .i64 g.least] 25
  have hG1 := (hG.below hb1).more hb1.size
  obtain ⟨W1, hW1⟩ : ∃ z, w.alloc (.cells #[.int .i64 (N : Int), .slice Aw nw cw, .slice Af nf cf, .int .i64 g.least] 25) = z := ⟨_, rfl⟩
  rw [hW1] at hb1 q1 hG1
  have e0 := q1.cell 0; have e1 := q1.cell 1
  have HB1 := Lib.hid hb1; have HQ := Lib.hid q1; have HG := Lib.hid hG1; have HN := Lib.hid (And.intro hN1 hN2)
  have HWL := Lib.hid hG1.wl; have HWM := Lib.hid hG1.wm
  have hwm := hG1.wm
  clear hG hG1 hb1 q1 hN hN1
  by_cases h80 : nw ≤ 80
  · have h81 : ¬ (80 : Int) < (nw : Int) := by omega
    go_enter Tryz.func71, Tryz.ntmps71
    go_upto_region 4 with (fail)
    have hR := Rf.made1 W1 (.int .i64 0) N 3
    have hb2 := (Below.refl W1.heap.size W1).alloc (Nat.le_refl _) (.cells (madeCells #[.int .i64 0] N) 3)
    obtain ⟨W2, hW2⟩ : ∃ z, W1.alloc (.cells (madeCells #[.int .i64 0] N) 3) = z := ⟨_, rfl⟩
    rw [hW2] at hR hb2 ⊢
    obtain ⟨M, hM⟩ : ∃ n, W1.heap.size = n := ⟨_, rfl⟩
    rw [hM] at hR ⊢
    have HM := Lib.hid hM
    have HB2 := Lib.hid hb2
    have HR := Lib.hid (show Rf W2 M 3 N (fun k => .int .i64 (degI (g.wires.take 0) k)) from hR)
    have q2 := HQ.out.below hb2 HQ.out.lt
    have e0 := q2.cell 0; have e1 := q2.cell 1
    clear hR hb2 hM hW2 q2 hmk
    go_wp2
    clear e0 e1
    go_loopw [16] (fun s16 wr => ∃ i : Nat, i ≤ nw ∧ s16 = .int .i64 (i : Int) ∧ (g.wires.take i).all (wireB N) = true ∧ Rf wr M 3 N (fun k => .int .i64 (degI (g.wires.take i) k)) ∧ Below W1.heap.size W1 wr) (fun s16 _ => nw - (intOf s16).toNat)
    case atStart => exact ⟨0, Nat.zero_le _, rfl, rfl, HR.out, HB2.out⟩
    case round =>
      obtain ⟨i, hi, rfl, hall, hrf, hbr⟩ := hrel
      have HAL := Lib.hid hall; have HRF := Lib.hid hrf; have HBR := Lib.hid hbr
      have q2 := HQ.out.below hbr HQ.out.lt
      have e0 := q2.cell 0; have e1 := q2.cell 1
      have hgr := HG.out.below hbr
      by_cases hin : i < nw
      · have hii : (i : Int) < (nw : Int) := by omega
        have hi0 : (0 : Int) ≤ (i : Int) := by omega
        have hil : i < g.wires.length := by have := HWL.out; omega
        obtain ⟨b, o, rfl, hbb, c0, c1, c2, c3⟩ := wire_at hgr.ws hil
        obtain ⟨x, hx⟩ : ∃ x, g.wires[i] = x := ⟨_, rfl⟩
        rw [hx] at c0 c1 c2 c3
        clear q2 hgr hall hrf hbr
        go_upto_region 7 with (fail)
        have q3 := Rw.new wr #[.int .i64 x.a, .int .i64 x.b, .int .i64 x.s, .bool x.sw] 60
        have hb3 := (Below.refl wr.heap.size wr).alloc (Nat.le_refl _) (.cells #[.int .i64 x.a, .int .i64 x.b, .int .i64 x.s, .bool x.sw] 60)
        obtain ⟨W3, hW3⟩ : ∃ z, wr.alloc (.cells #[.int .i64 x.a, .int .i64 x.b, .int .i64 x.s, .bool x.sw] 60) = z := ⟨_, rfl⟩
        rw [hW3] at q3 hb3 ⊢
        have HB3 := Lib.hid (HBR.out.trans (hb3.mono HBR.out.size))
        have HRF3 := Lib.hid (HRF.out.below hb3 HRF.out.lt)
        have HMW := Lib.hid HRF.out.lt
        obtain ⟨M3, hM3⟩ : ∃ n, wr.heap.size = n := ⟨_, rfl⟩
        rw [hM3] at q3 ⊢
        have HMM := Lib.hid (show M < M3 from by rw [← hM3]; exact HRF.out.lt)
        have q2 := HQ.out.below HB3.out HQ.out.lt
        have e0 := q2.cell 0; have e1 := q2.cell 1
        have d0 := q3.cell 0; have d1 := q3.cell 1; have d2 := q3.cell 2; have d3 := q3.cell 3
        have HQ3 := Lib.hid q3
        have hwN : IntKind.i64.wrap ((N : Int) - 1) = (N : Int) - 1 := by have := HN.out; rw [IntKind.wrap_i64]; omega
        have HBAD := Lib.hid (show wireB N x = false → wiresB N g.wires = false from fun h => by
          have : g.wires.all (wireB N) = false := by rw [List.all_eq_false]; exact ⟨x, by rw [← hx]; exact List.getElem_mem hil, by rw [h]; simp⟩
          unfold wiresB; rw [this]; simp)
        have HGO := Lib.hid (show wireB N x = true → (g.wires.take (i + 1)).all (wireB N) = true from fun h => by
          rw [List.take_succ_eq_append_getElem hil, List.all_append, HAL.out, hx]; simp [h])
        have HDG := Lib.hid (show ∀ k, degI (g.wires.take (i + 1)) k = degI (g.wires.take i) k + dg x k from fun k => by rw [degI_succ hil, hx])
        have HLE := Lib.hid (show ∀ k, 0 ≤ degI (g.wires.take i) k ∧ degI (g.wires.take i) k ≤ 200000 from fun k => by
          have := degI_le (g.wires.take i) k; have h2 := List.length_take_le i g.wires; have := HWM.out; omega)
        obtain ⟨b0, hb0⟩ : ∃ v, inB x.a 0 ((N : Int) - 1) = v := ⟨_, rfl⟩
        obtain ⟨b1, hb1⟩ : ∃ v, inB x.b 0 ((N : Int) - 1) = v := ⟨_, rfl⟩
        obtain ⟨b3, hb3'⟩ : ∃ v, inB x.s 1 4 = v := ⟨_, rfl⟩
        have HW0 := Lib.hid (show ∀ wx, Calls Tryz.prog 70 #[.int .i64 x.a, .int .i64 0, .int .i64 ((N : Int) - 1)] wx fun e w' => e = .returned (.bool b0) ∧ wx = w' from fun wx => by have := within_any x.a 0 ((N : Int) - 1) wx; rwa [hb0] at this)
        have HW1 := Lib.hid (show ∀ wx, Calls Tryz.prog 70 #[.int .i64 x.b, .int .i64 0, .int .i64 ((N : Int) - 1)] wx fun e w' => e = .returned (.bool b1) ∧ wx = w' from fun wx => by have := within_any x.b 0 ((N : Int) - 1) wx; rwa [hb1] at this)
        have HW3 := Lib.hid (show ∀ wx, Calls Tryz.prog 70 #[.int .i64 x.s, .int .i64 1, .int .i64 4] wx fun e w' => e = .returned (.bool b3) ∧ wx = w' from fun wx => by have := within_any x.s 1 4 wx; rwa [hb3'] at this)
        have HWB := Lib.hid (show wireB N x = (b0 && (b1 && (!decide (x.a = x.b) && b3))) from by unfold wireB; rw [hb0, hb1, hb3'])
        have HA0 := Lib.hid (show b0 = true → 0 ≤ x.a ∧ x.a < N from fun h => by have := inB_iff.1 (hb0.trans h); omega)
        have HA1 := Lib.hid (show b1 = true → 0 ≤ x.b ∧ x.b < N from fun h => by have := inB_iff.1 (hb1.trans h); omega)
        have HIN := Lib.hid hin
        clear c0 c1 c2 c3 hx hb0 hb1 hb3' q2 q3 hW3 hM3 hb3 hil hin hii hbb
        go_wp2_with fail
        (with_reducible refine (HW0.out _).mono ?_)
        rintro e w3 ⟨rfl, rfl⟩
        cases b0 with
        | false =>
          go_wp2
          go_ret
          exact ⟨by rw [HBAD.out (by rw [HWB.out]; rfl)]; first | done | rfl | simp, HB1.out.trans (HB3.out.mono HB1.out.size)⟩
        | true =>
          go_wp2_with fail
          (with_reducible refine (HW1.out _).mono ?_)
          rintro e w3 ⟨rfl, rfl⟩
          cases b1 with
          | false =>
            go_wp2
            go_ret
            exact ⟨by rw [HBAD.out (by rw [HWB.out]; rfl)]; first | done | rfl | simp, HB1.out.trans (HB3.out.mono HB1.out.size)⟩
          | true =>
            by_cases hab : x.a = x.b
            · have HAB := Lib.hid hab
              go_wp2
              go_ret
              exact ⟨by rw [HBAD.out (by rw [HWB.out, decide_eq_true HAB.out]; rfl)]; first | done | rfl | simp, HB1.out.trans (HB3.out.mono HB1.out.size)⟩
            · have HAB := Lib.hid hab
              have hbe : (x.a == x.b) = false := by simpa using hab
              go_wp2_with fail
              (with_reducible refine (HW3.out _).mono ?_)
              rintro e w3 ⟨rfl, rfl⟩
              cases b3 with
              | false =>
                go_wp2
                go_ret
                exact ⟨by rw [HBAD.out (by rw [HWB.out]; simp)]; first | done | rfl | simp, HB1.out.trans (HB3.out.mono HB1.out.size)⟩
              | true =>
                have HWT := Lib.hid (HGO.out (by rw [HWB.out, decide_eq_false HAB.out]; rfl))
                obtain ⟨na, hna⟩ : ∃ n : Nat, x.a = (n : Int) := ⟨x.a.toNat, by have := HA0.out (by first | rfl | trivial); omega⟩
                obtain ⟨nb, hnb⟩ : ∃ n : Nat, x.b = (n : Int) := ⟨x.b.toNat, by have := HA1.out (by first | rfl | trivial); omega⟩
                have haN : na < N := by have := HA0.out (by first | rfl | trivial); omega
                have hbN : nb < N := by have := HA1.out (by first | rfl | trivial); omega
                have hxab : na ≠ nb := by intro e; exact HAB.out (by rw [hna, hnb, e])
                have hdg : ∀ k, dg x k = (if k = na then 1 else 0) + (if k = nb then 1 else 0) := fun k => by
                  unfold dg; rw [hna, hnb]
                  by_cases p : k = na <;> by_cases q : k = nb <;> simp [p, q] <;> omega
                rw [hna] at d0
                rw [hnb] at d1
                obtain ⟨va, hva⟩ : ∃ v, degI (g.wires.take i) na = v := ⟨_, rfl⟩
                obtain ⟨vb, hvb⟩ : ∃ v, degI (g.wires.take i) nb = v := ⟨_, rfl⟩
                have r3 := HRF3.out
                have ga := r3.cell haN
                have fa := r3.frozen na
                rw [hva] at ga
                have r4 := r3.set na (.int .i64 (va + 1))
                have hb4 : Below W1.heap.size W1 (W3.setCell ⟨M, na, none⟩ (.int .i64 (va + 1))) := HB3.out.setCell (by rw [HM.out]; exact Nat.le_refl _) _
                have q4 := HQ3.out.far na (.int .i64 (va + 1)) (show M3 ≠ M from by have := HMM.out; omega)
                have q2' := HQ.out.below hb4 HQ.out.lt
                have gb := r4.cell hbN
                have fb := r4.frozen nb
                rw [if_neg (Ne.symm hxab), hvb] at gb
                have r5 := r4.set nb (.int .i64 (vb + 1))
                have hb5 : Below W1.heap.size W1 ((W3.setCell ⟨M, na, none⟩ (.int .i64 (va + 1))).setCell ⟨M, nb, none⟩ (.int .i64 (vb + 1))) := hb4.setCell (by rw [HM.out]; exact Nat.le_refl _) _
                have HEND := Lib.hid (show Rf ((W3.setCell ⟨M, na, none⟩ (.int .i64 (va + 1))).setCell ⟨M, nb, none⟩ (.int .i64 (vb + 1))) M 3 N (fun k => .int .i64 (degI (g.wires.take (i + 1)) k)) from r5.congr (fun k hk => by
                  rw [HDG.out, hdg]
                  by_cases p : k = nb
                  · subst p; rw [if_pos rfl, if_neg (Ne.symm hxab), if_pos rfl, hvb]; simp
                  · rw [if_neg p]
                    by_cases q : k = na
                    · subst q; rw [if_pos rfl, if_pos rfl, if_neg hxab, hva]; simp
                    · rw [if_neg q, if_neg q, if_neg p]; simp))
                have HB5 := Lib.hid hb5
                have hwa : IntKind.i64.wrap (va + 1) = va + 1 := by have := HLE.out na; rw [hva] at this; rw [IntKind.wrap_i64]; omega
                have hwb : IntKind.i64.wrap (vb + 1) = vb + 1 := by have := HLE.out nb; rw [hvb] at this; rw [IntKind.wrap_i64]; omega
                have haI : (na : Int) < (N : Int) := by omega
                have hbI : (nb : Int) < (N : Int) := by omega
                have ha0 : (0 : Int) ≤ (na : Int) := by omega
                have hb0 : (0 : Int) ≤ (nb : Int) := by omega
                have d1' := q4.cell 1
                rw [hnb] at d1'
                have hI := HIN.out
                have HI := Lib.hid hI
                clear r3 r4 r5 hb4 hb5 q4 q2' hdg hva hvb haN hbN hxab hna hnb hI hab hbe
                go_upto_region 9 with (fail)
                go_wp2
                go_roundw
                case rel => exact ⟨i + 1, by have := HI.out; omega, by simp, HWT.out, HEND.out, HB5.out⟩
                case measure => have := HI.out; simp [intOf] <;> omega
      · have hii : ¬ (i : Int) < (nw : Int) := by omega
        have hie : i = nw := by omega
        subst hie
        have htk : g.wires.take i = g.wires := List.take_of_length_le (by have := HWL.out; omega)
        rw [htk] at hall hrf
        have hmax := max_any M N (fun k => degI g.wires k) wr HN.out.1 (by omega) (fun k hk => hrf.cell hk) hrf.lt
        have HMX := Lib.hid hmax
        have HALL := Lib.hid hall
        have HLN := Lib.hid (show g.wires.length ≤ 80 from by have := HWL.out; omega)
        clear hall hrf htk HAL HRF hmax hi q2 hgr hbr
        go_wp2_with fail
        (with_reducible refine (HMX.out).mono ?_)
        rintro e w3 ⟨m, rfl, hm1, hm2, rfl⟩
        have HM1 := Lib.hid hm1; have HM2 := Lib.hid hm2
        clear hm1 hm2
        have HFIN := Lib.hid (show wiresB N g.wires = decide (m ≤ 3) from by
          unfold wiresB
          rw [decide_eq_true HLN.out, HALL.out, Bool.true_and, Bool.true_and]
          by_cases h3 : m ≤ 3
          · rw [decide_eq_true h3, List.all_eq_true]
            intro k hk; have := HM1.out k (List.mem_range.1 hk); exact decide_eq_true (by omega)
          · rw [decide_eq_false h3, List.all_eq_false]
            obtain ⟨k, hk, e⟩ := HM2.out
            exact ⟨k, List.mem_range.2 hk, by simp; omega⟩)
        go_wp2
        go_ret
        exact ⟨by rw [HFIN.out]; first | done | rfl | simp, HB1.out.trans (HBR.out.mono HB1.out.size)⟩
  · have h81 : (80 : Int) < (nw : Int) := by omega
    have HBAD := Lib.hid (show wiresB N g.wires = false from by unfold wiresB; rw [decide_eq_false (by have := HWL.out; omega), Bool.false_and])
    go_enter Tryz.func71, Tryz.ntmps71
    go_wp2
    go_ret
    exact ⟨by rw [HBAD.out]; first | done | rfl | simp, HB1.out⟩
end Go.Proofs.YtbnfnpakibkboaaGreat

namespace Go.Proofs.YtbnfnpakibkboaaGreat
set_option linter.unusedVariables false
set_option linter.unusedSimpArgs false
open Go.RowKit

def feedB (N : Int) (x : Fv) : Bool := inB x.pl 0 (N - 1) && (inB x.volts 1 1000 && (inB x.siem 1 4 && inB x.limit 0 2000))
def loadB (N : Int) (x : Lv) : Bool := inB x.pl 0 (N - 1) && (inB x.units (-40) 40 && inB x.rank 0 100)
def distB (l : List Int) : Bool := decide (l.Pairwise (fun x y => x ≠ y))
def feedsB (N : Nat) (fs : List Fv) : Bool := decide (fs.length ≤ 12) && (fs.all (feedB N) && distB (fs.map Fv.pl))
def loadsB (N : Nat) (ls : List Lv) : Bool := ls.all (loadB N) && distB (ls.map Lv.pl)
theorem dist_bad {α : Type} {p : α → Int} {l : List α} {i : Nat} (hi : i < l.length) (h : ((l.take i).any fun y => p y == p l[i]) = true) : distB (l.map p) = false := by
  unfold distB
  rw [decide_eq_false_iff_not, List.pairwise_iff_getElem]
  intro hp
  obtain ⟨y, hy, he⟩ := List.any_eq_true.1 h
  obtain ⟨j, hj, rfl⟩ := List.getElem_of_mem hy
  have hj' : j < i := by have := List.length_take_le i l; omega
  rw [List.getElem_take] at he
  have := hp j i (by simp; omega) (by simpa using hi) hj'
  simp only [List.getElem_map] at this
  exact this (by simpa using he)
theorem dist_next {α : Type} {p : α → Int} {l : List α} {i : Nat} (hi : i < l.length) (h : ((l.take i).any fun y => p y == p l[i]) = false) (hd : distB ((l.take i).map p) = true) : distB ((l.take (i + 1)).map p) = true := by
  unfold distB at hd ⊢
  rw [decide_eq_true_iff] at hd ⊢
  rw [List.take_succ_eq_append_getElem hi, List.map_append, List.pairwise_append]
  refine ⟨hd, by simp, fun a ha b hb => ?_⟩
  simp at hb; subst hb
  obtain ⟨y, hy, rfl⟩ := List.mem_map.1 ha
  have := List.any_eq_false.1 h y hy
  simpa using this
theorem any_take_succ {α : Type} (q : α → Bool) {l : List α} {i : Nat} (hi : i < l.length) : (l.take (i + 1)).any q = ((l.take i).any q || q l[i]) := by
  rw [List.take_succ_eq_append_getElem hi, List.any_append]; simp
set_option maxRecDepth 100000 in
set_option maxHeartbeats 4000000 in
theorem feedsRight_any (Aw Af : Option Addr) (nw nl cw cf N : Nat) (g : Gv) (w : World) (hN : g.nodes = N) (hN1 : 1 ≤ N) (hN2 : N ≤ 40) (hG : GAt w w.heap.size Aw nw Af nl g) :
    Calls Tryz.prog 72 #[.agg #[.int .i64 g.nodes, .slice Aw nw cw, .slice Af nl cf, .int .i64 g.least]] w fun e w' => e = .returned (.bool (feedsB N g.feeds)) ∧ Below w.heap.size w w' := by
  obtain ⟨i0, hi, hz0, hz1, hz2⟩ := info_parts info4
  have hmk := fun W : World => run_mk (P := Tryz.prog) 26 4 i0 _ 1 Tryz.underlying26 hi hz0 hz1 (N : Int) (N : Int) N N rfl rfl (by omega) (by rw [hz2]; omega) (by omega) W
  rw [hN]
  have hb1 := (Below.refl w.heap.size w).alloc (Nat.le_refl _) (.cells #[.int .i64 (N : Int), .slice Aw nw cw, .slice Af nl cf, .int .i64 g.least] 25)
  have q1 := Rw.new w #[.int .i64 (N : Int), .slice Aw nw cw, .slice Af nl cf, .int .i64 g.least] 25
  have hS1 := (hG.below hb1).fs.more (fun _ _ h => h) hb1.size
  have hll := hG.fl; have hlm := hG.fm
  clear hG
  obtain ⟨W1, hW1⟩ : ∃ z, w.alloc (.cells #[.int .i64 (N : Int), .slice Aw nw cw, .slice Af nl cf, .int .i64 g.least] 25) = z := ⟨_, rfl⟩
  rw [hW1] at hb1 q1 hS1
  have e0 := q1.cell 0; have e2 := q1.cell 2
  have HB1 := Lib.hid hb1; have HQ := Lib.hid q1; have HS := Lib.hid hS1; have HN := Lib.hid (And.intro hN1 hN2)
  have HLL := Lib.hid hll; have HLM := Lib.hid hlm
  clear hS1 hb1 q1 hN hN1
  by_cases h80 : nl ≤ 12
  · have h81 : ¬ (12 : Int) < (nl : Int) := by omega
    go_enter Tryz.func72, Tryz.ntmps72
    go_upto_region 4 with (fail)
    have hR := Rf.made1 W1 (.bool false) N 4
    have hb2 := (Below.refl W1.heap.size W1).alloc (Nat.le_refl _) (.cells (madeCells #[.bool false] N) 4)
    obtain ⟨W2, hW2⟩ : ∃ z, W1.alloc (.cells (madeCells #[.bool false] N) 4) = z := ⟨_, rfl⟩
    rw [hW2] at hR hb2 ⊢
    obtain ⟨M, hM⟩ : ∃ n, W1.heap.size = n := ⟨_, rfl⟩
    rw [hM] at hR ⊢
    have HM := Lib.hid hM
    have HB2 := Lib.hid hb2
    have HR := Lib.hid (show Rf W2 M 4 N (fun k => .bool ((g.feeds.take 0).any fun y => y.pl == (k : Int))) from hR)
    have q2 := HQ.out.below hb2 HQ.out.lt
    have e0 := q2.cell 0; have e2 := q2.cell 2
    clear hR hb2 hM hW2 q2 hmk
    go_wp2
    clear e0 e2
    go_loopw [16] (fun sl wr => ∃ i : Nat, i ≤ nl ∧ sl = .int .i64 (i : Int) ∧ (g.feeds.take i).all (feedB N) = true ∧ distB ((g.feeds.take i).map Fv.pl) = true ∧ Rf wr M 4 N (fun k => .bool ((g.feeds.take i).any fun y => y.pl == (k : Int))) ∧ Below W1.heap.size W1 wr) (fun sl _ => nl - (intOf sl).toNat)
    case atStart => exact ⟨0, Nat.zero_le _, rfl, rfl, rfl, HR.out, HB2.out⟩
    case round =>
      obtain ⟨i, hi, rfl, hall, hdis, hrf, hbr⟩ := hrel
      have HAL := Lib.hid hall; have HDI := Lib.hid hdis; have HRF := Lib.hid hrf; have HBR := Lib.hid hbr
      have q2 := HQ.out.below hbr HQ.out.lt
      have e0 := q2.cell 0; have e2 := q2.cell 2
      have hgr := HS.out.below hbr
      by_cases hin : i < nl
      · have hii : (i : Int) < (nl : Int) := by omega
        have hi0 : (0 : Int) ≤ (i : Int) := by omega
        have hil : i < g.feeds.length := by have := HLL.out; omega
        obtain ⟨b, o, rfl, hbb, c0, c1, c2, c3⟩ := feed_at hgr hil
        obtain ⟨x, hx⟩ : ∃ x, g.feeds[i] = x := ⟨_, rfl⟩
        rw [hx] at c0 c1 c2 c3
        clear q2 hgr hall hdis hrf hbr
        go_upto_region 7 with (fail)
        have q3 := Rw.new wr #[.int .i64 x.pl, .int .i64 x.volts, .int .i64 x.siem, .int .i64 x.limit] 58
        have hb3 := (Below.refl wr.heap.size wr).alloc (Nat.le_refl _) (.cells #[.int .i64 x.pl, .int .i64 x.volts, .int .i64 x.siem, .int .i64 x.limit] 58)
        obtain ⟨W3, hW3⟩ : ∃ z, wr.alloc (.cells #[.int .i64 x.pl, .int .i64 x.volts, .int .i64 x.siem, .int .i64 x.limit] 58) = z := ⟨_, rfl⟩
        rw [hW3] at q3 hb3 ⊢
        have HB3 := Lib.hid (HBR.out.trans (hb3.mono HBR.out.size))
        have HRF3 := Lib.hid (HRF.out.below hb3 HRF.out.lt)
        obtain ⟨M3, hM3⟩ : ∃ n, wr.heap.size = n := ⟨_, rfl⟩
        rw [hM3] at q3 ⊢
        have HMM := Lib.hid (show M < M3 from by rw [← hM3]; exact HRF.out.lt)
        have q2 := HQ.out.below HB3.out HQ.out.lt
        have e0 := q2.cell 0; have e2 := q2.cell 2
        have d0 := q3.cell 0; have d1 := q3.cell 1; have d2 := q3.cell 2; have d3 := q3.cell 3
        have HQ3 := Lib.hid q3
        have hwN : IntKind.i64.wrap ((N : Int) - 1) = (N : Int) - 1 := by have := HN.out; rw [IntKind.wrap_i64]; omega
        have HBAD := Lib.hid (show feedB N x = false → feedsB N g.feeds = false from fun h => by
          have : g.feeds.all (feedB N) = false := by rw [List.all_eq_false]; exact ⟨x, by rw [← hx]; exact List.getElem_mem hil, by rw [h]; simp⟩
          unfold feedsB; rw [this]; simp)
        have HDUP := Lib.hid (show ((g.feeds.take i).any fun y => y.pl == x.pl) = true → feedsB N g.feeds = false from fun h => by
          have := dist_bad (p := Fv.pl) hil (by rw [hx]; exact h)
          unfold feedsB; rw [this]; simp)
        have HGO := Lib.hid (show feedB N x = true → (g.feeds.take (i + 1)).all (feedB N) = true from fun h => by
          rw [List.take_succ_eq_append_getElem hil, List.all_append, HAL.out, hx]; simp [h])
        have HGD := Lib.hid (show ((g.feeds.take i).any fun y => y.pl == x.pl) = false → distB ((g.feeds.take (i + 1)).map Fv.pl) = true from fun h => dist_next hil (by rw [hx]; exact h) HDI.out)
        have HAN := Lib.hid (show ∀ k : Int, ((g.feeds.take (i + 1)).any fun y => y.pl == k) = (((g.feeds.take i).any fun y => y.pl == k) || (x.pl == k)) from fun k => by rw [any_take_succ _ hil, hx])
        obtain ⟨b0, hc0⟩ : ∃ v, inB x.pl 0 ((N : Int) - 1) = v := ⟨_, rfl⟩
        have HW0 := Lib.hid (show ∀ wx, Calls Tryz.prog 70 #[.int .i64 x.pl, .int .i64 0, .int .i64 ((N : Int) - 1)] wx fun e w' => e = .returned (.bool b0) ∧ wx = w' from fun wx => by have := within_any x.pl 0 ((N : Int) - 1) wx; rwa [hc0] at this)
        obtain ⟨b1, hc1⟩ : ∃ v, inB x.volts 1 1000 = v := ⟨_, rfl⟩
        have HW1 := Lib.hid (show ∀ wx, Calls Tryz.prog 70 #[.int .i64 x.volts, .int .i64 1, .int .i64 1000] wx fun e w' => e = .returned (.bool b1) ∧ wx = w' from fun wx => by have := within_any x.volts 1 1000 wx; rwa [hc1] at this)
        obtain ⟨b2, hc2⟩ : ∃ v, inB x.siem 1 4 = v := ⟨_, rfl⟩
        have HW2 := Lib.hid (show ∀ wx, Calls Tryz.prog 70 #[.int .i64 x.siem, .int .i64 1, .int .i64 4] wx fun e w' => e = .returned (.bool b2) ∧ wx = w' from fun wx => by have := within_any x.siem 1 4 wx; rwa [hc2] at this)
        obtain ⟨b3, hc3⟩ : ∃ v, inB x.limit 0 2000 = v := ⟨_, rfl⟩
        have HW3 := Lib.hid (show ∀ wx, Calls Tryz.prog 70 #[.int .i64 x.limit, .int .i64 0, .int .i64 2000] wx fun e w' => e = .returned (.bool b3) ∧ wx = w' from fun wx => by have := within_any x.limit 0 2000 wx; rwa [hc3] at this)
        have HWB := Lib.hid (show feedB N x = (b0 && (b1 && (b2 && (b3)))) from by unfold feedB; rw [hc0, hc1, hc2, hc3])
        have HA0 := Lib.hid (show b0 = true → 0 ≤ x.pl ∧ x.pl < N from fun h => by have := inB_iff.1 (hc0.trans h); omega)
        have HIN := Lib.hid hin
        clear c0 c1 c2 c3 hx hc0 hc1 hc2 hc3 q2 q3 hW3 hM3 hb3 hil hin hii hbb
        go_wp2_with fail
        (with_reducible refine (HW0.out _).mono ?_)
        rintro e w3 ⟨rfl, rfl⟩
        cases b0 with
        | false =>
          go_wp2
          go_ret
          exact ⟨by rw [HBAD.out (by rw [HWB.out]; rfl)]; first | done | rfl | simp, HB1.out.trans (HB3.out.mono HB1.out.size)⟩
        | true =>
          obtain ⟨na, hna⟩ : ∃ n : Nat, x.pl = (n : Int) := ⟨x.pl.toNat, by have := HA0.out (by first | rfl | trivial); omega⟩
          have haN : na < N := by have := HA0.out (by first | rfl | trivial); omega
          rw [hna] at d0
          have HNA := Lib.hid hna
          have r3 := HRF3.out
          have ga := r3.cell haN
          have fa := r3.frozen na
          have haI : (na : Int) < (N : Int) := by omega
          have ha0 : (0 : Int) ≤ (na : Int) := by omega
          obtain ⟨v, hv⟩ : ∃ v, ((g.feeds.take i).any fun y => y.pl == (na : Int)) = v := ⟨_, rfl⟩
          rw [hv] at ga
          have HV := Lib.hid hv
          rw [← hna] at hv
          have HV2 := Lib.hid hv
          rw [hna]
          clear hv hna
          cases v with
          | true =>
            go_wp2
            go_ret
            exact ⟨by rw [HDUP.out HV2.out]; first | done | rfl | simp, HB1.out.trans (HB3.out.mono HB1.out.size)⟩
          | false =>
            have r4 := r3.set na (.bool true)
            have hb4 : Below W1.heap.size W1 (W3.setCell ⟨M, na, none⟩ (.bool true)) := HB3.out.setCell (by rw [HM.out]; exact Nat.le_refl _) _
            have HEND := Lib.hid (show Rf (W3.setCell ⟨M, na, none⟩ (.bool true)) M 4 N (fun k => .bool ((g.feeds.take (i + 1)).any fun y => y.pl == (k : Int))) from r4.congr (fun k hk => by
              rw [HAN.out]
              by_cases p : k = na
              · subst p; rw [if_pos rfl, HNA.out]; simp
              · rw [if_neg p, HNA.out]
                have : ((na : Int) == (k : Int)) = false := by simp; omega
                rw [this, Bool.or_false]))
            have HB4 := Lib.hid hb4
            clear r3 r4 hb4 haN
            go_wp2_with fail
            (with_reducible refine (HW1.out _).mono ?_)
            rintro e w3 ⟨rfl, rfl⟩
            cases b1 with
            | false =>
              go_wp2
              go_ret
              exact ⟨by rw [HBAD.out (by rw [HWB.out]; simp)]; first | done | rfl | simp, HB1.out.trans (HB3.out.mono HB1.out.size)⟩
            | true =>
              go_wp2_with fail
              (with_reducible refine (HW2.out _).mono ?_)
              rintro e w3 ⟨rfl, rfl⟩
              cases b2 with
              | false =>
                go_wp2
                go_ret
                exact ⟨by rw [HBAD.out (by rw [HWB.out]; simp)]; first | done | rfl | simp, HB1.out.trans (HB3.out.mono HB1.out.size)⟩
              | true =>
                go_wp2_with fail
                (with_reducible refine (HW3.out _).mono ?_)
                rintro e w3 ⟨rfl, rfl⟩
                cases b3 with
                | false =>
                  go_wp2
                  go_ret
                  exact ⟨by rw [HBAD.out (by rw [HWB.out]; simp)]; first | done | rfl | simp, HB1.out.trans (HB3.out.mono HB1.out.size)⟩
                | true =>
                  have HWT := Lib.hid (HGO.out (by rw [HWB.out]; rfl))
                  have HWD := Lib.hid (HGD.out HV2.out)
                  go_upto_region 11 with (fail)
                  go_wp2
                  go_roundw
                  case rel => exact ⟨i + 1, by have := HIN.out; omega, by simp, HWT.out, HWD.out, HEND.out, HB4.out⟩
                  case measure => have := HIN.out; simp [intOf] <;> omega
      · have hii : ¬ (i : Int) < (nl : Int) := by omega
        have hie : i = nl := by omega
        subst hie
        have htk : g.feeds.take i = g.feeds := List.take_of_length_le (by have := HLL.out; omega)
        rw [htk] at hall hdis
        have HFIN := Lib.hid (show feedsB N g.feeds = true from by
          unfold feedsB; rw [hall, hdis]; rw [decide_eq_true (by have := HLL.out; omega)]; rfl)
        clear hall hdis hrf htk HAL HRF HDI hi q2 hgr hbr
        go_wp2
        go_ret
        exact ⟨by rw [HFIN.out]; first | done | rfl | simp, HB1.out.trans (HBR.out.mono HB1.out.size)⟩
  · have h81 : (12 : Int) < (nl : Int) := by omega
    have HBAD := Lib.hid (show feedsB N g.feeds = false from by unfold feedsB; rw [decide_eq_false (by have := HLL.out; omega), Bool.false_and])
    go_enter Tryz.func72, Tryz.ntmps72
    go_wp2
    go_ret
    exact ⟨by rw [HBAD.out]; first | done | rfl | simp, HB1.out⟩
set_option maxRecDepth 100000 in
set_option maxHeartbeats 4000000 in
theorem loadsRight_any (Aw Af Al : Option Addr) (nw nf nl cw cf cl N : Nat) (g : Gv) (ls : List Lv) (w : World) (hN : g.nodes = N) (hN1 : 1 ≤ N) (hN2 : N ≤ 40) (hll : ls.length = nl) (hlm : nl ≤ 100000) (hS : Sl w w.heap.size 3 CL Al ls) :
    Calls Tryz.prog 65 #[.agg #[.int .i64 g.nodes, .slice Aw nw cw, .slice Af nf cf, .int .i64 g.least], .slice Al nl cl] w fun e w' => e = .returned (.bool (loadsB N ls)) ∧ Below w.heap.size w w' := by
  obtain ⟨i0, hi, hz0, hz1, hz2⟩ := info_parts info4
  have hmk := fun W : World => run_mk (P := Tryz.prog) 26 4 i0 _ 1 Tryz.underlying26 hi hz0 hz1 (N : Int) (N : Int) N N rfl rfl (by omega) (by rw [hz2]; omega) (by omega) W
  rw [hN]
  have hb1 := (Below.refl w.heap.size w).alloc (Nat.le_refl _) (.cells #[.int .i64 (N : Int), .slice Aw nw cw, .slice Af nf cf, .int .i64 g.least] 25)
  have q1 := Rw.new w #[.int .i64 (N : Int), .slice Aw nw cw, .slice Af nf cf, .int .i64 g.least] 25
  have hS1 := (hS.below hb1).more (fun _ _ h => h) hb1.size
  clear hS
  obtain ⟨W1, hW1⟩ : ∃ z, w.alloc (.cells #[.int .i64 (N : Int), .slice Aw nw cw, .slice Af nf cf, .int .i64 g.least] 25) = z := ⟨_, rfl⟩
  rw [hW1] at hb1 q1 hS1
  have e0 := q1.cell 0; have e2 := q1.cell 2
  have HB1 := Lib.hid hb1; have HQ := Lib.hid q1; have HS := Lib.hid hS1; have HN := Lib.hid (And.intro hN1 hN2)
  have HLL := Lib.hid hll; have HLM := Lib.hid hlm
  clear hS1 hb1 q1 hN hN1
  go_enter Tryz.func65, Tryz.ntmps65
  go_upto_region 2 with (fail)
  have hR := Rf.made1 W1 (.bool false) N 4
  have hb2 := (Below.refl W1.heap.size W1).alloc (Nat.le_refl _) (.cells (madeCells #[.bool false] N) 4)
  obtain ⟨W2, hW2⟩ : ∃ z, W1.alloc (.cells (madeCells #[.bool false] N) 4) = z := ⟨_, rfl⟩
  rw [hW2] at hR hb2 ⊢
  obtain ⟨M, hM⟩ : ∃ n, W1.heap.size = n := ⟨_, rfl⟩
  rw [hM] at hR ⊢
  have HM := Lib.hid hM
  have HB2 := Lib.hid hb2
  have HR := Lib.hid (show Rf W2 M 4 N (fun k => .bool ((ls.take 0).any fun y => y.pl == (k : Int))) from hR)
  have q2 := HQ.out.below hb2 HQ.out.lt
  have e0 := q2.cell 0; have e2 := q2.cell 2
  clear hR hb2 hM hW2 q2 hmk
  go_wp2
  clear e0 e2
  go_loopw [13] (fun sl wr => ∃ i : Nat, i ≤ nl ∧ sl = .int .i64 (i : Int) ∧ (ls.take i).all (loadB N) = true ∧ distB ((ls.take i).map Lv.pl) = true ∧ Rf wr M 4 N (fun k => .bool ((ls.take i).any fun y => y.pl == (k : Int))) ∧ Below W1.heap.size W1 wr) (fun sl _ => nl - (intOf sl).toNat)
  case atStart => exact ⟨0, Nat.zero_le _, rfl, rfl, rfl, HR.out, HB2.out⟩
  case round =>
    obtain ⟨i, hi, rfl, hall, hdis, hrf, hbr⟩ := hrel
    have HAL := Lib.hid hall; have HDI := Lib.hid hdis; have HRF := Lib.hid hrf; have HBR := Lib.hid hbr
    have q2 := HQ.out.below hbr HQ.out.lt
    have e0 := q2.cell 0; have e2 := q2.cell 2
    have hgr := HS.out.below hbr
    by_cases hin : i < nl
    · have hii : (i : Int) < (nl : Int) := by omega
      have hi0 : (0 : Int) ≤ (i : Int) := by omega
      have hil : i < ls.length := by have := HLL.out; omega
      obtain ⟨b, o, rfl, hbb, c0, c1, c2⟩ := load_at hgr hil
      obtain ⟨x, hx⟩ : ∃ x, ls[i] = x := ⟨_, rfl⟩
      rw [hx] at c0 c1 c2
      clear q2 hgr hall hdis hrf hbr
      go_upto_region 5 with (fail)
      have q3 := Rw.new wr #[.int .i64 x.pl, .int .i64 x.units, .int .i64 x.rank] 79
      have hb3 := (Below.refl wr.heap.size wr).alloc (Nat.le_refl _) (.cells #[.int .i64 x.pl, .int .i64 x.units, .int .i64 x.rank] 79)
      obtain ⟨W3, hW3⟩ : ∃ z, wr.alloc (.cells #[.int .i64 x.pl, .int .i64 x.units, .int .i64 x.rank] 79) = z := ⟨_, rfl⟩
      rw [hW3] at q3 hb3 ⊢
      have HB3 := Lib.hid (HBR.out.trans (hb3.mono HBR.out.size))
      have HRF3 := Lib.hid (HRF.out.below hb3 HRF.out.lt)
      obtain ⟨M3, hM3⟩ : ∃ n, wr.heap.size = n := ⟨_, rfl⟩
      rw [hM3] at q3 ⊢
      have HMM := Lib.hid (show M < M3 from by rw [← hM3]; exact HRF.out.lt)
      have q2 := HQ.out.below HB3.out HQ.out.lt
      have e0 := q2.cell 0; have e2 := q2.cell 2
      have d0 := q3.cell 0; have d1 := q3.cell 1; have d2 := q3.cell 2
      have HQ3 := Lib.hid q3
      have hwN : IntKind.i64.wrap ((N : Int) - 1) = (N : Int) - 1 := by have := HN.out; rw [IntKind.wrap_i64]; omega
      have HBAD := Lib.hid (show loadB N x = false → loadsB N ls = false from fun h => by
        have : ls.all (loadB N) = false := by rw [List.all_eq_false]; exact ⟨x, by rw [← hx]; exact List.getElem_mem hil, by rw [h]; simp⟩
        unfold loadsB; rw [this]; simp)
      have HDUP := Lib.hid (show ((ls.take i).any fun y => y.pl == x.pl) = true → loadsB N ls = false from fun h => by
        have := dist_bad (p := Lv.pl) hil (by rw [hx]; exact h)
        unfold loadsB; rw [this]; simp)
      have HGO := Lib.hid (show loadB N x = true → (ls.take (i + 1)).all (loadB N) = true from fun h => by
        rw [List.take_succ_eq_append_getElem hil, List.all_append, HAL.out, hx]; simp [h])
      have HGD := Lib.hid (show ((ls.take i).any fun y => y.pl == x.pl) = false → distB ((ls.take (i + 1)).map Lv.pl) = true from fun h => dist_next hil (by rw [hx]; exact h) HDI.out)
      have HAN := Lib.hid (show ∀ k : Int, ((ls.take (i + 1)).any fun y => y.pl == k) = (((ls.take i).any fun y => y.pl == k) || (x.pl == k)) from fun k => by rw [any_take_succ _ hil, hx])
      obtain ⟨b0, hc0⟩ : ∃ v, inB x.pl 0 ((N : Int) - 1) = v := ⟨_, rfl⟩
      have HW0 := Lib.hid (show ∀ wx, Calls Tryz.prog 70 #[.int .i64 x.pl, .int .i64 0, .int .i64 ((N : Int) - 1)] wx fun e w' => e = .returned (.bool b0) ∧ wx = w' from fun wx => by have := within_any x.pl 0 ((N : Int) - 1) wx; rwa [hc0] at this)
      obtain ⟨b1, hc1⟩ : ∃ v, inB x.units (-40) 40 = v := ⟨_, rfl⟩
      have HW1 := Lib.hid (show ∀ wx, Calls Tryz.prog 70 #[.int .i64 x.units, .int .i64 (-40), .int .i64 40] wx fun e w' => e = .returned (.bool b1) ∧ wx = w' from fun wx => by have := within_any x.units (-40) 40 wx; rwa [hc1] at this)
      obtain ⟨b2, hc2⟩ : ∃ v, inB x.rank 0 100 = v := ⟨_, rfl⟩
      have HW2 := Lib.hid (show ∀ wx, Calls Tryz.prog 70 #[.int .i64 x.rank, .int .i64 0, .int .i64 100] wx fun e w' => e = .returned (.bool b2) ∧ wx = w' from fun wx => by have := within_any x.rank 0 100 wx; rwa [hc2] at this)
      have HWB := Lib.hid (show loadB N x = (b0 && (b1 && (b2))) from by unfold loadB; rw [hc0, hc1, hc2])
      have HA0 := Lib.hid (show b0 = true → 0 ≤ x.pl ∧ x.pl < N from fun h => by have := inB_iff.1 (hc0.trans h); omega)
      have HIN := Lib.hid hin
      clear c0 c1 c2 hx hc0 hc1 hc2 q2 q3 hW3 hM3 hb3 hil hin hii hbb
      go_wp2_with fail
      (with_reducible refine (HW0.out _).mono ?_)
      rintro e w3 ⟨rfl, rfl⟩
      cases b0 with
      | false =>
        go_wp2
        go_ret
        exact ⟨by rw [HBAD.out (by rw [HWB.out]; rfl)]; first | done | rfl | simp, HB1.out.trans (HB3.out.mono HB1.out.size)⟩
      | true =>
        obtain ⟨na, hna⟩ : ∃ n : Nat, x.pl = (n : Int) := ⟨x.pl.toNat, by have := HA0.out (by first | rfl | trivial); omega⟩
        have haN : na < N := by have := HA0.out (by first | rfl | trivial); omega
        rw [hna] at d0
        have HNA := Lib.hid hna
        have r3 := HRF3.out
        have ga := r3.cell haN
        have fa := r3.frozen na
        have haI : (na : Int) < (N : Int) := by omega
        have ha0 : (0 : Int) ≤ (na : Int) := by omega
        obtain ⟨v, hv⟩ : ∃ v, ((ls.take i).any fun y => y.pl == (na : Int)) = v := ⟨_, rfl⟩
        rw [hv] at ga
        have HV := Lib.hid hv
        rw [← hna] at hv
        have HV2 := Lib.hid hv
        rw [hna]
        clear hv hna
        cases v with
        | true =>
          go_wp2
          go_ret
          exact ⟨by rw [HDUP.out HV2.out]; first | done | rfl | simp, HB1.out.trans (HB3.out.mono HB1.out.size)⟩
        | false =>
          have r4 := r3.set na (.bool true)
          have hb4 : Below W1.heap.size W1 (W3.setCell ⟨M, na, none⟩ (.bool true)) := HB3.out.setCell (by rw [HM.out]; exact Nat.le_refl _) _
          have HEND := Lib.hid (show Rf (W3.setCell ⟨M, na, none⟩ (.bool true)) M 4 N (fun k => .bool ((ls.take (i + 1)).any fun y => y.pl == (k : Int))) from r4.congr (fun k hk => by
            rw [HAN.out]
            by_cases p : k = na
            · subst p; rw [if_pos rfl, HNA.out]; simp
            · rw [if_neg p, HNA.out]
              have : ((na : Int) == (k : Int)) = false := by simp; omega
              rw [this, Bool.or_false]))
          have HB4 := Lib.hid hb4
          clear r3 r4 hb4 haN
          go_wp2_with fail
          (with_reducible refine (HW1.out _).mono ?_)
          rintro e w3 ⟨rfl, rfl⟩
          cases b1 with
          | false =>
            go_wp2
            go_ret
            exact ⟨by rw [HBAD.out (by rw [HWB.out]; simp)]; first | done | rfl | simp, HB1.out.trans (HB3.out.mono HB1.out.size)⟩
          | true =>
            go_wp2_with fail
            (with_reducible refine (HW2.out _).mono ?_)
            rintro e w3 ⟨rfl, rfl⟩
            cases b2 with
            | false =>
              go_wp2
              go_ret
              exact ⟨by rw [HBAD.out (by rw [HWB.out]; simp)]; first | done | rfl | simp, HB1.out.trans (HB3.out.mono HB1.out.size)⟩
            | true =>
              have HWT := Lib.hid (HGO.out (by rw [HWB.out]; rfl))
              have HWD := Lib.hid (HGD.out HV2.out)
              go_upto_region 9 with (fail)
              go_wp2
              go_roundw
              case rel => exact ⟨i + 1, by have := HIN.out; omega, by simp, HWT.out, HWD.out, HEND.out, HB4.out⟩
              case measure => have := HIN.out; simp [intOf] <;> omega
    · have hii : ¬ (i : Int) < (nl : Int) := by omega
      have hie : i = nl := by omega
      subst hie
      have htk : ls.take i = ls := List.take_of_length_le (by have := HLL.out; omega)
      rw [htk] at hall hdis
      have HFIN := Lib.hid (show loadsB N ls = true from by
        unfold loadsB; rw [hall, hdis]; rfl)
      clear hall hdis hrf htk HAL HRF HDI hi q2 hgr hbr
      go_wp2
      go_ret
      exact ⟨by rw [HFIN.out]; first | done | rfl | simp, HB1.out.trans (HBR.out.mono HB1.out.size)⟩
end Go.Proofs.YtbnfnpakibkboaaGreat

namespace Go.Proofs.YtbnfnpakibkboaaGreat
set_option linter.unusedVariables false
set_option linter.unusedSimpArgs false
open Go.RowKit

def gridB (g : Gv) : Bool := inB g.nodes 1 40 && (inB g.least 0 1000 && (wiresB g.nodes.toNat g.wires && feedsB g.nodes.toNat g.feeds))
/-- a wire without a switch is on -/
def swB (p : Wv × Bool) : Bool := p.1.sw || p.2
def stateB (g : Gv) (s : Sv) : Bool := decide (s.feeds.length = g.feeds.length) && (decide (s.wires.length = g.wires.length) && (g.wires.zip s.wires).all swB)
set_option maxRecDepth 100000 in
set_option maxHeartbeats 4000000 in
theorem gridRight_any (Aw Af : Option Addr) (nw nf cw cf : Nat) (g : Gv) (w : World) (hG : GAt w w.heap.size Aw nw Af nf g) :
    Calls Tryz.prog 47 #[.agg #[.int .i64 g.nodes, .slice Aw nw cw, .slice Af nf cf, .int .i64 g.least]] w fun e w' => e = .returned (.bool (gridB g)) ∧ Below w.heap.size w w' := by
  have hb1 := (Below.refl w.heap.size w).alloc (Nat.le_refl _) (.cells #[.int .i64 g.nodes, .slice Aw nw cw, .slice Af nf cf, .int .i64 g.least] 25)
  have q1 := Rw.new w #[.int .i64 g.nodes, .slice Aw nw cw, .slice Af nf cf, .int .i64 g.least] 25
  have hG1 := (hG.below hb1).more hb1.size
  obtain ⟨W1, hW1⟩ : ∃ z, w.alloc (.cells #[.int .i64 g.nodes, .slice Aw nw cw, .slice Af nf cf, .int .i64 g.least] 25) = z := ⟨_, rfl⟩
  rw [hW1] at hb1 q1 hG1
  have HB1 := Lib.hid hb1
  have HQ := Lib.hid (show ∀ wx, Below W1.heap.size W1 wx → Rw wx w.heap.size 25 #[.int .i64 g.nodes, .slice Aw nw cw, .slice Af nf cf, .int .i64 g.least] from fun wx h => q1.below h q1.lt)
  have HG := Lib.hid (show ∀ wx, Below W1.heap.size W1 wx → GAt wx wx.heap.size Aw nw Af nf g from fun wx h => (hG1.below h).more h.size)
  have HX1 := Lib.hid (Below.refl W1.heap.size W1)
  have e0 := q1.cell 0; have e1 := q1.cell 1; have e2 := q1.cell 2; have e3 := q1.cell 3
  obtain ⟨b0, h0⟩ : ∃ b, inB g.nodes 1 40 = b := ⟨_, rfl⟩
  obtain ⟨b1, h1⟩ : ∃ b, inB g.least 0 1000 = b := ⟨_, rfl⟩
  obtain ⟨b2, h2⟩ : ∃ b, wiresB g.nodes.toNat g.wires = b := ⟨_, rfl⟩
  obtain ⟨b3, h3⟩ : ∃ b, feedsB g.nodes.toNat g.feeds = b := ⟨_, rfl⟩
  have HE := Lib.hid (show gridB g = (b0 && (b1 && (b2 && b3))) from by unfold gridB; rw [h0, h1, h2, h3])
  have H0 := Lib.hid (show ∀ wx, Calls Tryz.prog 70 #[.int .i64 g.nodes, .int .i64 1, .int .i64 40] wx fun e w' => e = .returned (.bool b0) ∧ wx = w' from fun wx => by have := within_any g.nodes 1 40 wx; rwa [h0] at this)
  have H1 := Lib.hid (show ∀ wx, Calls Tryz.prog 70 #[.int .i64 g.least, .int .i64 0, .int .i64 1000] wx fun e w' => e = .returned (.bool b1) ∧ wx = w' from fun wx => by have := within_any g.least 0 1000 wx; rwa [h1] at this)
  have H2 := Lib.hid (show ∀ wx, b0 = true → Below W1.heap.size W1 wx → Calls Tryz.prog 71 #[.agg #[.int .i64 g.nodes, .slice Aw nw cw, .slice Af nf cf, .int .i64 g.least]] wx fun e w' => e = .returned (.bool b2) ∧ Below wx.heap.size wx w' from fun wx hb h => by
    have hn := inB_iff.1 (h0.trans hb)
    have := wiresRight_any Aw Af nw nf cw cf g.nodes.toNat g wx (by omega) (by omega) (by omega) (HG.out wx h); rwa [h2] at this)
  have H3 := Lib.hid (show ∀ wx, b0 = true → Below W1.heap.size W1 wx → Calls Tryz.prog 72 #[.agg #[.int .i64 g.nodes, .slice Aw nw cw, .slice Af nf cf, .int .i64 g.least]] wx fun e w' => e = .returned (.bool b3) ∧ Below wx.heap.size wx w' from fun wx hb h => by
    have hn := inB_iff.1 (h0.trans hb)
    have := feedsRight_any Aw Af nw nf cw cf g.nodes.toNat g wx (by omega) (by omega) (by omega) (HG.out wx h); rwa [h3] at this)
  clear hb1 q1 hG hG1 h0 h1 h2 h3
  go_enter Tryz.func47, Tryz.ntmps47
  go_wp2_with fail
  (with_reducible refine (H0.out _).mono ?_)
  rintro e w2 ⟨rfl, rfl⟩
  cases b0 with
  | false =>
    go_wp2
    go_ret
    exact ⟨by rw [HE.out]; first | done | rfl | simp, HB1.out⟩
  | true =>
    go_wp2_with fail
    (with_reducible refine (H1.out _).mono ?_)
    rintro e w3 ⟨rfl, rfl⟩
    cases b1 with
    | false =>
      go_wp2
      go_ret
      exact ⟨by rw [HE.out]; first | done | rfl | simp, HB1.out⟩
    | true =>
      go_wp2_with fail
      (with_reducible refine (H2.out _ (by first | rfl | trivial) HX1.out).mono ?_)
      rintro e w4 ⟨rfl, hb⟩
      have HX2 := Lib.hid (HX1.out.trans (hb.mono HX1.out.size))
      clear hb
      clear e0 e1 e2 e3
      obtain r1 := HQ.out _ HX2.out
      have e0 := r1.cell 0; have e1 := r1.cell 1; have e2 := r1.cell 2; have e3 := r1.cell 3
      clear r1
      cases b2 with
      | false =>
        go_wp2
        go_ret
        exact ⟨by rw [HE.out]; first | done | rfl | simp, HB1.out.trans (HX2.out.mono HB1.out.size)⟩
      | true =>
        go_wp2_with fail
        (with_reducible refine (H3.out _ (by first | rfl | trivial) HX2.out).mono ?_)
        rintro e w5 ⟨rfl, hb⟩
        have HX3 := Lib.hid (HX2.out.trans (hb.mono HX2.out.size))
        clear hb
        go_wp2
        go_ret
        exact ⟨by rw [HE.out]; first | done | rfl | simp, HB1.out.trans (HX3.out.mono HB1.out.size)⟩
set_option maxRecDepth 100000 in
set_option maxHeartbeats 4000000 in
theorem check_any (Aw Af : Option Addr) (nw nf cw cf : Nat) (g : Gv) (w : World) (hG : GAt w w.heap.size Aw nw Af nf g) :
    Calls Tryz.prog 18 #[.agg #[.int .i64 g.nodes, .slice Aw nw cw, .slice Af nf cf, .int .i64 g.least]] w fun e w' => e = .returned (.int .i64 (if gridB g then 0 else 2)) ∧ Below w.heap.size w w' := by
  have hb1 := (Below.refl w.heap.size w).alloc (Nat.le_refl _) (.cells #[.int .i64 g.nodes, .slice Aw nw cw, .slice Af nf cf, .int .i64 g.least] 25)
  have q1 := Rw.new w #[.int .i64 g.nodes, .slice Aw nw cw, .slice Af nf cf, .int .i64 g.least] 25
  have hG1 := (hG.below hb1).more hb1.size
  obtain ⟨W1, hW1⟩ : ∃ z, w.alloc (.cells #[.int .i64 g.nodes, .slice Aw nw cw, .slice Af nf cf, .int .i64 g.least] 25) = z := ⟨_, rfl⟩
  rw [hW1] at hb1 q1 hG1
  have HB1 := Lib.hid hb1
  have HQ := Lib.hid (show ∀ wx, Below W1.heap.size W1 wx → Rw wx w.heap.size 25 #[.int .i64 g.nodes, .slice Aw nw cw, .slice Af nf cf, .int .i64 g.least] from fun wx h => q1.below h q1.lt)
  have HG := Lib.hid (show ∀ wx, Below W1.heap.size W1 wx → GAt wx wx.heap.size Aw nw Af nf g from fun wx h => (hG1.below h).more h.size)
  have HX1 := Lib.hid (Below.refl W1.heap.size W1)
  have e0 := q1.cell 0; have e1 := q1.cell 1; have e2 := q1.cell 2; have e3 := q1.cell 3
  obtain ⟨b0, h0⟩ : ∃ b, gridB g = b := ⟨_, rfl⟩
  rw [h0]
  have H0 := Lib.hid (show ∀ wx, Below W1.heap.size W1 wx → Calls Tryz.prog 47 #[.agg #[.int .i64 g.nodes, .slice Aw nw cw, .slice Af nf cf, .int .i64 g.least]] wx fun e w' => e = .returned (.bool b0) ∧ Below wx.heap.size wx w' from fun wx h => by have := gridRight_any Aw Af nw nf cw cf g wx (HG.out wx h); rwa [h0] at this)
  clear hb1 q1 hG hG1 h0
  go_enter Tryz.func18, Tryz.ntmps18
  go_wp2_with fail
  (with_reducible refine (H0.out _ HX1.out).mono ?_)
  rintro e w4 ⟨rfl, hb⟩
  have HX2 := Lib.hid (HX1.out.trans (hb.mono HX1.out.size))
  clear hb
  cases b0 with
  | false =>
    go_wp2
    go_ret
    exact ⟨by first | rfl | simp, HB1.out.trans (HX2.out.mono HB1.out.size)⟩
  | true =>
    go_wp2
    go_ret
    exact ⟨by first | rfl | simp, HB1.out.trans (HX2.out.mono HB1.out.size)⟩
set_option maxRecDepth 100000 in
set_option maxHeartbeats 4000000 in
theorem stateRight_any (Aw Af As At : Option Addr) (nw nf ns nt cw cf cs ct : Nat) (g : Gv) (s : Sv) (w : World) (hG : GAt w w.heap.size Aw nw Af nf g) (hS : SAt w w.heap.size As ns At nt s) :
    Calls Tryz.prog 48 #[.agg #[.int .i64 g.nodes, .slice Aw nw cw, .slice Af nf cf, .int .i64 g.least], .agg #[.slice As ns cs, .slice At nt ct]] w fun e w' => e = .returned (.bool (stateB g s)) ∧ Below w.heap.size w w' := by
  have hb1 := ((Below.refl w.heap.size w).alloc (Nat.le_refl _) (.cells #[.int .i64 g.nodes, .slice Aw nw cw, .slice Af nf cf, .int .i64 g.least] 25)).alloc (by simp) (.cells #[.slice As ns cs, .slice At nt ct] 28)
  obtain ⟨q1, q2⟩ := rows2 w #[.int .i64 g.nodes, .slice Aw nw cw, .slice Af nf cf, .int .i64 g.least] #[.slice As ns cs, .slice At nt ct] 25 28
  have hG1 := (hG.below hb1).more hb1.size
  have hS1 := (hS.below hb1).more hb1.size
  obtain ⟨W1, hW1⟩ : ∃ z, (w.alloc (.cells #[.int .i64 g.nodes, .slice Aw nw cw, .slice Af nf cf, .int .i64 g.least] 25)).alloc (.cells #[.slice As ns cs, .slice At nt ct] 28) = z := ⟨_, rfl⟩
  rw [hW1] at hb1 q1 q2 hG1 hS1
  have hszW : W1.heap.size = w.heap.size + 2 := by rw [← hW1]; simp
  have HSZ := Lib.hid hszW
  have HB1 := Lib.hid hb1
  have HQ := Lib.hid (And.intro q1 q2)
  have HG := Lib.hid hG1; have HS := Lib.hid hS1
  have e0 := q1.cell 0; have e1 := q1.cell 1; have e2 := q1.cell 2; have e3 := q1.cell 3; have f0 := q2.cell 0; have f1 := q2.cell 1
  have HWL := Lib.hid hG1.wl; have HFL := Lib.hid hG1.fl; have HSF := Lib.hid hS1.fl; have HSW := Lib.hid hS1.wl
  have hwm := hG1.wm
  clear hb1 q1 q2 hG hG1 hS hS1 hszW
  by_cases hf : ns = nf
  case neg =>
    have hfi : ¬ (ns : Int) = (nf : Int) := by omega
    have hfb : ((ns : Int) == (nf : Int)) = false := by simpa using hfi
    have HBAD := Lib.hid (show stateB g s = false from by unfold stateB; rw [decide_eq_false (by have := HFL.out; have := HSF.out; omega), Bool.false_and])
    go_enter Tryz.func48, Tryz.ntmps48
    go_wp2
    go_ret
    exact ⟨by rw [HBAD.out]; first | done | rfl | simp, HB1.out⟩
  case pos =>
  subst hf
  by_cases hw : nt = nw
  case neg =>
    have hfi : ¬ (nt : Int) = (nw : Int) := by omega
    have hfb : ((nt : Int) == (nw : Int)) = false := by simpa using hfi
    have HBAD := Lib.hid (show stateB g s = false from by unfold stateB; rw [decide_eq_false (p := s.wires.length = g.wires.length) (by have := HWL.out; have := HSW.out; omega), Bool.false_and, Bool.and_false])
    go_enter Tryz.func48, Tryz.ntmps48
    go_wp2
    go_ret
    exact ⟨by rw [HBAD.out]; first | done | rfl | simp, HB1.out⟩
  case pos =>
  subst hw
  have HST := Lib.hid (show stateB g s = (g.wires.zip s.wires).all swB from by
    unfold stateB; rw [decide_eq_true (by have := HFL.out; have := HSF.out; omega), decide_eq_true (by have := HWL.out; have := HSW.out; omega)]; rfl)
  have HZL := Lib.hid (show (g.wires.zip s.wires).length = nt from by rw [List.length_zip, HWL.out, HSW.out, Nat.min_self])
  go_enter Tryz.func48, Tryz.ntmps48
  go_wp2
  clear e0 e1 e2 e3 f0 f1
  go_loopw [26] (fun sl wr => ∃ i : Nat, i ≤ nt ∧ sl = .int .i64 (i : Int) ∧ ((g.wires.zip s.wires).take i).all swB = true ∧ Below W1.heap.size W1 wr) (fun sl _ => nt - (intOf sl).toNat)
  case atStart => exact ⟨0, Nat.zero_le _, rfl, rfl, Below.refl _ _⟩
  case round =>
    obtain ⟨i, hi, rfl, hall, hbr⟩ := hrel
    have HAL := Lib.hid hall; have HBR := Lib.hid hbr
    have q1 := HQ.out.1.below hbr (by have := HSZ.out; omega)
    have q2 := HQ.out.2.below hbr (by have := HSZ.out; omega)
    have f0 := q2.cell 0; have f1 := q2.cell 1
    have hgr := HG.out.below hbr
    have hsr := HS.out.below hbr
    by_cases hin : i < nt
    · have hii : (i : Int) < (nt : Int) := by omega
      have hi0 : (0 : Int) ≤ (i : Int) := by omega
      have hil : i < g.wires.length := by have := HWL.out; omega
      have hil2 : i < s.wires.length := by have := HSW.out; omega
      have hzl : i < (g.wires.zip s.wires).length := by have := HZL.out; omega
      obtain ⟨b, o, rfl, hbb, c0, c1, c2, c3⟩ := wire_at hgr.ws hil
      obtain ⟨b', o', rfl, hbb', d0⟩ := bool_at hsr.ws hil2
      obtain ⟨x, hx⟩ : ∃ x, g.wires[i] = x := ⟨_, rfl⟩
      obtain ⟨y, hy⟩ : ∃ y, s.wires[i] = y := ⟨_, rfl⟩
      rw [hx] at c0 c1 c2 c3
      rw [hy] at d0
      have hz : (g.wires.zip s.wires)[i] = (x, y) := by rw [List.getElem_zip, hx, hy]
      have HGO := Lib.hid (show (x.sw || y) = true → ((g.wires.zip s.wires).take (i + 1)).all swB = true from fun h => by
        rw [List.take_succ_eq_append_getElem hzl, List.all_append, HAL.out, hz]; simp [swB, h])
      have HBAD := Lib.hid (show (x.sw || y) = false → stateB g s = false from fun h => by
        rw [HST.out, List.all_eq_false]; exact ⟨(x, y), by rw [← hz]; exact List.getElem_mem hzl, by simp [swB, h]⟩)
      have HIN := Lib.hid hin
      clear q1 q2 hgr hsr hall hx hy hz hil hil2 hzl hin
      go_upto_region 6 with (fail)
      have q3 := Rw.new wr #[.int .i64 x.a, .int .i64 x.b, .int .i64 x.s, .bool x.sw] 60
      have hb3 := (Below.refl wr.heap.size wr).alloc (Nat.le_refl _) (.cells #[.int .i64 x.a, .int .i64 x.b, .int .i64 x.s, .bool x.sw] 60)
      have f0' := (HQ.out.2.below (HBR.out.trans (hb3.mono HBR.out.size)) (by have := HSZ.out; omega)).cell 0
      have f1' := (HQ.out.2.below (HBR.out.trans (hb3.mono HBR.out.size)) (by have := HSZ.out; omega)).cell 1
      have d0' : (wr.alloc (.cells #[.int .i64 x.a, .int .i64 x.b, .int .i64 x.s, .bool x.sw] 60)).cell? ⟨b', o' + i, none⟩ = some (.bool y) := by
        rw [cell_alloc_lt _ _ (by have := HBR.out.size; omega)]; exact d0
      obtain ⟨W3, hW3⟩ : ∃ z, wr.alloc (.cells #[.int .i64 x.a, .int .i64 x.b, .int .i64 x.s, .bool x.sw] 60) = z := ⟨_, rfl⟩
      rw [hW3] at q3 hb3 f0' f1' d0' ⊢
      have HB3 := Lib.hid (HBR.out.trans (hb3.mono HBR.out.size))
      have g3 := q3.cell 3
      clear q3 hb3 hW3 hbr hbb hbb' c0 c1 c2 c3 f0 f1 d0
      cases hsw : x.sw with
      | true =>
        rw [hsw] at g3
        have HT := Lib.hid (HGO.out (by rw [hsw]; rfl))
        clear hsw
        go_wp2
        go_roundw
        case rel => exact ⟨i + 1, by have := HIN.out; omega, by simp, HT.out, HB3.out⟩
        case measure => have := HIN.out; simp [intOf] <;> omega
      | false =>
        rw [hsw] at g3
        have HSWX := Lib.hid hsw
        clear hsw
        cases y with
        | true =>
          have HT := Lib.hid (HGO.out (by rw [HSWX.out]; rfl))
          go_wp2
          go_roundw
          case rel => exact ⟨i + 1, by have := HIN.out; omega, by simp, HT.out, HB3.out⟩
          case measure => have := HIN.out; simp [intOf] <;> omega
        | false =>
          have HT := Lib.hid (HBAD.out (by rw [HSWX.out]; rfl))
          go_wp2
          go_ret
          exact ⟨by rw [HT.out]; first | done | rfl | simp, HB1.out.trans (HB3.out.mono HB1.out.size)⟩
    · have hii : ¬ (i : Int) < (nt : Int) := by omega
      have HFIN := Lib.hid (show stateB g s = true from by
        have htk : (g.wires.zip s.wires).take i = g.wires.zip s.wires := List.take_of_length_le (by have := HZL.out; omega)
        rw [HST.out, ← htk]; exact HAL.out)
      clear q1 q2 hgr hsr hall
      go_wp2
      go_ret
      exact ⟨by rw [HFIN.out]; first | done | rfl | simp, HB1.out.trans (HBR.out.mono HB1.out.size)⟩
end Go.Proofs.YtbnfnpakibkboaaGreat

namespace Go.Proofs.YtbnfnpakibkboaaGreat
set_option linter.unusedVariables false
set_option linter.unusedSimpArgs false
open Go.RowKit Go.Shelf Go.Sort

def Tryz.sortA_ren : Go.Shelf.Ren := ⟨fun | 5 => 90 | 8 => 105 | 7 => 104 | 19 => 126 | 20 => 127 | 10 => 117 | 11 => 118 | 12 => 119 | 13 => 120 | 14 => 121 | 15 => 122 | 16 => 123 | 17 => 124 | 18 => 125 | 30 => 138 | 31 => 139 | 32 => 140 | 33 => 141 | 34 => 142 | 35 => 143 | 40 => 152 | n => n, fun | 23 => 40 | 25 => 3 | 3 => 3 | 32 => 142 | 22 => 40 | 0 => 0 | 44 => 156 | 46 => 158 | 4 => 4 | 36 => 172 | 35 => 171 | 41 => 52 | 5 => 5 | 9 => 9 | 53 => 186 | 57 => 190 | 63 => 199 | 64 => 125 | n => n, fun | n => n⟩
theorem Tryz.sortA : Go.Proofs.SlLaysM.n5 Tryz.prog Tryz.sortA_ren := {
  mixed := by kernel_rfl
  f5 := ⟨ "slices.Sort[[]int,int]", by decide, Tryz.func90.trans (congrArg some (by kernel_rfl))⟩
  f7 := ⟨ "slices.pdqsortOrdered[int]", by decide, Tryz.func104.trans (congrArg some (by kernel_rfl))⟩
  f8 := Tryz.func105.trans (congrArg some (by kernel_rfl))
  f10 := ⟨ "slices.insertionSortOrdered[int]", by decide, Tryz.func117.trans (congrArg some (by kernel_rfl))⟩
  f11 := ⟨ "slices.heapSortOrdered[int]", by decide, Tryz.func118.trans (congrArg some (by kernel_rfl))⟩
  f12 := ⟨ "slices.breakPatternsOrdered[int]", by decide, Tryz.func119.trans (congrArg some (by kernel_rfl))⟩
  f13 := ⟨ "slices.choosePivotOrdered[int]", by decide, Tryz.func120.trans (congrArg some (by kernel_rfl))⟩
  f14 := ⟨ "slices.reverseRangeOrdered[int]", by decide, Tryz.func121.trans (congrArg some (by kernel_rfl))⟩
  f15 := ⟨ "slices.partialInsertionSortOrdered[int]", by decide, Tryz.func122.trans (congrArg some (by kernel_rfl))⟩
  f16 := ⟨ "cmp.Less[int]", by decide, Tryz.func123.trans (congrArg some (by kernel_rfl))⟩
  f17 := ⟨ "slices.partitionEqualOrdered[int]", by decide, Tryz.func124.trans (congrArg some (by kernel_rfl))⟩
  f18 := ⟨ "slices.partitionOrdered[int]", by decide, Tryz.func125.trans (congrArg some (by kernel_rfl))⟩
  f19 := Tryz.func126.trans (congrArg some (by kernel_rfl))
  f20 := Tryz.func127.trans (congrArg some (by kernel_rfl))
  f30 := ⟨ "slices.siftDownOrdered[int]", by decide, Tryz.func138.trans (congrArg some (by kernel_rfl))⟩
  f31 := Tryz.func139.trans (congrArg some (by kernel_rfl))
  f32 := Tryz.func140.trans (congrArg some (by kernel_rfl))
  f33 := ⟨ "slices.medianAdjacentOrdered[int]", by decide, Tryz.func141.trans (congrArg some (by kernel_rfl))⟩
  f34 := ⟨ "slices.medianOrdered[int]", by decide, Tryz.func142.trans (congrArg some (by kernel_rfl))⟩
  f35 := ⟨ "cmp.isNaN[int]", by decide, Tryz.func143.trans (congrArg some (by kernel_rfl))⟩
  f40 := ⟨ "slices.order2Ordered[int]", by decide, Tryz.func152.trans (congrArg some (by kernel_rfl))⟩
  t0 := Tryz.underlying0
  a0 := Tryz.isAgg0
  z0 := Tryz.sizeOf0
  v0 := Tryz.zeroValue0
  t3 := Tryz.underlying3
  a3 := Tryz.isAgg3
  z3 := Tryz.sizeOf3
  v3 := Tryz.zeroValue3
  t4 := Tryz.underlying4
  a4 := Tryz.isAgg4
  z4 := Tryz.sizeOf4
  v4 := Tryz.zeroValue4
  t5 := Tryz.underlying5
  a5 := Tryz.isAgg5
  z5 := Tryz.sizeOf5
  v5 := Tryz.zeroValue5
  t9 := Tryz.underlying9
  a9 := Tryz.isAgg9
  z9 := Tryz.sizeOf9
  v9 := Tryz.zeroValue9
  t22 := Tryz.underlying40
  a22 := Tryz.isAgg40
  z22 := Tryz.sizeOf40
  v22 := Tryz.zeroValue40
  t23 := Tryz.underlying40
  a23 := Tryz.isAgg40
  z23 := Tryz.sizeOf40
  v23 := Tryz.zeroValue40
  t25 := Tryz.underlying3
  a25 := Tryz.isAgg3
  z25 := Tryz.sizeOf3
  v25 := Tryz.zeroValue3
  t32 := Tryz.underlying142
  a32 := Tryz.isAgg142
  z32 := Tryz.sizeOf142
  v32 := Tryz.zeroValue142
  t35 := Tryz.underlying171
  a35 := Tryz.isAgg171
  z35 := Tryz.sizeOf171
  v35 := Tryz.zeroValue171
  t36 := Tryz.underlying172
  a36 := Tryz.isAgg172
  z36 := Tryz.sizeOf172
  v36 := Tryz.zeroValue172
  t41 := Tryz.underlying52
  a41 := Tryz.isAgg52
  z41 := Tryz.sizeOf52
  v41 := Tryz.zeroValue52
  t44 := Tryz.underlying156
  a44 := Tryz.isAgg156
  z44 := Tryz.sizeOf156
  v44 := Tryz.zeroValue156
  t46 := Tryz.underlying158
  a46 := Tryz.isAgg158
  z46 := Tryz.sizeOf158
  v46 := Tryz.zeroValue158
  t53 := Tryz.underlying186
  a53 := Tryz.isAgg186
  z53 := Tryz.sizeOf186
  v53 := Tryz.zeroValue186
  t57 := Tryz.underlying190
  a57 := Tryz.isAgg190
  z57 := Tryz.sizeOf190
  v57 := Tryz.zeroValue190
  t63 := Tryz.underlying199
  a63 := Tryz.isAgg199
  z63 := Tryz.sizeOf199
  v63 := Tryz.zeroValue199
  t64 := Tryz.underlying125
  a64 := Tryz.isAgg125
  z64 := Tryz.sizeOf125
  v64 := Tryz.zeroValue125 }

theorem flat_fI (l : List Int) : l.flatMap fI = l.map (Value.int .i64) := by
  induction l with
  | nil => rfl
  | cons x l ih => rw [List.flatMap_cons, ih]; rfl

theorem sort_any {base : Nat} {v : Value} {l : List Int} (w : World) (h : Own w base 3 1 fI v l) (hl : l.length ≤ 1000) :
    Calls Tryz.prog 90 #[v] w fun e w' => e = .returned (.tuple #[]) ∧ w.grownBy w' v.ownBlock ∧ Own w' base 3 1 fI v (l.mergeSort fun x y => decide (x ≤ y)) := by
  rcases h.2 with ⟨rfl, hn⟩ | ⟨g, cap, cur, rfl, hb, hg, h1, h2, h3, h4⟩
  · obtain rfl := List.eq_nil_of_length_eq_zero hn
    refine (AnyM.slices_Sort_int_none Tryz.sortA none 0 w).mono ?_
    rintro e w' ⟨rfl, rfl⟩
    exact ⟨rfl, World.grownBy.refl _ _, by simpa using Own.nil _ _ _ _ _⟩
  · have hH : Holds (Value.int .i64) w g 0 l.toArray := holds_of_blockI hg (by rw [← flat_fI]; simpa using h4)
    refine (AnyM.slices_Sort_int Tryz.sortA g 0 cap l w hH (Array.getElem?_eq_some_iff.1 hg).1 (by omega)).mono ?_
    rintro e w' ⟨rfl, n, os, rfl⟩
    refine ⟨rfl, grownBy_sortedI _, ?_⟩
    have := ownsRow_sortedI (w := w) (n := n) (e := 3) (os := os) (cur := cur) (ss := l) (ts := l.mergeSort fun x y => decide (x ≤ y)) (List.length_mergeSort l) hb hg h1 h2 h3
    unfold Own
    rw [flat_fI, List.length_mergeSort]
    exact this
end Go.Proofs.YtbnfnpakibkboaaGreat

namespace Go.Proofs.YtbnfnpakibkboaaGreat
set_option linter.unusedVariables false
set_option linter.unusedSimpArgs false
open Go.RowKit

/-- Apart from block g, all that was there is as it was. -/
def Gr (g : Nat) (w w' : World) : Prop := w.grownBy w' (some g)
section
variable {w w' w'' : World} {g B : Nat}
theorem Gr.refl (g : Nat) (w : World) : Gr g w w := ⟨rfl, rfl, rfl, Nat.le_refl _, fun _ _ _ => rfl⟩
theorem Gr.trans (h : Gr g w w') (k : Gr g w' w'') : Gr g w w'' :=
  ⟨k.os.trans h.os, k.tape.trans h.tape, k.output.trans h.output, Nat.le_trans h.size k.size, fun i hi hr => (k.block i (Nat.lt_of_lt_of_le hi h.size) hr).trans (h.block i hi hr)⟩
theorem Gr.below (h : Gr g w w') (k : Below B w' w'') (hB : w.heap.size ≤ B) : Gr g w w'' :=
  ⟨k.os.trans h.os, k.tape.trans h.tape, k.output.trans h.output, Nat.le_trans h.size k.size, fun i hi hr => (k.block i (by omega)).trans (h.block i hi hr)⟩
theorem Gr.of_below (k : Below B w w') (hB : w.heap.size ≤ B) (g : Nat) : Gr g w w' := (Gr.refl g w).below k hB
theorem Gr.alloc (h : Gr g w w') (o : Obj) : Gr g w (w'.alloc o) := h.trans ⟨rfl, rfl, rfl, by simp, fun k hk _ => Below.heap_alloc _ _ _ hk⟩
theorem Gr.drew (h : Gr g w w') : Gr g w w'.drew := ⟨h.os, h.tape, h.output, h.size, h.block⟩
theorem Gr.drewN (h : Gr g w w') (n : Nat) : Gr g w (w'.drewN n) := ⟨h.os, h.tape, h.output, h.size, h.block⟩
theorem Gr.set (h : Gr g w w') {p : Addr} (u : Value) (hp : p.block = g ∨ w.heap.size ≤ p.block) : Gr g w (w'.setCell p u) :=
  ⟨h.os, h.tape, h.output, by simpa [World.setCell] using h.size, fun i hi hr => (Below.heap_setCell _ _ _ _ (by rintro rfl; rcases hp with e | e; exact hr (by rw [e]); omega)).trans (h.block i hi hr)⟩
theorem Gr.grown {row : Option Nat} (h : Gr g w w') (k : w'.grownBy w'' row) (hr : ∀ j, row = some j → w.heap.size ≤ j) : Gr g w w'' :=
  ⟨k.os.trans h.os, k.tape.trans h.tape, k.output.trans h.output, Nat.le_trans h.size k.size, fun i hi hn => (k.block i (Nat.lt_of_lt_of_le hi h.size) (fun e => by have := hr i e.symm; omega)).trans (h.block i hi hn)⟩
/-- below that block all is as it was -/
theorem Gr.toBelow (h : Gr g w w') (hg : g ≤ w.heap.size) : Below g w w' :=
  ⟨h.os, h.tape, h.output, h.size, fun k hk => h.block k (by omega) (by simp; omega)⟩
end

/-- the nodes that wires that are on connect -/
def onP (ws : List Wv) (on : List Bool) : List (Nat × Nat) := ((ws.zip on).filter (·.2)).map fun p => (p.1.a.toNat, p.1.b.toNat)
theorem onP_mem {ws : List Wv} {on : List Bool} {x y : Nat} : (x, y) ∈ onP ws on ↔ ∃ (k : Nat) (wv : Wv), ws[k]? = some wv ∧ on[k]? = some true ∧ wv.a.toNat = x ∧ wv.b.toNat = y := by
  unfold onP
  constructor
  · intro h
    obtain ⟨⟨wv, o⟩, hm, he⟩ := List.mem_map.1 h
    obtain ⟨hz, ho⟩ := List.mem_filter.1 hm
    obtain ⟨k, hk, hg⟩ := List.getElem_of_mem hz
    rw [List.getElem_zip] at hg
    simp only [Prod.mk.injEq] at hg he
    have hk' := hk
    rw [List.length_zip] at hk'
    refine ⟨k, wv, by rw [List.getElem?_eq_getElem (by omega), hg.1], by rw [List.getElem?_eq_getElem (by omega), hg.2]; simp at ho; rw [ho], he.1, he.2⟩
  · rintro ⟨k, wv, h1, h2, rfl, rfl⟩
    refine List.mem_map.2 ⟨(wv, true), List.mem_filter.2 ⟨?_, rfl⟩, rfl⟩
    obtain ⟨k1, e1⟩ := List.getElem?_eq_some_iff.1 h1
    obtain ⟨k2, e2⟩ := List.getElem?_eq_some_iff.1 h2
    have : (ws.zip on)[k]'(by rw [List.length_zip]; omega) = (wv, true) := by rw [List.getElem_zip, e1, e2]
    rw [← this]; exact List.getElem_mem _
theorem wiresB_at {N : Nat} {ws : List Wv} (h : wiresB N ws = true) {x : Wv} (hx : x ∈ ws) : 0 ≤ x.a ∧ x.a < N ∧ 0 ≤ x.b ∧ x.b < N ∧ x.a ≠ x.b ∧ 1 ≤ x.s ∧ x.s ≤ 4 := by
  unfold wiresB at h
  simp only [Bool.and_eq_true] at h
  have := List.all_eq_true.1 h.2.1 x hx
  unfold wireB at this
  simp only [Bool.and_eq_true, inB_iff, Bool.not_eq_true', decide_eq_false_iff_not] at this
  omega
theorem onP_lt {N : Nat} {ws : List Wv} (h : wiresB N ws = true) (on : List Bool) : ∀ p ∈ onP ws on, p.1 < N ∧ p.2 < N := by
  rintro ⟨x, y⟩ hp
  obtain ⟨k, wv, h1, h2, rfl, rfl⟩ := onP_mem.1 hp
  have := wiresB_at h (List.mem_of_getElem? h1)
  simp only; omega
/-- the nodes of the part in which a node lies -/
def compL (ps : List (Nat × Nat)) (N f : Nat) : List Nat := (List.range N).filter (fun k => labs ps N k == labs ps N f)
/-- what gather has: nodes, of which the first i are done -/
structure GI (ps : List (Nat × Nat)) (f : Nat) (l : List Nat) (i : Nat) : Prop where
  f0 : f ∈ l
  nd : l.Nodup
  cn : ∀ x ∈ l, Cn ps f x
  done : ∀ j, j < i → ∀ x, l[j]? = some x → ∀ y, (x, y) ∈ ps ∨ (y, x) ∈ ps → y ∈ l
  le : i ≤ l.length
theorem GI.start (ps : List (Nat × Nat)) (f : Nat) : GI ps f [f] 0 := ⟨by simp, by simp, fun x hx => by simp at hx; subst hx; exact Cn.refl _, fun j hj => by omega, Nat.zero_le _⟩
theorem GI.push {ps : List (Nat × Nat)} {f : Nat} {l : List Nat} {i y : Nat} (h : GI ps f l i) (hy : y ∉ l) (hc : Cn ps f y) : GI ps f (l ++ [y]) i :=
  ⟨by simp [h.f0], by rw [List.nodup_append]; exact ⟨h.nd, by simp, fun a ha b hb => by simp at hb; subst hb; exact fun e => hy (e ▸ ha)⟩,
    fun x hx => by rcases List.mem_append.1 hx with q | q; exact h.cn x q; simp at q; subst q; exact hc,
    fun j hj x hx z hz => by
      have hl := h.le
      rw [List.getElem?_append_left (by omega)] at hx
      exact List.mem_append_left _ (h.done j hj x hx z hz), by have := h.le; simp; omega⟩
/-- the wires before the k-th one, at the node x -/
def GW (ws : List Wv) (on : List Bool) (l : List Nat) (x k : Nat) : Prop := ∀ j, j < k → ∀ wv, ws[j]? = some wv → on[j]? = some true → (wv.a.toNat = x → wv.b.toNat ∈ l) ∧ (wv.b.toNat = x → wv.a.toNat ∈ l)
theorem GW.skip {ws : List Wv} {on : List Bool} {l : List Nat} {x k : Nat} (h : GW ws on l x k) {wv : Wv} (hw : ws[k]? = some wv) (hn : on[k]? = some true → (wv.a.toNat = x → wv.b.toNat ∈ l) ∧ (wv.b.toNat = x → wv.a.toNat ∈ l)) : GW ws on l x (k + 1) := by
  intro j hj u hu ho
  rcases Nat.lt_or_ge j k with q | q
  · exact h j q u hu ho
  · have : j = k := by omega
    subst this
    rw [hw] at hu; cases hu; exact hn ho
theorem GW.push {ws : List Wv} {on : List Bool} {l : List Nat} {x k : Nat} (h : GW ws on l x k) (y : Nat) : GW ws on (l ++ [y]) x k := fun j hj u hu ho => ⟨fun e => List.mem_append_left _ ((h j hj u hu ho).1 e), fun e => List.mem_append_left _ ((h j hj u hu ho).2 e)⟩
theorem GI.next {ws : List Wv} {on : List Bool} {f : Nat} {l : List Nat} {i x k : Nat} (h : GI (onP ws on) f l i) (hx : l[i]? = some x) (hw : GW ws on l x k) (hk : ws.length ≤ k) : GI (onP ws on) f l (i + 1) :=
  ⟨h.f0, h.nd, h.cn, fun j hj z hz y hy => by
    rcases Nat.lt_or_ge j i with q | q
    · exact h.done j q z hz y hy
    · have : j = i := by omega
      subst this
      rw [hx] at hz; cases hz
      rcases hy with e | e
      · obtain ⟨q, wv, h1, h2, h3, h4⟩ := onP_mem.1 e
        have := (hw q (by have := (List.getElem?_eq_some_iff.1 h1).1; omega) wv h1 h2).1 h3
        rw [h4] at this; exact this
      · obtain ⟨q, wv, h1, h2, h3, h4⟩ := onP_mem.1 e
        have := (hw q (by have := (List.getElem?_eq_some_iff.1 h1).1; omega) wv h1 h2).2 h4
        rw [h3] at this; exact this, by have := (List.getElem?_eq_some_iff.1 hx).1; omega⟩
theorem GI.end {ws : List Wv} {on : List Bool} {N f : Nat} (hN : wiresB N ws = true) (hf : f < N) {l : List Nat} (h : GI (onP ws on) f l l.length) : (l.map fun x : Nat => (x : Int)).mergeSort (fun x y => decide (x ≤ y)) = (compL (onP ws on) N f).map (fun x : Nat => (x : Int)) ∧ ∀ x, x ∈ l ↔ x ∈ compL (onP ws on) N f := by
  have hc := closed_part (onP_lt hN on) hf h.f0 h.cn (fun x hx y hy => by
    obtain ⟨j, hj, rfl⟩ := List.getElem_of_mem hx
    exact h.done j hj _ (List.getElem?_eq_getElem hj) y hy)
  exact ⟨sort_asc h.nd (range_asc N _) hc, hc⟩
theorem Rf.drewN {w : World} {g n : Nat} {t : TypeId} {f : Nat → Value} (h : Rf w g t n f) (m : Nat) : Rf (w.drewN m) g t n f := h
theorem Rw.drewN {w : World} {g : Nat} {t : TypeId} {cs : Array Value} (h : Rw w g t cs) (m : Nat) : Rw (w.drewN m) g t cs := h
theorem Rf.grown {w w' : World} {g n : Nat} {t : TypeId} {f : Nat → Value} {row : Option Nat} (h : Rf w g t n f) (hg : w.grownBy w' row) (hr : ∀ j, row = some j → j ≠ g) : Rf w' g t n f := (hg.block g h.lt (fun e => hr g e.symm rfl)).trans h
theorem Rw.grown {w w' : World} {g : Nat} {t : TypeId} {cs : Array Value} {row : Option Nat} (h : Rw w g t cs) (hg : w.grownBy w' row) (hr : ∀ j, row = some j → j ≠ g) : Rw w' g t cs := (hg.block g h.lt (fun e => hr g e.symm rfl)).trans h
end Go.Proofs.YtbnfnpakibkboaaGreat

namespace Go.Proofs.YtbnfnpakibkboaaGreat
set_option linter.unusedVariables false
set_option linter.unusedSimpArgs false
open Go.RowKit

set_option maxRecDepth 100000 in
set_option maxHeartbeats 4000000 in
theorem gather_any (Aw Af At : Option Addr) (nw nf cw cf ct N f gs : Nat) (g : Gv) (on : List Bool) (sn : Nat → Bool) (w : World) (hN2 : N ≤ 40) (hWB : wiresB N g.wires = true) (hf : f < N)
    (hG : GAt w gs Aw nw Af nf g) (hol : on.length = nw) (hO : Sl w gs 1 CB At on) (hR : Rf w gs 4 N (fun k => .bool (sn k))) (hsn : ∀ k, k < N → sn k = true → ¬ Cn (onP g.wires on) f k) :
    Calls Tryz.prog 74 #[.agg #[.int .i64 (N : Int), .slice Aw nw cw, .slice Af nf cf, .int .i64 g.least], .slice At nw ct, .int .i64 (f : Int), .slice (some ⟨gs, 0, none⟩) N N] w fun e w' => ∃ v, e = .returned v ∧ Own w' w.heap.size 3 1 fI v ((compL (onP g.wires on) N f).map fun x : Nat => (x : Int)) ∧ Rf w' gs 4 N (fun k => .bool (sn k || (labs (onP g.wires on) N k == labs (onP g.wires on) N f))) ∧ Gr gs w w' := by
  obtain ⟨i3, hi3, hz3, hs3, hy3⟩ := info_parts info3
  have hgl := hR.lt
  have hb1 := (Below.refl w.heap.size w).alloc (Nat.le_refl _) (.cells #[.int .i64 (N : Int), .slice Aw nw cw, .slice Af nf cf, .int .i64 g.least] 25)
  have q1 := Rw.new w #[.int .i64 (N : Int), .slice Aw nw cw, .slice Af nf cf, .int .i64 g.least] 25
  obtain ⟨W1, hW1⟩ : ∃ z, w.alloc (.cells #[.int .i64 (N : Int), .slice Aw nw cw, .slice Af nf cf, .int .i64 g.least] 25) = z := ⟨_, rfl⟩
  rw [hW1] at hb1 q1
  have hR1 := hR.below hb1 hgl
  have hGr1 := Gr.of_below hb1 (Nat.le_refl _) gs
  have hsz1 : W1.heap.size = w.heap.size + 1 := by rw [← hW1]; simp
  have hfl : (f : Int) < (N : Int) := by omega
  have hf0 : (0 : Int) ≤ (f : Int) := by omega
  have ff := hR1.frozen f
  have hcf := hR1.cell hf
  have hR2 := hR1.set f (.bool true)
  have hGr2 := hGr1.set (p := ⟨gs, f, none⟩) (.bool true) (.inl rfl)
  have q2 := q1.far f (.bool true) (show w.heap.size ≠ gs by omega)
  obtain ⟨W2, hW2⟩ : ∃ z, W1.setCell ⟨gs, f, none⟩ (.bool true) = z := ⟨_, rfl⟩
  rw [hW2] at hR2 hGr2 q2
  have hsz2 : W2.heap.size = w.heap.size + 1 := by rw [← hW2]; simp [World.setCell, hsz1]
  have o0 := Own.built (f := fI) (size := 1) W2 (w.heap.size + 1) 3 (f : Int) #[.int .i64 (f : Int)] rfl fI_len (by omega)
  have hR3 := hR2.alloc (.cells #[.int .i64 (f : Int)] 3)
  have hGr3 := hGr2.alloc (.cells #[.int .i64 (f : Int)] 3)
  have q3 := q2.alloc (.cells #[.int .i64 (f : Int)] 3)
  obtain ⟨W3, hW3⟩ : ∃ z, W2.alloc (.cells #[.int .i64 (f : Int)] 3) = z := ⟨_, rfl⟩
  rw [hW3] at o0 hR3 hGr3 q3
  have HR3 := Lib.hid (show Rf W3 gs 4 N (fun k => .bool (sn k || decide (k ∈ [f]))) from hR3.congr (fun k hk => by
    by_cases e : k = f
    · subst e; simp
    · simp [e]))
  have HO0 := Lib.hid (show Own W3 (w.heap.size + 1) 3 1 fI (.slice (some ⟨w.heap.size + 1, 0, none⟩) 1 1) ([f].map fun x : Nat => (x : Int)) from by rw [hsz2] at o0; exact o0)
  have HG3 := Lib.hid hGr3; have HQ3 := Lib.hid q3; have HGL := Lib.hid hgl
  have HGA := Lib.hid (show ∀ wx, Gr gs w wx → GAt wx gs Aw nw Af nf g ∧ Sl wx gs 1 CB At on from fun wx h => ⟨hG.below (h.toBelow (by omega)), hO.below (h.toBelow (by omega))⟩)
  have HWL := Lib.hid hG.wl; have HWB := Lib.hid hWB; have HOL := Lib.hid hol; have HSN := Lib.hid hsn; have HF := Lib.hid hf
  have hwm := hG.wm
  have HWM := Lib.hid hwm
  obtain ⟨ps, hps⟩ : ∃ p, onP g.wires on = p := ⟨_, rfl⟩
  rw [hps]
  have HPS := Lib.hid hps
  have HLT := Lib.hid (onP_lt hWB on)
  clear hb1 q1 q2 q3 hR hR1 hR2 hR3 hGr1 hGr2 hGr3 o0 hG hO hol hsn hWB hsz1 hps
  go_enter Tryz.func74, Tryz.ntmps74
  go_upto_region 3 with (fail)
  clear ff hcf
  go_wp2
  go_loopw [9, 10] (fun s9 s10 wr => ∃ (i : Nat) (l : List Nat), s10 = .int .i64 (i : Int) ∧ GI ps f l i ∧ Own wr (w.heap.size + 1) 3 1 fI s9 (l.map fun x : Nat => (x : Int)) ∧ Rf wr gs 4 N (fun k => .bool (sn k || decide (k ∈ l))) ∧ Gr gs w wr ∧ Rw wr w.heap.size 25 #[.int .i64 (N : Int), .slice Aw nw cw, .slice Af nf cf, .int .i64 g.least]) (fun _ s10 _ => N - (intOf s10).toNat)
  case atStart => exact ⟨0, [f], rfl, GI.start _ _, HO0.out, HR3.out, HG3.out, HQ3.out⟩
  case round =>
    obtain ⟨i, l, rfl, hgi, ho, hrf, hgr, hqb⟩ := hrel
    have HGI := Lib.hid hgi; have HO := Lib.hid ho; have HRF := Lib.hid hrf; have HGR := Lib.hid hgr; have HQB := Lib.hid hqb
    obtain ⟨A9, c9, rfl, hlc, hcm, hnil⟩ := ho.form
    have hlN : l.length ≤ N := nodup_len hgi.nd (fun x hx => (hgi.cn x hx).lt (by rw [← HPS.out]; have := HLT.out; rwa [HPS.out] at this ⊢) HF.out)
    rw [List.length_map] at *
    have hle := hgi.le
    have HLN := Lib.hid hlN; have HLC := Lib.hid (And.intro hlc hcm)
    have q0 := hqb.cell 0; have q1 := hqb.cell 1
    by_cases hin : i < l.length
    · have hii : (i : Int) < (l.length : Int) := by omega
      have hi0 : (0 : Int) ≤ (i : Int) := by omega
      obtain ⟨x, hx⟩ : ∃ x, l[i] = x := ⟨_, rfl⟩
      have HX := Lib.hid (show l[i]? = some x from by rw [List.getElem?_eq_getElem hin, hx])
      have HI := Lib.hid hin
      have hi40 : (i : Int) ≤ 40 := by omega
      clear hgi ho hrf hgr hqb hx hin hle hlN hlc hcm hnil
      go_wp2
      clear q0 q1
      go_loopw [9, 28] (fun s9 s28 wq => ∃ (k : Nat) (l2 : List Nat), k ≤ nw ∧ s28 = .int .i64 (k : Int) ∧ GI ps f l2 i ∧ l2[i]? = some x ∧ GW g.wires on l2 x k ∧ Own wq (w.heap.size + 1) 3 1 fI s9 (l2.map fun x : Nat => (x : Int)) ∧ Rf wq gs 4 N (fun k => .bool (sn k || decide (k ∈ l2))) ∧ Gr gs w wq ∧ Rw wq w.heap.size 25 #[.int .i64 (N : Int), .slice Aw nw cw, .slice Af nf cf, .int .i64 g.least]) (fun _ s28 _ => nw - (intOf s28).toNat)
      case atStart => exact ⟨0, l, Nat.zero_le _, rfl, HGI.out, HX.out, fun j hj => by omega, HO.out, HRF.out, HGR.out, HQB.out⟩
      case round =>
        obtain ⟨k, l2, hk, rfl, hgi2, hx2, hgw, ho2, hrf2, hgr2, hqb2⟩ := hrel
        have HGI2 := Lib.hid hgi2; have HX2 := Lib.hid hx2; have HGW := Lib.hid hgw; have HO2 := Lib.hid ho2; have HRF2 := Lib.hid hrf2; have HGR2 := Lib.hid hgr2; have HQB2 := Lib.hid hqb2
        obtain ⟨A2, c2, rfl, hlc2, hcm2, -⟩ := ho2.form
        rw [List.length_map] at *
        by_cases hkn : k < nw
        · have hkI : (k : Int) < (nw : Int) := by omega
          have hk0 : (0 : Int) ≤ (k : Int) := by omega
          have hkw : k < g.wires.length := by have := HWL.out; omega
          have hko : k < on.length := by have := HOL.out; omega
          obtain ⟨hga, hsa⟩ := HGA.out _ hgr2
          obtain ⟨b, o, rfl, hbb, c0, c1, c2', c3⟩ := wire_at hga.ws hkw
          obtain ⟨b', o', rfl, hbb', d0⟩ := bool_at hsa hko
          have hil2 : i < (l2.map fun x : Nat => (x : Int)).length := by rw [List.length_map]; exact (List.getElem?_eq_some_iff.1 hx2).1
          obtain ⟨b2, o2, hA2, hbb2, g0⟩ := int_at (ho2.sl fI_len (A := A2) (c := c2) (by rw [List.length_map])) hil2
          subst hA2
          have hxi : (l2.map fun x : Nat => (x : Int))[i] = (x : Int) := by rw [List.getElem_map]; congr 1; have := (List.getElem?_eq_some_iff.1 hx2).2; exact this
          rw [hxi] at g0
          obtain ⟨wv, hwv⟩ : ∃ u, g.wires[k] = u := ⟨_, rfl⟩
          obtain ⟨y, hy⟩ : ∃ u, on[k] = u := ⟨_, rfl⟩
          rw [hwv] at c0 c1 c2' c3
          rw [hy] at d0
          have HWK := Lib.hid (show g.wires[k]? = some wv from by rw [List.getElem?_eq_getElem hkw, hwv])
          have HYK := Lib.hid (show on[k]? = some y from by rw [List.getElem?_eq_getElem hko, hy])
          have hwb := wiresB_at HWB.out (show wv ∈ g.wires from by rw [← hwv]; exact List.getElem_mem hkw)
          have hgl := HGL.out
          have hgsz := hgr2.size
          have hi2 : (i : Int) < (l2.length : Int) := by rw [List.length_map] at hil2; omega
          have HK := Lib.hid hkn
          clear hga hsa hil2 hxi hwv hy hkw hko hgi2 hx2 hgw ho2 hrf2 hqb2 hkn
          go_upto_region 9 with (fail)
          have hb3 := (Below.refl wr.heap.size wr).alloc (Nat.le_refl _) (.cells #[.int .i64 wv.a, .int .i64 wv.b, .int .i64 wv.s, .bool wv.sw] 60)
          have q3 := Rw.new wr #[.int .i64 wv.a, .int .i64 wv.b, .int .i64 wv.s, .bool wv.sw] 60
          have d0' : (wr.alloc (.cells #[.int .i64 wv.a, .int .i64 wv.b, .int .i64 wv.s, .bool wv.sw] 60)).cell? ⟨b', o' + k, none⟩ = some (.bool y) := by rw [cell_alloc_lt _ _ (by omega)]; exact d0
          have g0' : (wr.alloc (.cells #[.int .i64 wv.a, .int .i64 wv.b, .int .i64 wv.s, .bool wv.sw] 60)).cell? ⟨b2, o2 + i, none⟩ = some (.int .i64 (x : Int)) := by rw [cell_alloc_lt _ _ (by omega)]; exact g0
          have HO3 := Lib.hid (HO2.out.alloc (.cells #[.int .i64 wv.a, .int .i64 wv.b, .int .i64 wv.s, .bool wv.sw] 60))
          have HR3 := Lib.hid (HRF2.out.alloc (.cells #[.int .i64 wv.a, .int .i64 wv.b, .int .i64 wv.s, .bool wv.sw] 60))
          have HGR3 := Lib.hid (HGR2.out.alloc (.cells #[.int .i64 wv.a, .int .i64 wv.b, .int .i64 wv.s, .bool wv.sw] 60))
          have HQB3 := Lib.hid (HQB2.out.alloc (.cells #[.int .i64 wv.a, .int .i64 wv.b, .int .i64 wv.s, .bool wv.sw] 60))
          obtain ⟨W3, hW3⟩ : ∃ z, wr.alloc (.cells #[.int .i64 wv.a, .int .i64 wv.b, .int .i64 wv.s, .bool wv.sw] 60) = z := ⟨_, rfl⟩
          rw [hW3] at hb3 q3 d0' g0' HO3 HR3 HGR3 HQB3 ⊢
          obtain ⟨M3, hM3⟩ : ∃ n, wr.heap.size = n := ⟨_, rfl⟩
          rw [hM3] at q3 ⊢
          have w0 := q3.cell 0; have w1 := q3.cell 1
          have HM3 := Lib.hid (show w.heap.size < M3 ∧ M3 < W3.heap.size from ⟨by have := HQB2.out.lt; omega, q3.lt⟩)
          clear hb3 q3 hW3 hM3 c0 c1 c2' c3 d0 g0 hgr2 hbb hbb' hbb2 hgl hgsz
          obtain ⟨na, hna⟩ : ∃ n : Nat, wv.a = (n : Int) := ⟨wv.a.toNat, by omega⟩
          obtain ⟨nb, hnb⟩ : ∃ n : Nat, wv.b = (n : Int) := ⟨wv.b.toNat, by omega⟩
          have HNA := Lib.hid (show wv.a.toNat = na from by omega)
          have HNB := Lib.hid (show wv.b.toNat = nb from by omega)
          have HNN := Lib.hid (show na < 40 ∧ nb < 40 from by omega)
          have HABX := Lib.hid (show na ≠ nb from by intro e; exact hwb.2.2.2.2.1 (by rw [hna, hnb, e]))
          rw [hna] at w0
          rw [hnb] at w1
          rw [hna, hnb]
          clear hwb hna hnb
          cases y with
          | false =>
            have HGWN := Lib.hid (show GW g.wires on l2 x (k + 1) from HGW.out.skip HWK.out (fun h => by rw [HYK.out] at h; cases h))
            go_quiet (fail)
            go_wp2
            go_roundw
            case rel => exact ⟨k + 1, l2, by have := HK.out; omega, by simp, HGI2.out, HX2.out, HGWN.out, HO3.out.drewN _, HR3.out.drewN _, HGR3.out.drewN _, HQB3.out.drewN _⟩
            case measure => have := HK.out; simp [intOf] <;> omega
          | true =>
            have HPM := Lib.hid (show (na, nb) ∈ ps from by rw [← HPS.out]; exact onP_mem.2 ⟨k, wv, HWK.out, HYK.out, HNA.out, HNB.out⟩)
            have HLT' := Lib.hid (show ∀ p ∈ ps, p.1 < N ∧ p.2 < N from by rw [← HPS.out]; exact HLT.out)
            have HSN' := Lib.hid (show ∀ k, k < N → sn k = true → ¬ Cn ps f k from by rw [← HPS.out]; exact HSN.out)
            by_cases hax : na = x
            · have hab : ((na : Int) == (x : Int)) = true := by rw [hax]; exact beq_self_eq_true _
              subst hax
              have HCN := Lib.hid (show Cn ps f nb from (HGI2.out.cn na (List.mem_of_getElem? HX2.out)).step (.inl HPM.out))
              have hoN : nb < N := (HCN.out).lt HLT'.out HF.out
              have HON := Lib.hid hoN
              have r3 := HR3.out
              have go := r3.cell hoN
              have fo := r3.frozen nb
              have hoI : (nb : Int) < (N : Int) := by omega
              have ho0 : (0 : Int) ≤ (nb : Int) := by omega
              obtain ⟨v, hv⟩ : ∃ v, (sn nb || decide (nb ∈ l2)) = v := ⟨_, rfl⟩
              rw [hv] at go
              have HV := Lib.hid hv
              have hsx : IntKind.i64.wrap ((na : Int) + (nb : Int)) = (na : Int) + (nb : Int) := by have := HNN.out; rw [IntKind.wrap_i64]; omega
              have hsy : IntKind.i64.wrap ((na : Int) + (nb : Int) - (na : Int)) = (nb : Int) := by have := HNN.out; rw [IntKind.wrap_i64]; omega
              clear hv r3 hoN
              cases v with
              | true =>
                have hmem : nb ∈ l2 := by
                  have h := HV.out
                  rcases Bool.or_eq_true_iff.1 h with q | q
                  · exact absurd HCN.out (HSN'.out nb HON.out q)
                  · simpa using q
                have HGWN := Lib.hid (show GW g.wires on l2 na (k + 1) from HGW.out.skip HWK.out (fun _ => ⟨fun _ => by rw [HNB.out]; exact hmem, fun e => absurd (HNB.out.symm.trans e) (Ne.symm HABX.out)⟩))
                clear hmem
                go_quiet (fail)
                go_upto_region 10 with (fail)
                go_quiet (fail)
                go_wp2
                go_roundw
                case rel => exact ⟨k + 1, l2, by have := HK.out; omega, by simp, HGI2.out, HX2.out, HGWN.out, HO3.out.drewN _, HR3.out.drewN _, HGR3.out.drewN _, HQB3.out.drewN _⟩
                case measure => have := HK.out; simp [intOf] <;> omega
              | false =>
                have hnm : nb ∉ l2 := by
                  have h := HV.out
                  have := (Bool.or_eq_false_iff.1 h).2
                  simpa using this
                have HGI4 := Lib.hid (HGI2.out.push hnm HCN.out)
                have HX4 := Lib.hid (show (l2 ++ [nb])[i]? = some na from by rw [List.getElem?_append_left (List.getElem?_eq_some_iff.1 HX2.out).1]; exact HX2.out)
                have HGWN := Lib.hid (show GW g.wires on (l2 ++ [nb]) na (k + 1) from (HGW.out.push nb).skip HWK.out (fun _ => ⟨fun _ => by rw [HNB.out]; simp, fun e => absurd (HNB.out.symm.trans e) (Ne.symm HABX.out)⟩))
                clear hnm
                go_quiet (fail)
                obtain ⟨n1, hn1⟩ : ∃ n, n = nq := ⟨_, rfl⟩
                subst hn1
                go_upto_region 10 with (fail)
                go_quiet (fail)
                obtain ⟨n2, hn2⟩ : ∃ n, n = nq := ⟨_, rfl⟩
                subst hn2
                go_upto_region 13 with (fail)
                have r4 := (HR3.out.drewN (n1 + n2)).set nb (.bool true)
                have hR4 : Rf ((W3.drewN (n1 + n2)).setCell ⟨gs, nb, none⟩ (.bool true)) gs 4 N (fun k => .bool (sn k || decide (k ∈ l2 ++ [nb]))) := r4.congr (fun k _ => by
                  by_cases e : k = nb
                  · subst e; simp
                  · simp [e])
                have hO4 := (HO3.out.drewN (n1 + n2)).of_blocks (w' := (W3.drewN (n1 + n2)).setCell ⟨gs, nb, none⟩ (.bool true)) (fun k hk => Below.heap_setCell _ _ _ k (by show k ≠ gs; have := (HO3.out.lt k hk).1; have := HGL.out; omega))
                have hG4 := (HGR3.out.drewN (n1 + n2)).set (p := ⟨gs, nb, none⟩) (.bool true) (.inl rfl)
                have hQ4 := (HQB3.out.drewN (n1 + n2)).far nb (.bool true) (show w.heap.size ≠ gs by have := HGL.out; omega)
                obtain ⟨W4, hW4⟩ : ∃ z, (W3.drewN (n1 + n2)).setCell ⟨gs, nb, none⟩ (.bool true) = z := ⟨_, rfl⟩
                rw [hW4] at hR4 hO4 hG4 hQ4 ⊢
                have HR4 := Lib.hid hR4; have HO4 := Lib.hid hO4; have HG4 := Lib.hid hG4; have HQ4 := Lib.hid hQ4
                have HL2 := Lib.hid (show l2.length ≤ 40 from by have := nodup_len HGI2.out.nd (fun z hz => (HGI2.out.cn z hz).lt HLT'.out HF.out); omega)
                clear r4 hR4 hO4 hG4 hQ4 hW4
                go_wp2_with (at_builtin; go_must (refine wpList_app _ rfl (.tmp 74) (.tmp 76) _ rfl (w.heap.size + 1) 3 i3 _ 1 8 Tryz.underlying40 hi3 hz3 hs3 hy3 rfl (by omega) fI_len fI_one (.slice (some ⟨b2, o2, none⟩) l2.length c2) _ rfl (HO4.out.alloc _) _ _ [(nb : Int)] 1 rfl (Sl.new _ _ (nb : Int) _ rfl) (by have := HL2.out; unfold maxLen; simp only [List.length_cons, List.length_nil, List.length_map]; omega) (by have := HL2.out; simp only [List.length_cons, List.length_nil, List.length_map]; omega) (by have := HG4.out.size; have := HQ4.out.lt; simp; omega) (fun _ => .inr ⟨_, rfl⟩) ?_)
                             intro v2 w7 ow2 gr2 at2 ne2
                             go_must (have HO7 := Lib.hid (show Own w7 (w.heap.size + 1) 3 1 fI v2 ((l2 ++ [nb]).map fun x : Nat => (x : Int)) from by rw [List.map_append]; exact ow2))
                             go_must (have hbl : ∀ j, (Value.slice (some ⟨b2, o2, none⟩) l2.length c2).ownBlock = some j → w.heap.size + 1 ≤ j := fun j e => (HO4.out.lt j e).1)
                             go_must (have HR7 := Lib.hid ((HR4.out.alloc (.cells #[.int .i64 (nb : Int)] 3)).grown gr2 (fun j e => by have := hbl j e; have := HGL.out; omega)))
                             go_must (have HG7 := Lib.hid ((HG4.out.alloc (.cells #[.int .i64 (nb : Int)] 3)).grown gr2 (fun j e => by have := hbl j e; omega)))
                             go_must (have HQ7 := Lib.hid ((HQ4.out.alloc (.cells #[.int .i64 (nb : Int)] 3)).grown gr2 (fun j e => by have := hbl j e; omega)))
                             clear ow2 gr2 at2 ne2 hbl)
                go_roundw
                case rel => exact ⟨k + 1, l2 ++ [nb], by have := HK.out; omega, by simp, HGI4.out, HX4.out, HGWN.out, HO7.out, HR7.out, HG7.out, HQ7.out⟩
                case measure => have := HK.out; simp [intOf] <;> omega
            · have hab : ((na : Int) == (x : Int)) = false := by simp; omega
              have hab' : ¬ (na : Int) = (x : Int) := by omega
              by_cases hbx : nb = x
              · have hbe : ((nb : Int) == (x : Int)) = true := by rw [hbx]; exact beq_self_eq_true _
                subst hbx
                have HCN := Lib.hid (show Cn ps f na from (HGI2.out.cn nb (List.mem_of_getElem? HX2.out)).step (.inr HPM.out))
                have hoN : na < N := (HCN.out).lt HLT'.out HF.out
                have HON := Lib.hid hoN
                have r3 := HR3.out
                have go := r3.cell hoN
                have fo := r3.frozen na
                have hoI : (na : Int) < (N : Int) := by omega
                have ho0 : (0 : Int) ≤ (na : Int) := by omega
                obtain ⟨v, hv⟩ : ∃ v, (sn na || decide (na ∈ l2)) = v := ⟨_, rfl⟩
                rw [hv] at go
                have HV := Lib.hid hv
                have hsx : IntKind.i64.wrap ((na : Int) + (nb : Int)) = (na : Int) + (nb : Int) := by have := HNN.out; rw [IntKind.wrap_i64]; omega
                have hsy : IntKind.i64.wrap ((na : Int) + (nb : Int) - (nb : Int)) = (na : Int) := by have := HNN.out; rw [IntKind.wrap_i64]; omega
                clear hv r3 hoN
                cases v with
                | true =>
                  have hmem : na ∈ l2 := by
                    have h := HV.out
                    rcases Bool.or_eq_true_iff.1 h with q | q
                    · exact absurd HCN.out (HSN'.out na HON.out q)
                    · simpa using q
                  have HGWN := Lib.hid (show GW g.wires on l2 nb (k + 1) from HGW.out.skip HWK.out (fun _ => ⟨fun e => absurd (HNA.out.symm.trans e) HABX.out, fun _ => by rw [HNA.out]; exact hmem⟩))
                  clear hmem
                  go_quiet (fail)
                  go_upto_region 10 with (fail)
                  go_quiet (fail)
                  go_wp2
                  go_roundw
                  case rel => exact ⟨k + 1, l2, by have := HK.out; omega, by simp, HGI2.out, HX2.out, HGWN.out, HO3.out.drewN _, HR3.out.drewN _, HGR3.out.drewN _, HQB3.out.drewN _⟩
                  case measure => have := HK.out; simp [intOf] <;> omega
                | false =>
                  have hnm : na ∉ l2 := by
                    have h := HV.out
                    have := (Bool.or_eq_false_iff.1 h).2
                    simpa using this
                  have HGI4 := Lib.hid (HGI2.out.push hnm HCN.out)
                  have HX4 := Lib.hid (show (l2 ++ [na])[i]? = some nb from by rw [List.getElem?_append_left (List.getElem?_eq_some_iff.1 HX2.out).1]; exact HX2.out)
                  have HGWN := Lib.hid (show GW g.wires on (l2 ++ [na]) nb (k + 1) from (HGW.out.push na).skip HWK.out (fun _ => ⟨fun e => absurd (HNA.out.symm.trans e) HABX.out, fun _ => by rw [HNA.out]; simp⟩))
                  clear hnm
                  go_quiet (fail)
                  obtain ⟨n1, hn1⟩ : ∃ n, n = nq := ⟨_, rfl⟩
                  subst hn1
                  go_upto_region 10 with (fail)
                  go_quiet (fail)
                  obtain ⟨n2, hn2⟩ : ∃ n, n = nq := ⟨_, rfl⟩
                  subst hn2
                  go_upto_region 13 with (fail)
                  have r4 := (HR3.out.drewN (n1 + n2)).set na (.bool true)
                  have hR4 : Rf ((W3.drewN (n1 + n2)).setCell ⟨gs, na, none⟩ (.bool true)) gs 4 N (fun k => .bool (sn k || decide (k ∈ l2 ++ [na]))) := r4.congr (fun k _ => by
                    by_cases e : k = na
                    · subst e; simp
                    · simp [e])
                  have hO4 := (HO3.out.drewN (n1 + n2)).of_blocks (w' := (W3.drewN (n1 + n2)).setCell ⟨gs, na, none⟩ (.bool true)) (fun k hk => Below.heap_setCell _ _ _ k (by show k ≠ gs; have := (HO3.out.lt k hk).1; have := HGL.out; omega))
                  have hG4 := (HGR3.out.drewN (n1 + n2)).set (p := ⟨gs, na, none⟩) (.bool true) (.inl rfl)
                  have hQ4 := (HQB3.out.drewN (n1 + n2)).far na (.bool true) (show w.heap.size ≠ gs by have := HGL.out; omega)
                  obtain ⟨W4, hW4⟩ : ∃ z, (W3.drewN (n1 + n2)).setCell ⟨gs, na, none⟩ (.bool true) = z := ⟨_, rfl⟩
                  rw [hW4] at hR4 hO4 hG4 hQ4 ⊢
                  have HR4 := Lib.hid hR4; have HO4 := Lib.hid hO4; have HG4 := Lib.hid hG4; have HQ4 := Lib.hid hQ4
                  have HL2 := Lib.hid (show l2.length ≤ 40 from by have := nodup_len HGI2.out.nd (fun z hz => (HGI2.out.cn z hz).lt HLT'.out HF.out); omega)
                  clear r4 hR4 hO4 hG4 hQ4 hW4
                  go_wp2_with (at_builtin; go_must (refine wpList_app _ rfl (.tmp 74) (.tmp 76) _ rfl (w.heap.size + 1) 3 i3 _ 1 8 Tryz.underlying40 hi3 hz3 hs3 hy3 rfl (by omega) fI_len fI_one (.slice (some ⟨b2, o2, none⟩) l2.length c2) _ rfl (HO4.out.alloc _) _ _ [(na : Int)] 1 rfl (Sl.new _ _ (na : Int) _ rfl) (by have := HL2.out; unfold maxLen; simp only [List.length_cons, List.length_nil, List.length_map]; omega) (by have := HL2.out; simp only [List.length_cons, List.length_nil, List.length_map]; omega) (by have := HG4.out.size; have := HQ4.out.lt; simp; omega) (fun _ => .inr ⟨_, rfl⟩) ?_)
                               intro v2 w7 ow2 gr2 at2 ne2
                               go_must (have HO7 := Lib.hid (show Own w7 (w.heap.size + 1) 3 1 fI v2 ((l2 ++ [na]).map fun x : Nat => (x : Int)) from by rw [List.map_append]; exact ow2))
                               go_must (have hbl : ∀ j, (Value.slice (some ⟨b2, o2, none⟩) l2.length c2).ownBlock = some j → w.heap.size + 1 ≤ j := fun j e => (HO4.out.lt j e).1)
                               go_must (have HR7 := Lib.hid ((HR4.out.alloc (.cells #[.int .i64 (na : Int)] 3)).grown gr2 (fun j e => by have := hbl j e; have := HGL.out; omega)))
                               go_must (have HG7 := Lib.hid ((HG4.out.alloc (.cells #[.int .i64 (na : Int)] 3)).grown gr2 (fun j e => by have := hbl j e; omega)))
                               go_must (have HQ7 := Lib.hid ((HQ4.out.alloc (.cells #[.int .i64 (na : Int)] 3)).grown gr2 (fun j e => by have := hbl j e; omega)))
                               clear ow2 gr2 at2 ne2 hbl)
                  go_roundw
                  case rel => exact ⟨k + 1, l2 ++ [na], by have := HK.out; omega, by simp, HGI4.out, HX4.out, HGWN.out, HO7.out, HR7.out, HG7.out, HQ7.out⟩
                  case measure => have := HK.out; simp [intOf] <;> omega
              · have hbe : ((nb : Int) == (x : Int)) = false := by simp; omega
                have hbe' : ¬ (nb : Int) = (x : Int) := by omega
                have hn1 : ((na : Int) != (x : Int)) = true := by simp; omega
                have hn2 : ((nb : Int) != (x : Int)) = true := by simp; omega
                have HGWN := Lib.hid (show GW g.wires on l2 x (k + 1) from HGW.out.skip HWK.out (fun _ => ⟨fun e => absurd (HNA.out.symm.trans e) hax, fun e => absurd (HNB.out.symm.trans e) hbx⟩))
                go_quiet (fail)
                go_wp2
                go_roundw
                case rel => exact ⟨k + 1, l2, by have := HK.out; omega, by simp, HGI2.out, HX2.out, HGWN.out, HO3.out.drewN _, HR3.out.drewN _, HGR3.out.drewN _, HQB3.out.drewN _⟩
                case measure => have := HK.out; simp [intOf] <;> omega
        · have hkI : ¬ (k : Int) < (nw : Int) := by omega
          have HGIN := Lib.hid (show GI ps f l2 (i + 1) from by have := HGI2.out; rw [← HPS.out] at this ⊢; exact this.next hx2 hgw (by have := HWL.out; omega))
          clear hgi2 hx2 hgw ho2 hrf2 hgr2 hqb2
          go_wp2
          go_roundw
          case rel => exact ⟨i + 1, l2, by simp, HGIN.out, HO2.out, HRF2.out, HGR2.out, HQB2.out⟩
          case measure => have := HI.out; have := HLN.out; simp [intOf] <;> omega
    · have hie : i = l.length := by omega
      have hii : ¬ (i : Int) < (l.length : Int) := by omega
      have HEND := Lib.hid (show (l.map fun x : Nat => (x : Int)).mergeSort (fun x y => decide (x ≤ y)) = (compL ps N f).map (fun x : Nat => (x : Int)) ∧ ∀ x, x ∈ l ↔ x ∈ compL ps N f from by
        rw [hie, ← HPS.out] at hgi; rw [← HPS.out]; exact hgi.end HWB.out HF.out)
      have hl1000 : (l.map fun x : Nat => (x : Int)).length ≤ 1000 := by rw [List.length_map]; omega
      have HS := Lib.hid (sort_any wr HO.out hl1000)
      clear hgi ho hrf hgr hqb hie hle hlN hlc hcm hnil hl1000 q0 q1
      go_wp2_with fail
      (with_reducible refine (HS.out).mono ?_)
      rintro e w9 ⟨rfl, hg9, ho9⟩
      rw [HEND.out.1] at ho9
      have HO9 := Lib.hid ho9
      have hbl : ∀ j, (Value.slice A9 l.length c9).ownBlock = some j → w.heap.size + 1 ≤ j := fun j e => (HO.out.lt j e).1
      have HR9 := Lib.hid ((HRF.out.grown hg9 (fun j e => by have := hbl j e; have := HGL.out; omega)).congr (f' := fun k => .bool (sn k || (labs ps N k == labs ps N f))) (fun k hk => by
        congr 2
        have h1 := HEND.out.2 k
        unfold compL at h1
        rw [List.mem_filter, List.mem_range] at h1
        by_cases e : labs ps N k = labs ps N f
        · rw [decide_eq_true (h1.2 ⟨hk, by simpa using e⟩)]; simp [e]
        · rw [decide_eq_false (fun h => e (by simpa using (h1.1 h).2))]; simp [e]))
      have HG9 := Lib.hid (HGR.out.grown hg9 (fun j e => by have := hbl j e; omega))
      clear ho9 hg9 hbl
      go_wp2
      go_ret
      exact ⟨_, rfl, HO9.out.lower (by omega), HR9.out, HG9.out⟩
end Go.Proofs.YtbnfnpakibkboaaGreat
