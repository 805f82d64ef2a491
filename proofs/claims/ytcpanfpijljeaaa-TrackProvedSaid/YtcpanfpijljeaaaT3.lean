/- TrackProved returns true for every plan and every way; its arguments read afterwards as they read before. No condition. -/
import Derived.Test.YtcpanfpijljeaaaRows
import Derived.Test.YtcpanfpijljeaaaT2
import Derived.Test.YtcpanfpijljeaaaX2
import Derived.Test.YtcpanfpijljeaaaW3
import Derived.Test.YtcpanfpijljeaaaV1
import Derived.WalkKit
import Derived.ProofKit
import Derived.Deep.OwnRows
import Derived.Deep.CondSized
import Derived.WideKeyArgs
import Derived.ReadAgain
namespace Go.Proofs.Ytcpanfpijljeaaa
set_option linter.unusedVariables false
set_option linter.unusedSimpArgs false
open Go.RowKit

theorem mem_befL {p : Pl} {k y x : Nat} (hx : x < k) (h : (y : Int) ∈ leaveL p x) : (x : Int) ∈ befL p k y := by
  unfold befL
  rw [List.mem_flatMap]
  exact ⟨x, List.mem_range.2 hx, List.mem_map.2 ⟨(y : Int), List.mem_filter.2 ⟨h, by simp⟩, rfl⟩⟩
theorem mem_nextL {p : Pl} {x : Nat} {z : Int} : z ∈ nextL p x ↔ z ∈ leaveL p x := by unfold nextL; exact List.mem_mergeSort
theorem small_rails {p : Pl} (hv : Vld p) (hs : smallB p = true) : p.rails.length ≤ 14 := by
  have h := of_decide_eq_true hv.sizes
  simp only [smallB, smallN, Bool.and_eq_true] at hs
  have h2 := hs.1.1
  simp at h2
  omega
theorem costs_some {p : Pl} (hv : Vld p) (hs : smallB p = true) {t : Nat} (ht : t < 2 * p.rails.length) :
    ∃ n res, costsL (lenAt p) (befL p (2 * p.rails.length)) (List.replicate (2 * p.rails.length) false) (2 * p.rails.length) t n = some res ∧ Fin (2 * p.rails.length) t (lenAt p) (befL p (2 * p.rails.length)) res := by
  have h14 := small_rails hv hs
  obtain ⟨M, hM⟩ : ∃ M, 2 * p.rails.length = M := ⟨_, rfl⟩
  rw [hM] at ht ⊢
  have hM28 : M ≤ 28 := by omega
  have hmm : M * (2 * M) ≤ 28 * 56 := Nat.mul_le_mul hM28 (by omega)
  refine costs_end (D := 2 * M) (Wm := 1107296256) (fun b => ?_) (fun z => lenAt_bd hv z) (fun u _ => ⟨befL_len p u M, befL_bd⟩) (by omega) (by omega) (by omega) ht
  unfold shutAt
  rw [List.getD_eq_getElem?_getD, List.getElem?_replicate]
  split <;> rfl
/-- a way is not shorter than the distance says -/
theorem way_proved {p : Pl} {l : List E} {res : List C2} (hw : wayOk p l) (h0 : 0 < l.length)
    (hF : Fin (2 * p.rails.length) (keyE (l[l.length - 1]'(by omega))) (lenAt p) (befL p (2 * p.rails.length)) res) :
    0 ≤ (gC res (keyE l[0])).1 ∧ (gC res (keyE l[0])).1 + lenAt p l[0].rail ≤ wlen p (l.map endNo) := by
  have hin : ∀ j (hj : j < l.length), railIn p l[j].rail = true := fun j hj => by have := (hw.2.2 j hj).1; rwa [E1_eq hj] at this
  obtain ⟨m, r, rfl⟩ : ∃ m r, l = m :: r := by
    cases l with
    | nil => simp at h0
    | cons m r => exact ⟨m, r, rfl⟩
  have key := hF.way (r.map keyE) (keyE m) (fun x hx => by
      rw [← List.map_cons] at hx
      obtain ⟨y, hy, rfl⟩ := List.mem_map.1 hx
      obtain ⟨j, hj, rfl⟩ := List.getElem_of_mem hy
      exact (key_lt (hin j hj)).2) (fun i hi => by
      have hi' : i < r.length := by simpa using hi
      have h1 := (hw.2.2 (i + 1) (by simp; omega)).2 (by omega)
      rw [show i + 1 - 1 = i by omega, E1_eq (by simp; omega), E1_eq (by simp; omega), folB_iff, mem_nextL] at h1
      have h2 := key_lt (hin (i + 1) (by simp; omega))
      have h3 := key_lt (hin i (by simp; omega))
      rw [← h2.1] at h1
      have h4 := mem_befL (k := 2 * p.rails.length) h3.2 h1
      have e1 : (keyE m :: r.map keyE)[i]'(by simp; omega) = keyE ((m :: r)[i]'(by simp; omega)) := by
        simp only [← List.map_cons, List.getElem_map]
      have e2 : (r.map keyE)[i] = keyE ((m :: r)[i + 1]'(by simp; omega)) := by simp
      rw [e1, e2]
      exact h4) (by
      simp only [← List.map_cons]
      rw [List.getLast_map (by simp), List.getLast_eq_getElem])
  refine ⟨key.1, ?_⟩
  have e3 : wlen p ((m :: r).map endNo) = lenAt p (endNo m / 2) + wlen p (r.map endNo) := by simp [wlen]
  have e4 : endNo m / 2 = m.rail := by unfold endNo; split <;> omega
  have e5 : ((r.map keyE).map fun x : Nat => lenAt p ((x : Int) / 2)).sum = wlen p (r.map endNo) := by
    unfold wlen
    congr 1
    rw [List.map_map, List.map_map]
    apply List.map_congr_left
    intro y hy
    obtain ⟨j, hj, rfl⟩ := List.getElem_of_mem hy
    have h2 := key_lt (hin (j + 1) (by simp; omega))
    simp only [List.getElem_cons_succ] at h2
    show lenAt p (((keyE r[j] : Nat) : Int) / 2) = lenAt p (endNo r[j] / 2)
    rw [h2.1]
  rw [e5] at key
  simp only [List.getElem_cons_zero]
  rw [e3, e4]
  omega

/-- a plan at block K and a way, in a world that is later -/
structure Pst (w wr : World) (K : Nat) (A : Option Addr) (c : Nat) (A2 : Option Addr) (c2 : Nat) (p : Pl) (A3 : Option Addr) (l : List E) : Prop where
  k0 : wr.cell? ⟨K, 0, none⟩ = some (.slice A p.nodes.length c)
  k1 : wr.cell? ⟨K, 1, none⟩ = some (.slice A2 p.rails.length c2)
  pl : PlAt wr wr.heap.size A c A2 c2 p
  sl : Sl wr wr.heap.size 2 CE A3 l
  be : Below w.heap.size w wr
  lt : K < wr.heap.size
theorem Pst.next {w wr w' : World} {K c c2 : Nat} {A A2 A3 : Option Addr} {p : Pl} {l : List E} (h : Pst w wr K A c A2 c2 p A3 l) (hb : Below wr.heap.size wr w') : Pst w w' K A c A2 c2 p A3 l :=
  ⟨(hb.cell (p := ⟨K, 0, none⟩) h.lt).trans h.k0, (hb.cell (p := ⟨K, 1, none⟩) h.lt).trans h.k1, (h.pl.below hb).more hb.size, (h.sl.below hb).more (fun _ _ h => h) hb.size, h.be.trans (hb.mono h.be.size), Nat.lt_of_lt_of_le h.lt hb.size⟩
theorem Pst.start {w : World} {c c2 : Nat} {A A2 A3 : Option Addr} {p : Pl} {l : List E} (h : PlAt w w.heap.size A c A2 c2 p) (hA : Sl w w.heap.size 2 CE A3 l) :
    Pst w (w.alloc (.cells #[.slice A p.nodes.length c, .slice A2 p.rails.length c2] 25)) w.heap.size A c A2 c2 p A3 l :=
  ⟨cell_of_row _ _ 0 _ _ _ (heap_alloc_new w _), cell_of_row _ _ 1 _ _ _ (heap_alloc_new w _), h.box _, (hA.below ((Below.refl _ w).alloc (Nat.le_refl _) _)).more (fun _ _ h => h) (by simp), (Below.refl _ w).alloc (Nat.le_refl _) _, by simp⟩

section
variable (A A2 A3 : Option Addr) (c c2 c3 : Nat) (p : Pl) (l : List E) (w : World)
def ValB (p : Pl) (v : Bool) : Prop := ∀ (A A2 : Option Addr) (c c2 : Nat) (w : World), PlAt w w.heap.size A c A2 c2 p → Calls Try.prog 11 #[.agg #[.slice A p.nodes.length c, .slice A2 p.rails.length c2]] w fun e w' => e = .returned (.bool v) ∧ Below w.heap.size w w'
theorem valB_yes {p : Pl} (h : Vld p) : ValB p true := fun A A2 c c2 w hP => (Valid_any A A2 c c2 p w hP).mono fun e w' ⟨⟨b, h1, h2⟩, h3⟩ => ⟨by rw [h1, h2.2 h], h3⟩
theorem valB_no {p : Pl} (h : ¬ Vld p) : ValB p false := fun A A2 c c2 w hP => (Valid_any A A2 c c2 p w hP).mono fun e w' ⟨⟨b, h1, h2⟩, h3⟩ => by
  cases b
  · exact ⟨h1, h3⟩
  · exact absurd (h2.1 rfl) h
def ProvedC : Prop := Calls Try.prog 6 #[.agg #[.slice A p.nodes.length c, .slice A2 p.rails.length c2], .slice A3 l.length c3] w fun e w' => e = .returned (.bool true) ∧ Below w.heap.size w w'

set_option maxRecDepth 100000 in
set_option maxHeartbeats 1000000 in
theorem Proved_big (hP : PlAt w w.heap.size A c A2 c2 p) (hA : Sl w w.heap.size 2 CE A3 l) (hs : smallB p = false) : ProvedC A A2 A3 c c2 c3 p l w := by
  have H1 := Lib.hid (Pst.start hP hA)
  have HS := Lib.hid hs
  clear hP hA hs
  unfold ProvedC
  go_enter Try.func6, Try.ntmps6
  go_wp2_with fail
  refine (small_any A A2 c c2 p _ H1.out.pl).mono ?_
  rintro e w2 ⟨rfl, hb2⟩
  rw [HS.out]
  have H2 := Lib.hid (H1.out.next hb2)
  clear hb2
  go_wp2_with fail
  refine (known_any _).mono ?_
  rintro e w3 ⟨rfl, hb3⟩
  have H3 := Lib.hid (H2.out.next hb3)
  clear hb3
  go_wp2
  go_ret
  exact ⟨rfl, H3.out.be⟩

set_option maxRecDepth 100000 in
set_option maxHeartbeats 1000000 in
theorem Proved_not (hP : PlAt w w.heap.size A c A2 c2 p) (hA : Sl w w.heap.size 2 CE A3 l) (hs : smallB p = true) (hv : ¬ Vld p) : ProvedC A A2 A3 c c2 c3 p l w := by
  have H1 := Lib.hid (Pst.start hP hA)
  have HS := Lib.hid hs; have HV := Lib.hid (valB_no hv)
  clear hP hA hs hv
  unfold ProvedC
  go_enter Try.func6, Try.ntmps6
  go_wp2_with fail
  refine (small_any A A2 c c2 p _ H1.out.pl).mono ?_
  rintro e w2 ⟨rfl, hb2⟩
  rw [HS.out]
  have H2 := Lib.hid (H1.out.next hb2)
  clear hb2 H1
  obtain ⟨k0, k1, _, _, _, _⟩ := H2.out
  go_wp2_with fail
  refine (HV.out A A2 c c2 _ H2.out.pl).mono ?_
  rintro e w3 ⟨rfl, hb3⟩
  have H3 := Lib.hid (H2.out.next hb3)
  clear hb3 H2 k0 k1
  go_wp2_with fail
  refine (known_any _).mono ?_
  rintro e w4 ⟨rfl, hb4⟩
  have H4 := Lib.hid (H3.out.next hb4)
  clear hb4 H3
  go_wp2
  go_ret
  exact ⟨rfl, H4.out.be⟩

set_option maxRecDepth 100000 in
set_option maxHeartbeats 1000000 in
theorem Proved_long (hP : PlAt w w.heap.size A c A2 c2 p) (hA : Sl w w.heap.size 2 CE A3 l) (hs : smallB p = true) (hv : Vld p) (hl : 30 < l.length) : ProvedC A A2 A3 c c2 c3 p l w := by
  have H1 := Lib.hid (Pst.start hP hA)
  have HS := Lib.hid hs; have HV := Lib.hid (valB_yes hv)
  have hl2 : (30 : Int) < (l.length : Int) := by omega
  clear hP hA hs hv
  unfold ProvedC
  go_enter Try.func6, Try.ntmps6
  go_wp2_with fail
  refine (small_any A A2 c c2 p _ H1.out.pl).mono ?_
  rintro e w2 ⟨rfl, hb2⟩
  rw [HS.out]
  have H2 := Lib.hid (H1.out.next hb2)
  clear hb2 H1
  obtain ⟨k0, k1, _, _, _, _⟩ := H2.out
  go_wp2_with fail
  refine (HV.out A A2 c c2 _ H2.out.pl).mono ?_
  rintro e w3 ⟨rfl, hb3⟩
  have H3 := Lib.hid (H2.out.next hb3)
  clear hb3 H2 k0 k1
  go_wp2_with fail
  refine (known_any _).mono ?_
  rintro e w4 ⟨rfl, hb4⟩
  have H4 := Lib.hid (H3.out.next hb4)
  clear hb4 H3
  go_wp2
  go_ret
  exact ⟨rfl, H4.out.be⟩

theorem wayB (hP : PlAt w w.heap.size A c A2 c2 p) (hA : Sl w w.heap.size 2 CE A3 l) (hv : Vld p) (hl : l.length ≤ 30) (b : Bool) (hb : b = true ↔ wayOk p l) :
    Calls Try.prog 27 #[.agg #[.slice A p.nodes.length c, .slice A2 p.rails.length c2], .slice A3 l.length c3] w fun e w' => e = .returned (.bool b) ∧ Below w.heap.size w w' :=
  (rWay_any A A2 A3 c c2 c3 p l w hP hv hA (by omega)).mono fun e w' ⟨⟨b', h1, h2⟩, h3⟩ => by
    have : b' = b := by rw [Bool.eq_iff_iff]; exact h2.trans hb.symm
    exact ⟨by rw [h1, this], h3⟩
set_option maxRecDepth 100000 in
set_option maxHeartbeats 1000000 in
theorem Proved_way (hP : PlAt w w.heap.size A c A2 c2 p) (hA : Sl w w.heap.size 2 CE A3 l) (hs : smallB p = true) (hv : Vld p) (hl : l.length ≤ 30) (hw : ¬ wayOk p l) : ProvedC A A2 A3 c c2 c3 p l w := by
  have H1 := Lib.hid (Pst.start hP hA)
  have HS := Lib.hid hs; have HV := Lib.hid (valB_yes hv); have HVV := Lib.hid hv; have HW := Lib.hid hw
  have hl2 : (l.length : Int) ≤ 30 := by omega
  clear hP hA hs hv hw
  unfold ProvedC
  go_enter Try.func6, Try.ntmps6
  go_wp2_with fail
  refine (small_any A A2 c c2 p _ H1.out.pl).mono ?_
  rintro e w2 ⟨rfl, hb2⟩
  rw [HS.out]
  have H2 := Lib.hid (H1.out.next hb2)
  clear hb2 H1
  obtain ⟨k0, k1, _, _, _, _⟩ := H2.out
  go_wp2_with fail
  refine (HV.out A A2 c c2 _ H2.out.pl).mono ?_
  rintro e w3 ⟨rfl, hb3⟩
  have H3 := Lib.hid (H2.out.next hb3)
  clear hb3 H2 k0 k1
  obtain ⟨k0, k1, _, _, _, _⟩ := H3.out
  go_wp2_with fail
  refine (wayB A A2 A3 c c2 c3 p l _ H3.out.pl H3.out.sl HVV.out hl false ⟨fun h => (by cases h), fun h => absurd h HW.out⟩).mono ?_
  rintro e w4 ⟨rfl, hb4⟩
  have H4 := Lib.hid (H3.out.next hb4)
  clear hb4 H3 k0 k1
  go_wp2_with fail
  refine (known_any _).mono ?_
  rintro e w5 ⟨rfl, hb5⟩
  have H5 := Lib.hid (H4.out.next hb5)
  clear hb5 H4
  go_wp2
  go_ret
  exact ⟨rfl, H5.out.be⟩

theorem two_boxes (w : World) (a0 a1 b0 b1 : Value) (t : TypeId) :
    (((w.alloc (.cells #[a0, a1] t)).alloc (.cells #[b0, b1] t)).drew).cell? ⟨w.heap.size, 0, none⟩ = some a0 ∧ (((w.alloc (.cells #[a0, a1] t)).alloc (.cells #[b0, b1] t)).drew).cell? ⟨w.heap.size, 1, none⟩ = some a1 ∧
    (((w.alloc (.cells #[a0, a1] t)).alloc (.cells #[b0, b1] t)).drew).cell? ⟨w.heap.size + 1, 0, none⟩ = some b0 ∧ (((w.alloc (.cells #[a0, a1] t)).alloc (.cells #[b0, b1] t)).drew).cell? ⟨w.heap.size + 1, 1, none⟩ = some b1 ∧
    w.heap.size < (((w.alloc (.cells #[a0, a1] t)).alloc (.cells #[b0, b1] t)).drew).heap.size ∧ w.heap.size + 1 < (((w.alloc (.cells #[a0, a1] t)).alloc (.cells #[b0, b1] t)).drew).heap.size ∧
    Below w.heap.size w (((w.alloc (.cells #[a0, a1] t)).alloc (.cells #[b0, b1] t)).drew) := by
  have h2 : ∀ i, ((w.alloc (.cells #[a0, a1] t)).alloc (.cells #[b0, b1] t)).cell? ⟨w.heap.size + 1, i, none⟩ = #[b0, b1][i]? := fun i => by
    have := cell_new1 (w.alloc (.cells #[a0, a1] t)) #[b0, b1] t i
    rwa [show (w.alloc (.cells #[a0, a1] t)).heap.size = w.heap.size + 1 by simp] at this
  have hz : (((w.alloc (.cells #[a0, a1] t)).alloc (.cells #[b0, b1] t)).drew).heap.size = w.heap.size + 1 + 1 := by
    show ((w.alloc (.cells #[a0, a1] t)).alloc (.cells #[b0, b1] t)).heap.size = _
    simp
  exact ⟨cell_keep1 (cell_new1 w _ t 0) (by simp), cell_keep1 (cell_new1 w _ t 1) (by simp), h2 0, h2 1, by omega, by omega, (((Below.refl _ w).alloc (Nat.le_refl _) _).alloc (by simp) _).drew⟩
theorem gC_get {res : List C2} {k : Nat} (h : k < res.length) : (gC res k).1 = (res.map (·.1))[k]'(by simpa using h) := by simp [gC, h]
set_option maxRecDepth 100000 in
set_option maxHeartbeats 4000000 in
theorem Proved_in (hP : PlAt w w.heap.size A c A2 c2 p) (hA : Sl w w.heap.size 2 CE A3 l) (hs : smallB p = true) (hv : Vld p) (hl : l.length ≤ 30) (hw : wayOk p l) : ProvedC A A2 A3 c c2 c3 p l w := by
  have h0 : 0 < l.length := hw.1
  obtain ⟨q, hq⟩ : ∃ q, l.length = q + 1 := ⟨l.length - 1, by omega⟩
  have hin : ∀ j (hj : j < l.length), railIn p l[j].rail = true := fun j hj => by have := (hw.2.2 j hj).1; rwa [E1_eq hj] at this
  obtain ⟨⟨mr, ml⟩, hm⟩ : ∃ x, l[0] = x := ⟨_, rfl⟩
  obtain ⟨⟨tr, tl⟩, ht⟩ : ∃ x, l[q]'(by omega) = x := ⟨_, rfl⟩
  have hmI : railIn p mr = true := by have := hin 0 h0; rwa [hm] at this
  have htI : railIn p tr = true := by have := hin q (by omega); rwa [ht] at this
  obtain ⟨n, res, hres, hF⟩ := costs_some hv hs (t := keyE ⟨tr, tl⟩) (key_lt htI).2
  have hpr := way_proved (res := res) hw h0 (by
    have e : l[l.length - 1]'(by omega) = ⟨tr, tl⟩ := by rw [← ht]; congr 1; omega
    rw [e]; exact hF)
  rw [hm] at hpr
  obtain ⟨X, hX⟩ : ∃ x, (gC res (keyE ⟨mr, ml⟩)).1 = x := ⟨_, rfl⟩
  obtain ⟨O, hO⟩ : ∃ x, lenAt p mr = x := ⟨_, rfl⟩
  obtain ⟨L, hL⟩ : ∃ x, wlen p (l.map endNo) = x := ⟨_, rfl⟩
  obtain ⟨K, hK⟩ : ∃ x, keyE ⟨mr, ml⟩ = x := ⟨_, rfl⟩
  obtain ⟨M, hM⟩ : ∃ x, 2 * p.rails.length = x := ⟨_, rfl⟩
  simp only [hX, hO, hL] at hpr
  have hO0 : 0 ≤ O := by rw [← hO]; exact (lenAt_bd hv mr).1
  have hL1 : L ≤ 33218887680 := by
    have := (wlen_bd hv (l.map endNo)).2
    rw [hL] at this; simp only [List.length_map] at this; omega
  have hKM : K < M := by rw [← hK, ← hM]; exact (key_lt hmI).2
  have hKe : endNo ⟨mr, ml⟩ = (K : Int) := by rw [← hK]; exact (key_lt hmI).1.symm
  have hmr := of_decide_eq_true hmI
  have hr14 := small_rails hv hs
  have C28 := Lib.hid (show ∀ w, PlAt w w.heap.size A c A2 c2 p → Calls Try.prog 28 #[.agg #[.slice A p.nodes.length c, .slice A2 p.rails.length c2], .agg #[.int .i64 tr, .bool tl]] w fun e w' => (∃ rb, e = .returned (.tuple #[.slice (some ⟨rb, 0, none⟩) M M, .int .i64 0]) ∧ rb < w'.heap.size ∧ w'.cell? ⟨rb, K, none⟩ = some (.int .i64 X)) ∧ Below w.heap.size w w' from fun w hP =>
    (Distances_any A A2 c c2 n res p ⟨tr, tl⟩ w hP (fun _ _ => hres)).mono fun e w' h => by
      obtain ⟨⟨_, _, rb, rfl, hrow, _⟩ | ⟨h1 | h1, _⟩, hb⟩ := h
      · rw [hM]
        have hlen : K < (res.map (·.1)).length := by simp [hF.len, hM, hKM]
        refine ⟨⟨rb, rfl, hrow.lt, ?_⟩, hb⟩
        rw [hrow.cell hlen, ← gC_get (by simpa using hlen), ← hK, hX]
      · exact absurd hv h1
      · have h2 : railIn p tr = false := h1
        rw [htI] at h2; cases h2)
  have C29 := Lib.hid (show ∀ w, PlAt w w.heap.size A c A2 c2 p → Sl w w.heap.size 2 CE A3 l → Calls Try.prog 29 #[.agg #[.slice A p.nodes.length c, .slice A2 p.rails.length c2], .slice A3 (q + 1) c3] w fun e w' => e = .returned (.tuple #[.int .i64 L, .int .i64 0]) ∧ Below w.heap.size w w' from fun w hP hA => by
    have := WayLength_any A A2 A3 c c2 c3 p l w hP hA (by omega)
    rw [hq] at this
    refine this.mono fun e w' h => ?_
    obtain ⟨⟨_, _, rfl⟩ | ⟨h1, _⟩, hb⟩ := h
    · exact ⟨by rw [hL], hb⟩
    · exact absurd ⟨hv, hw⟩ h1)
  have C27 := Lib.hid (show ∀ w, PlAt w w.heap.size A c A2 c2 p → Sl w w.heap.size 2 CE A3 l → Calls Try.prog 27 #[.agg #[.slice A p.nodes.length c, .slice A2 p.rails.length c2], .slice A3 (q + 1) c3] w fun e w' => e = .returned (.bool true) ∧ Below w.heap.size w w' from fun w hP hA => by
    have := wayB A A2 A3 c c2 c3 p l w hP hA hv hl true ⟨fun _ => hw, fun _ => rfl⟩
    rwa [hq] at this)
  have C12 := Lib.hid (show ∀ w, PlAt w w.heap.size A c A2 c2 p → Calls Try.prog 12 #[.agg #[.slice A p.nodes.length c, .slice A2 p.rails.length c2], .int .i64 mr] w fun e w' => e = .returned (.tuple #[.int .i64 O, .int .i64 0]) ∧ Below w.heap.size w w' from fun w hP =>
    (Length_any A A2 c c2 p mr w hP).mono fun e w' h => by
      obtain ⟨⟨_, _, rfl⟩ | ⟨h1 | h1, _⟩, hb⟩ := h
      · exact ⟨by rw [hO], hb⟩
      · exact absurd hv h1
      · rw [hmI] at h1; cases h1)
  have C30 := Lib.hid (show ∀ w, Calls Try.prog 30 #[.agg #[.int .i64 mr, .bool ml]] w fun e w' => e = .returned (.int .i64 (K : Int)) ∧ Below w.heap.size w w' from fun w => by
    have := rNumber_any mr ml w hmr.1 (by omega)
    rwa [hKe] at this)
  have H1 := Lib.hid (Pst.start hP hA)
  have HS := Lib.hid hs; have HV := Lib.hid (valB_yes hv); have HQ := Lib.hid hq
  have HM := Lib.hid (show (M : Int) = 2 * (p.rails.length : Int) by omega)
  have HE := Lib.hid (show ∀ wr : World, Sl wr wr.heap.size 2 CE A3 l → ∃ b o, A3 = some ⟨b, o, none⟩ ∧ b < wr.heap.size ∧ wr.cell? ⟨b, o, none⟩ = some (.int .i64 mr) ∧ wr.cell? ⟨b, o + 1, none⟩ = some (.bool ml) ∧ wr.cell? ⟨b, o + q * 2, none⟩ = some (.int .i64 tr) ∧ wr.cell? ⟨b, o + q * 2 + 1, none⟩ = some (.bool tl) from fun wr hS => by
    obtain ⟨b1, o1, e1, g1, q0, q1⟩ := end_at hS h0
    obtain ⟨b2, o2, e2, g2, q2, q3⟩ := end_at hS (i := q) (by omega)
    rw [hm] at q0 q1
    rw [ht] at q2 q3
    subst e1
    obtain ⟨rfl, rfl⟩ : b1 = b2 ∧ o1 = o2 := by simpa using e2
    exact ⟨b1, o1, rfl, g1, by simpa using q0, by simpa using q1, q2, q3⟩)
  have hX0 := hpr.1; have hXO := hpr.2
  have hq30 : (q : Int) + 1 ≤ 30 := by omega
  have hM28 : (M : Int) ≤ 28 := by omega
  have hrl : (p.rails.length : Int) ≤ 14 := by omega
  unfold ProvedC
  rw [hq]
  clear hP hA hs hv hl hw h0 hin hm ht hmI htI hres hF hpr hX hO hL hK hM hKe hmr hr14 hq
  go_enter Try.func6, Try.ntmps6
  go_wp2_with fail
  refine (small_any A A2 c c2 p _ H1.out.pl).mono ?_
  rintro e w2 ⟨rfl, hb2⟩
  rw [HS.out]
  have H2 := Lib.hid (H1.out.next hb2)
  clear hb2 H1
  obtain ⟨k0, k1, _, _, _, _⟩ := H2.out
  go_wp2_with fail
  refine (HV.out A A2 c c2 _ H2.out.pl).mono ?_
  rintro e w3 ⟨rfl, hb3⟩
  have H3 := Lib.hid (H2.out.next hb3)
  clear hb3 H2 k0 k1
  obtain ⟨k0, k1, _, _, _, _⟩ := H3.out
  go_wp2_with fail
  refine (C27.out _ H3.out.pl H3.out.sl).mono ?_
  rintro e w4 ⟨rfl, hb4⟩
  have H4 := Lib.hid (H3.out.next hb4)
  clear hb4 H3 k0 k1
  go_upto_region 3 with (fail)
  obtain ⟨b1, o1, rfl, g1, q0, q1, q2, q3⟩ := HE.out _ H4.out.sl
  have HB4 := Lib.hid (show w.heap.size ≤ w4.heap.size from H4.out.be.size)
  have hwr1 : IntKind.i64.wrap ((q : Int) + 1 - 1) = (q : Int) := by rw [IntKind.wrap_i64]; omega
  have hwr2 : IntKind.i64.wrap (q : Int) = (q : Int) := by rw [IntKind.wrap_i64]; omega
  have hj0 : (0 : Int) ≤ (q : Int) := by omega
  have hj1 : (q : Int) < (q : Int) + 1 := by omega
  have hj2 : (0 : Int) < (q : Int) + 1 := by omega
  go_cut [5, 6] (fun s5 s6 wx => ∃ Ka Kb : Nat, s5 = .pointer (some ⟨Ka, 0, none⟩) ∧ s6 = .pointer (some ⟨Kb, 0, none⟩) ∧ wx.cell? ⟨Ka, 0, none⟩ = some (.int .i64 mr) ∧ wx.cell? ⟨Ka, 1, none⟩ = some (.bool ml) ∧ wx.cell? ⟨Kb, 0, none⟩ = some (.int .i64 tr) ∧ wx.cell? ⟨Kb, 1, none⟩ = some (.bool tl) ∧ Ka < wx.heap.size ∧ Kb < wx.heap.size ∧ Below w4.heap.size w4 wx)
  case first =>
    go_region
    · go_wp2_with fail
      go_meet
      obtain ⟨t1, t2, t3, t4, t5, t6, t7⟩ := two_boxes w4 (.int .i64 mr) (.bool ml) (.int .i64 tr) (.bool tl) 40
      exact ⟨w4.heap.size, w4.heap.size + 1, rfl, rfl, t1, t2, t3, t4, t5, t6, t7⟩
    · go_wp2_with fail
      go_meet
      obtain ⟨t1, t2, t3, t4, t5, t6, t7⟩ := two_boxes w4 (.int .i64 tr) (.bool tl) (.int .i64 mr) (.bool ml) 40
      exact ⟨w4.heap.size + 1, w4.heap.size, rfl, rfl, t3, t4, t1, t2, t6, t5, t7⟩
  case rest =>
  obtain ⟨Ka, Kb, rfl, rfl, y0, y1, z0, z1, hKa, hKb, hbq⟩ := hcut
  clear hwr1 hwr2 hj0 hj1 hj2 q0 q1 q2 q3 g1
  have H5 := Lib.hid (H4.out.next hbq)
  clear hbq H4 C27 HE HV HB4 HS
  obtain ⟨k0, k1, _, _, _, _⟩ := H5.out
  go_wp2_with fail
  refine (C28.out _ H5.out.pl).mono ?_
  rintro e w6 ⟨⟨rb, rfl, hrb, x0⟩, hb6⟩
  have H6 := Lib.hid (H5.out.next hb6)
  replace y0 := (hb6.cell (p := ⟨Ka, 0, none⟩) hKa).trans y0
  replace y1 := (hb6.cell (p := ⟨Ka, 1, none⟩) hKa).trans y1
  replace hKa := Nat.lt_of_lt_of_le hKa hb6.size
  clear hb6 H5 k0 k1 z0 z1 hKb C28
  obtain ⟨k0, k1, _, _, _, _⟩ := H6.out
  go_wp2_with fail
  refine (C29.out _ H6.out.pl H6.out.sl).mono ?_
  rintro e w7 ⟨rfl, hb7⟩
  have H7 := Lib.hid (H6.out.next hb7)
  replace y0 := (hb7.cell (p := ⟨Ka, 0, none⟩) hKa).trans y0
  replace y1 := (hb7.cell (p := ⟨Ka, 1, none⟩) hKa).trans y1
  replace x0 := (hb7.cell (p := ⟨rb, K, none⟩) hrb).trans x0
  replace hKa := Nat.lt_of_lt_of_le hKa hb7.size
  replace hrb := Nat.lt_of_lt_of_le hrb hb7.size
  clear hb7 H6 k0 k1 C29
  obtain ⟨k0, k1, _, _, _, _⟩ := H7.out
  go_wp2_with fail
  refine (C12.out _ H7.out.pl).mono ?_
  rintro e w8 ⟨rfl, hb8⟩
  have H8 := Lib.hid (H7.out.next hb8)
  replace y0 := (hb8.cell (p := ⟨Ka, 0, none⟩) hKa).trans y0
  replace y1 := (hb8.cell (p := ⟨Ka, 1, none⟩) hKa).trans y1
  replace x0 := (hb8.cell (p := ⟨rb, K, none⟩) hrb).trans x0
  replace hKa := Nat.lt_of_lt_of_le hKa hb8.size
  replace hrb := Nat.lt_of_lt_of_le hrb hb8.size
  clear hb8 H7 k0 k1 C12
  obtain ⟨k0, k1, _, _, _, _⟩ := H8.out
  have hrc := H8.out.pl.rc; have hrm := H8.out.pl.rm
  have d1 : ((M : Int) != 2 * (p.rails.length : Int)) = false := by rw [HM.out]; simp
  have d2 : (!((M : Int) == 2 * (p.rails.length : Int))) = false := by rw [HM.out]; simp
  go_wp2_with fail
  refine (C30.out _).mono ?_
  rintro e w9 ⟨rfl, hb9⟩
  have H9 := Lib.hid (H8.out.next hb9)
  replace x0 := (hb9.cell (p := ⟨rb, K, none⟩) hrb).trans x0
  have hK0 : (0 : Int) ≤ (K : Int) := by omega
  have hK1 : (K : Int) < (M : Int) := by omega
  have hxo : X + O ≤ 33218887680 := by omega
  have hxo0 : 0 ≤ X + O := by omega
  clear hb9 H8 k0 k1 y0 y1 hKa C30
  go_wp2_with fail
  refine (known_any _).mono ?_
  rintro e wa ⟨rfl, hba⟩
  have HA2 := Lib.hid (H9.out.next hba)
  clear hba H9
  go_wp2
  go_ret
  exact ⟨rfl, HA2.out.be⟩

theorem Proved_any (hP : PlAt w w.heap.size A c A2 c2 p) (hA : Sl w w.heap.size 2 CE A3 l) : ProvedC A A2 A3 c c2 c3 p l w := by
  cases hs : smallB p
  · exact Proved_big A A2 A3 c c2 c3 p l w hP hA hs
  · by_cases hv : Vld p
    · by_cases hl : l.length ≤ 30
      · by_cases hw : wayOk p l
        · exact Proved_in A A2 A3 c c2 c3 p l w hP hA hs hv hl hw
        · exact Proved_way A A2 A3 c c2 c3 p l w hP hA hs hv hl hw
      · exact Proved_long A A2 A3 c c2 c3 p l w hP hA hs hv (by omega)
    · exact Proved_not A A2 A3 c c2 c3 p l w hP hA hs hv
end

section row
open Go.ChangeShapes Go.WideShapes Go.ChangeAt Go.Deep
theorem Try.c40p : Try.prog.cellsOf 40 = 2 := by kernel_rfl
theorem Try.b40p : 1 ≤ Try.prog.bytesOf 40 := by rw [show Try.prog.bytesOf 40 = 16 by kernel_rfl]; omega
section
variable {H : Type} {enc : TypeId × Value → H} {w : World} {fuel : Nat} {cs : List Value} {x : DataW H × List MemPlace}
set_option maxRecDepth 100000 in
theorem read_Mp (h : DataW.trod enc Try.prog w 0 (fun _ => true) true fuel 40 cs = some x) (hl : InReach Try.prog 40 x.1) : ∃ z : E, CE z cs := by
  have hn := read_len Try.underlying40 h
  rw [Try.c40p] at hn
  obtain ⟨n1, y1, h1, _⟩ := read_at Try.underlying40 h hl 0 rfl Try.c3
  obtain ⟨n2, y2, h2, _⟩ := read_at Try.underlying40 h hl 1 rfl Try.c4
  obtain ⟨a, ha, _, _⟩ := DataW.trod_int Try.underlying3 h1
  obtain ⟨b, hb, _⟩ := DataW.trod_bool Try.underlying4 h2
  match cs, hn with
  | [u, v], _ =>
    simp at ha hb
    subst ha; subst hb
    exact ⟨⟨a, b⟩, rfl⟩
theorem read_Ms (h : DataW.trod enc Try.prog w 0 (fun _ => true) true fuel 42 cs = some x) (hl : InReach Try.prog 42 x.1) :
    ∃ (A : Option Addr) (l : List E) (c : Nat), cs = [.slice A l.length c] ∧ Sl w w.heap.size 2 CE A l ∧ l.length ≤ c ∧ c ≤ 140737488351232 :=
  read_slice (C := CE) Try.underlying42 Try.c40p (by omega) Try.b40p h hl fun n cs' y h hl => read_Mp h hl
end

set_option maxRecDepth 100000 in
set_option maxHeartbeats 1600000 in
theorem trackProved_lifted (os : Os) (started : os.Started) (H : Type) (enc : TypeId × Value → H) :
    ReturnsInHanded {} Try.checked os 6 .any (Rows.trackProvedSpec.pre6 enc Try.prog Try.f6 Rows.trackProvedRow.domain false) (Rows.trackProvedSpec.post enc Try.prog Try.f6 false true false false) := by
  refine returnsInHanded_of_change_sized (C := Try.checked) (by kernel_rfl : ownKnob Try.prog.godebug = none) started (by kernel_rfl) Try.func6
    (ChangeSpec.witness6 (enc := enc) (C := Try.checked) false ⟨#[], #[.agg #[.slice none 0 0, .slice none 0 0], .slice none 0 0], []⟩ 8 (by kernel_rfl) (by kernel_rfl) (by kernel_rfl) (by kernel_rfl)) ?_
  intro W base args ds gs before hval0 hW _ hsz0 _
  have hsz : (DataW.weightsEach Try.prog (Try.f6.params.toList ++ Rows.trackProvedSpec.plain.varTypes Try.prog) (ds ++ gs)).all (· ≤ reachBytes) = true := hsz0
  clear hsz0
  have hval : ∀ (j : Nat) t v, Try.f6.params[j]? = some t → args[j]? = some v → Value.okWide Try.prog W .any base t v := hval0
  have hW' := hW
  obtain ⟨p, q, hA0, hV, rfl, hfz, _⟩ := hW
  have hA : DataW.TrodAll enc Try.prog W 0 (fun _ => true) true Try.f6.params.toList args.toList ds p := hA0
  rw [Try.params6] at hA hval hsz
  obtain ⟨v0, v1, d0, d1, p0, p1, rfl, rfl, rfl, h0, h1⟩ := trodAll_two hA
  obtain ⟨rfl, rfl⟩ := trodVars_none hV
  obtain ⟨cs, rfl, hcs⟩ := okWide_struct Try.underlying25 (hval 0 25 v0 rfl rfl)
  obtain ⟨A3, len, cap, rfl⟩ := okWide_slice Try.underlying42 (hval 1 42 v1 rfl rfl)
  have h0k := h0
  have h1k := h1
  obtain ⟨fuel, hf⟩ := h0
  obtain ⟨fuel1, hf1⟩ := h1
  clear hA0 hval0 hA
  simp only [List.append_nil] at hW' hsz
  have hlt : ∀ x ∈ p0 ++ p1, x.block < W.heap.size := fun x hx => hW'.lt x hx
  obtain ⟨pl, A, c, A2, c2, hcs3, hP⟩ := read_Pl (enc := enc) (w := W) (x := (d0, p0)) hf (fun n hn => by
    have := List.all_eq_true.1 hsz n (DataW.weights_mem_each (j := 0) (t := 25) (d := d0) rfl rfl n hn)
    simpa using this)
  obtain ⟨A4, l, c4, hcs5, hS, hlc, hcm⟩ := read_Ms (enc := enc) (w := W) (x := (d1, p1)) hf1 (fun n hn => by
    have := List.all_eq_true.1 hsz n (DataW.weights_mem_each (j := 1) (t := 42) (d := d1) rfl rfl n hn)
    simpa using this)
  have hcs4 : cs = #[.slice A pl.nodes.length c, .slice A2 pl.rails.length c2] := by
    apply Array.toList_inj.1
    simpa [Value.cells] using hcs3
  subst hcs4
  obtain ⟨rfl, rfl, rfl⟩ : A3 = A4 ∧ len = l.length ∧ cap = c4 := by simpa [Value.cells] using hcs5
  refine (Proved_any A A2 A3 c c2 cap pl l W hP hS).mono fun e W' ⟨he, hb⟩ => ?_
  subst he
  have hs : W.Since W.heap.size W' := ⟨hb.os, hb.tape, hb.output, hb.size, hb.block⟩
  have laid : laidOutB Try.prog = true := by kernel_rfl
  have hargs : DataW.Trod enc Try.prog W' 0 (fun b => decide (b < W.heap.size)) true 25 (.agg #[.slice A pl.nodes.length c, .slice A2 pl.rails.length c2]) d0 p0 :=
    WideElems.Trod_stays laid (by kernel_rfl) (of_decide_eq_true (by kernel_rfl)) h0k (fun x hx => hs.sameAt (hlt x (by simp [hx]))) (fun x hx => by simpa using hlt x (by simp [hx]))
  have hargs1 : DataW.Trod enc Try.prog W' 0 (fun b => decide (b < W.heap.size)) true 42 (.slice A3 l.length cap) d1 p1 :=
    WideElems.Trod_stays laid (by kernel_rfl) (of_decide_eq_true (by kernel_rfl)) h1k (fun x hx => hs.sameAt (hlt x (by simp [hx]))) (fun x hx => by simpa using hlt x (by simp [hx]))
  exact ⟨_, rfl, _, _, _, [], p0 ++ p1, [], hW', trodAll_mk1 (shut_bool Try.underlying4 true), trodAll_mk2 hargs hargs1, rfl, hs.frame _, fun h => by cases h⟩

theorem trackProved_holds : Rows.TrackProvedSaid :=
  OpenClaim.holds_of_wide 6 Try.f6 rfl rfl rfl rfl rfl rfl rfl ⟨rfl, rfl, rfl, rfl, rfl⟩ rfl rfl rfl rfl rfl (by kernel_rfl) Try.func6 (by kernel_rfl)
    (of_decide_eq_true (by kernel_rfl)) (by unfold Func.isWrapper; rw [if_neg (of_decide_eq_false (by kernel_rfl))]; exact ⟨rfl, rfl⟩)
    (fun os started H enc _ => trackProved_lifted os started H enc)
end row
end Go.Proofs.Ytcpanfpijljeaaa
