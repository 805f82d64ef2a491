/- Contracts: wayLength, way, surveyWay. -/
import Derived.Test.YtekambdnmaompaaGreatG3
namespace Go.Proofs.YtekambdnmaompaaGreat
set_option linter.unusedVariables false
set_option linter.unusedSimpArgs false
open Go.RowKit

/-- the length of a way, by the numbers of its moves -/
def wlen (p : Pl) (l : List Int) : Int := (l.map fun x => lenAt p (x / 2)).sum
theorem wlen_succ (p : Pl) (l : List Int) {k : Nat} (h : k < l.length) : wlen p (l.take (k + 1)) = wlen p (l.take k) + lenAt p (l[k] / 2) := by
  unfold wlen; rw [List.take_succ_eq_append_getElem h, List.map_append, List.sum_append]; simp
theorem lenOf_le (L : List S) : lenOf L ≤ L.length * 33554432 := by
  exact Nat.le_trans (lenTo_le L (L.length - 1)) (Nat.mul_le_mul_right _ (Nat.sub_le _ _))
theorem lenAt_bd {p : Pl} (hV : Vld p) (r : Int) : 0 ≤ lenAt p r ∧ lenAt p r ≤ 1107296256 := by
  unfold lenAt
  by_cases h : r.toNat < (lensOf p).length
  · rw [List.getElem?_eq_getElem h]
    have hl : r.toNat < p.rails.length := by rw [← lens_len p]; exact h
    have : (lensOf p)[r.toNat] = lenZ p p.rails[r.toNat] := by simp [lensOf]
    simp only [Option.getD_some, this, lenZ]
    have h1 := lenOf_le (lineOf p p.rails[r.toNat])
    have h2 := (railB_ix (hV.rail hl).1).2.2
    have h3 : (lineOf p p.rails[r.toNat]).length ≤ 33 := by simp [lineOf]; omega
    have h4 : (lineOf p p.rails[r.toNat]).length * 33554432 ≤ 33 * 33554432 := Nat.mul_le_mul_right _ h3
    omega
  · rw [List.getElem?_eq_none (by omega)]; simp
theorem wlen_bd {p : Pl} (hV : Vld p) (l : List Int) : 0 ≤ wlen p l ∧ wlen p l ≤ l.length * 1107296256 := by
  induction l with
  | nil => simp [wlen]
  | cons x l ih =>
    have := lenAt_bd hV (x / 2)
    simp only [wlen, List.map_cons, List.sum_cons, List.length_cons] at ih ⊢
    push_cast
    omega
theorem lens_get {p : Pl} {k : Nat} (hk : k < p.rails.length) : (lensOf p)[k]'(by rw [lens_len]; exact hk) = lenAt p (k : Int) := by simp [lenAt, lens_len, hk]

set_option maxHeartbeats 1000000 in
theorem wayLength_any (B g : Nat) (p : Pl) (A : Option Addr) (l : List Int) (c : Nat) (w : World) (h : Nw w B g p) (hA : Sl w w.heap.size 1 CI A l) (hl : l.length ≤ 100000) (hr : ∀ x ∈ l, 0 ≤ x ∧ x < 2 * (p.rails.length : Int)) :
    Calls Tryz.prog 78 #[.pointer (some ⟨g, 0, none⟩), .slice A l.length c] w fun e w' => e = .returned (.int .i64 (wlen p l)) ∧ w = w' := by
  have hsz := h.sizes
  obtain ⟨A1, c1, A2, c2, lb, sb, nb, bb, hN, h1, h2, h3, h4, h5, h6⟩ := h.net
  obtain ⟨_, _, q2, _, _, _⟩ := hN.cell
  have HV := Lib.hid h.v
  have HR := Lib.hid hr
  have H3 := Lib.hid h3
  clear hN h h3 h4 h5 h6 hr
  go_enter Tryz.func78, Tryz.ntmps78
  go_wp2
  go_loop [5, 10] (fun s i => ∃ k : Nat, k ≤ l.length ∧ i = .int .i64 k ∧ s = .int .i64 (wlen p (l.take k))) (fun _ i => l.length - (intOf i).toNat)
  case atStart => exact ⟨0, Nat.zero_le _, rfl, by simp [wlen]⟩
  case round =>
    obtain ⟨k, hk, rfl, rfl⟩ := hrel
    by_cases hlt : k < l.length
    · obtain ⟨b1, o1, e1, g1, q1⟩ := int_at hA hlt
      obtain ⟨x, hx⟩ : ∃ x, l[k] = x := ⟨_, rfl⟩
      have hx01 := HR.out x (by rw [← hx]; exact List.getElem_mem hlt)
      obtain ⟨hx0, hx1⟩ := hx01
      obtain ⟨n, rfl⟩ := Int.eq_ofNat_of_zero_le hx0
      rw [hx] at q1
      have hn : n / 2 < p.rails.length := by omega
      have z := H3.out.cell (i := n / 2) (by rw [lens_len]; exact hn)
      rw [lens_get hn] at z
      have HX := Lib.hid (show wlen p (l.take (k + 1)) = wlen p (l.take k) + lenAt p ((n / 2 : Nat) : Int) by rw [wlen_succ p l hlt, hx]; congr 2)
      have hb1 := lenAt_bd HV.out ((n / 2 : Nat) : Int)
      obtain ⟨y, hy⟩ : ∃ y, lenAt p ((n / 2 : Nat) : Int) = y := ⟨_, rfl⟩
      rw [hy] at z hb1
      obtain ⟨s, hs⟩ : ∃ s, wlen p (l.take k) = s := ⟨_, rfl⟩
      have hb2 := wlen_bd HV.out (l.take k)
      rw [hs] at hb2
      have hlk : (l.take k).length ≤ k := List.length_take_le _ _
      have hs2 : s ≤ 110729625600000 := by omega
      rw [hs]
      have HX2 := Lib.hid (show wlen p (l.take (k + 1)) = s + y by rw [HX.out, hs, hy])
      obtain ⟨hy0, hy1⟩ := hb1
      obtain ⟨hs0, _⟩ := hb2
      subst e1
      clear hx hy hs HX hlk
      go_wp2
      go_round
      case rel => exact ⟨k + 1, by omega, by go_num, by rw [HX2.out]⟩
      case measure => simp [intOf]; omega
    · obtain rfl : k = l.length := by omega
      have HQ := Lib.hid (show wlen p (l.take l.length) = wlen p l by rw [List.take_length])
      go_wp2
      go_ret
      exact ⟨by rw [← HQ.out]; rfl, rfl⟩

def E1' (l : List E) (k : Nat) : E := (l[k]?).getD E0
/-- the first k moves are a way, as far as they go -/
def wayTo (p : Pl) (l : List E) (k : Nat) : Prop := ∀ j, j < k → railIn p (E1' l j).rail = true ∧ (0 < j → folB p (keyE (E1' l (j - 1))) (endNo (E1' l j)) = true)
def wayOk (p : Pl) (l : List E) : Prop := 1 ≤ l.length ∧ l.length ≤ 2000 ∧ wayTo p l l.length
theorem E1_eq {l : List E} {k : Nat} (h : k < l.length) : E1' l k = l[k] := by simp [E1', h]
theorem wayTo.step {p : Pl} {l : List E} {k : Nat} (h : wayTo p l k) (h1 : railIn p (E1' l k).rail = true) (h2 : 0 < k → folB p (keyE (E1' l (k - 1))) (endNo (E1' l k)) = true) : wayTo p l (k + 1) := fun j hj => by
  by_cases e : j = k
  · subst e; exact ⟨h1, h2⟩
  · exact h j (by omega)
theorem map_take_succ {α β : Type} {l : List α} {f : α → β} {k : Nat} (h : k < l.length) : (l.take (k + 1)).map f = (l.take k).map f ++ [f l[k]] := by
  rw [List.take_succ_eq_append_getElem h, List.map_append]; rfl
def WayPost (p : Pl) (l : List E) (w : World) (e : Ending) (w' : World) : Prop :=
  ((wayOk p l ∧ ∃ v, e = .returned (.tuple #[v, .bool true]) ∧ Own w' w.heap.size 3 1 fI v (l.map endNo)) ∨ (¬ wayOk p l ∧ e = .returned (.tuple #[.slice none 0 0, .bool false]))) ∧ Below w.heap.size w w'

set_option maxRecDepth 100000 in
set_option maxHeartbeats 4000000 in
theorem way_any (B g : Nat) (p : Pl) (A : Option Addr) (l : List E) (c : Nat) (w : World) (h : Nw w B g p) (hB : B ≤ w.heap.size) (hA : Sl w w.heap.size 2 CE A l) (hl : l.length ≤ 140737488351232) :
    Calls Tryz.prog 101 #[.pointer (some ⟨g, 0, none⟩), .slice A l.length c] w (WayPost p l w) := by
  have hsz := h.sizes
  have HN := Lib.hid h
  clear h
  by_cases l1 : l.length < 1
  · have d1 : decide ((l.length : Int) < 1) = true := by simp; omega
    have d2 : decide (l.length < 1) = true := by rw [decide_eq_true_iff]; exact l1
    have HW := Lib.hid (show ¬ wayOk p l from fun h => by have := h.1; omega)
    clear l1
    go_enter Tryz.func101, Tryz.ntmps101
    go_wp2
    go_ret2
    exact ⟨.inr ⟨HW.out, rfl⟩, Below.refl _ _⟩
  have d1 : decide ((l.length : Int) < 1) = false := by simp; omega
  by_cases l2 : 2000 < l.length
  · have d2 : decide (2000 < (l.length : Int)) = true := by simp; omega
    have HW := Lib.hid (show ¬ wayOk p l from fun h => by have := h.2.1; omega)
    go_enter Tryz.func101, Tryz.ntmps101
    go_wp2
    go_ret2
    exact ⟨.inr ⟨HW.out, rfl⟩, Below.refl _ _⟩
  have d2 : decide (2000 < (l.length : Int)) = false := by simp; omega
  obtain ⟨i0, hi, hz0, hz1, hz2⟩ := info_parts info3
  have hmk := fun W : World => run_mk (P := Tryz.prog) 115 3 i0 _ 1 Tryz.underlying115 hi hz0 hz1 0 (l.length : Int) 0 l.length rfl rfl (by omega) (by rw [hz2]; omega) (by omega) W
  have HO := Lib.hid (show Own (w.alloc (.cells (madeCells #[.int .i64 0] (l.length * 1)) 3)) w.heap.size 3 1 fI (.slice (some ⟨w.heap.size, 0, none⟩) 0 l.length) [] from
    Own.made w _ _ (Nat.le_refl _) (by simp [maxLen]; omega) (by simp [madeCells]))
  go_enter Tryz.func101, Tryz.ntmps101
  go_wp2
  clear hmk
  go_loopw [6, 22] (fun v i wr => ∃ k : Nat, k ≤ l.length ∧ i = .int .i64 k ∧ wayTo p l k ∧ Own wr w.heap.size 3 1 fI v ((l.take k).map endNo) ∧ Below w.heap.size w wr) (fun _ i _ => l.length - (intOf i).toNat)
  case atStart => exact ⟨0, Nat.zero_le _, rfl, fun j hj => absurd hj (by omega), by simpa using HO.out, (Below.refl _ _).alloc (Nat.le_refl _) _⟩
  case round =>
    obtain ⟨k, hk, rfl, hw, ho, hb⟩ := hrel
    clear HO
    have HW := Lib.hid hw
    clear hw
    by_cases hlt : k < l.length
    · obtain ⟨b1, o1, e1, g1, q0, q1⟩ := end_at (hA.below hb) hlt
      obtain ⟨⟨mr, ml⟩, hx⟩ : ∃ x, l[k] = x := ⟨_, rfl⟩
      have HX := Lib.hid (show E1' l k = ⟨mr, ml⟩ by rw [E1_eq hlt]; exact hx)
      rw [hx] at q0 q1
      have HT := Lib.hid (show (l.take (k + 1)).map endNo = (l.take k).map endNo ++ [endNo ⟨mr, ml⟩] by rw [map_take_succ hlt, hx])
      subst e1
      have hzw := hb.size
      have HB := Lib.hid hb; have HO := Lib.hid ho
      have HNr := Lib.hid (show Nw wr B g p from HN.out.below (hb.mono hB))
      clear hx hb ho
      go_wp2_with fail
      refine (hasRail_any B g p mr _ (HNr.out.below ((Below.refl B wr).alloc (Nat.le_trans hB hzw) _))).mono ?_
      rintro e w2 ⟨rfl, rfl⟩
      cases hr : railIn p mr
      · have HR := Lib.hid (show ¬ wayOk p l from fun h => by have := (h.2.2 k hlt).1; rw [HX.out] at this; rw [hr] at this; cases this)
        go_wp2
        go_ret2
        exact ⟨.inr ⟨HR.out, rfl⟩, HB.out.alloc (by omega) _⟩
      have HR := Lib.hid hr
      have hr2 := of_decide_eq_true hr
      have hr0 := hr2.1
      have hr1 : mr ≤ 1000000 := by omega
      have hlen : ((l.take k).map endNo).length ≤ k := by simp; omega
      clear hr hr2
      have y0 := cell_new1 wr #[.int .i64 mr, .bool ml] 190 0
      have y1 := cell_new1 wr #[.int .i64 mr, .bool ml] 190 1
      simp only [List.getElem?_toArray, List.getElem?_cons_zero, List.getElem?_cons_succ] at y0 y1
      rcases k with _ | j
      · have HW2 := Lib.hid (HW.out.step (by rw [HX.out]; exact HR.out) (fun h => absurd h (by omega)))
        have d3 : decide ((0 : Int) < ((0 : Nat) : Int)) = false := by simp
        go_wp2
        go_quiet (fail)
        go_wp2_with fail
        refine (number_gen mr ml _ hr0 hr1).mono ?_
        rintro e w3 ⟨rfl, hb3⟩
        have HBX := Lib.hid (((Below.refl wr.heap.size wr).alloc (Nat.le_refl _) (.cells #[.int .i64 mr, .bool ml] 190)).trans ((bDrewN (Below.refl _ _) nq).trans hb3 |>.mono (by simp)))
        have hz3 : wr.heap.size ≤ w3.heap.size := HBX.out.size
        have HO1 := Lib.hid (HO.out.below HBX.out (Nat.le_refl _))
        clear hb3
        go_wp2_with (at_builtin; go_must (refine wpList_app _ rfl (.tmp 46) (.tmp 49) _ rfl w.heap.size 3 i0 _ 1 8 Tryz.underlying115 hi hz0 hz1 hz2 rfl (by omega) fI_len fI_one u6 _ rfl (HO1.out.alloc _) _ _ [endNo ⟨mr, ml⟩] 1 rfl (Sl.new _ _ (endNo ⟨mr, ml⟩) _ rfl) (by unfold maxLen; simp only [List.length_cons, List.length_nil]; omega) (by simp only [List.length_cons, List.length_nil]; omega) (by simp; omega) (fun _ => .inr ⟨_, rfl⟩) ?_); intro v2 w4 o2 gr2 at2 ne2)
        go_roundw
        case rel => exact ⟨0 + 1, by omega, by go_num, HW2.out, by rw [HT.out]; exact o2, (((HB.out.trans (HBX.out.mono hzw)).alloc (by omega) _).grown gr2 (by simp; omega) (fun k hk => (HO1.out.lt k hk).1))⟩
        case measure => simp [intOf]; omega
      · have HKK := Lib.hid (show E1' l j = l[j]'(by omega) from E1_eq (by omega))
        have hjl : j < ((l.take (j + 1)).map endNo).length := by simp; omega
        obtain ⟨Au, cu, rfl, hu1, hu2, hu3⟩ := HO.out.form
        obtain ⟨b3, o3, e3, g3, q3⟩ := int_at (fI_CI (HO.out.sl fI_len rfl)) hjl
        have hq3 : ((l.take (j + 1)).map endNo)[j] = endNo (E1' l j) := by rw [HKK.out]; simp
        rw [hq3] at q3
        obtain ⟨kk, kl⟩ := key_lt (HW.out j (by omega)).1
        rw [← kk] at q3
        obtain ⟨P, hP⟩ : ∃ P, keyE (E1' l j) = P := ⟨_, rfl⟩
        rw [hP] at q3 kl
        have HPP := Lib.hid hP
        subst e3
        clear kk hP hq3 hu3
        have d3 : decide ((0 : Int) < ((j + 1 : Nat) : Int)) = true := by first | (simp; done) | (simp; omega)
        have d4 : decide ((0 : Int) < (j : Int) + 1) = true := by rw [decide_eq_true_iff]; omega
        have hj0 : (0 : Int) ≤ (j : Int) := by omega
        have hj1 : (j : Int) < (((l.take (j + 1)).map endNo).length : Int) := by omega
        have q4 := (cell_alloc_lt wr (.cells #[.int .i64 mr, .bool ml] 190) g3).trans q3
        have hbw : Below (wr.alloc (.cells #[.int .i64 mr, .bool ml] 190)).heap.size (wr.alloc (.cells #[.int .i64 mr, .bool ml] 190)) (wr.alloc (.cells #[.int .i64 mr, .bool ml] 190)).drew := (Below.refl _ _).drew
        have hwr1 : IntKind.i64.wrap ((j : Int) + 1 - 1) = (j : Int) := by rw [IntKind.wrap_i64]; omega
        have hwr2 : IntKind.i64.wrap (j : Int) = (j : Int) := by rw [IntKind.wrap_i64]; omega
        have hjs : (j : Int) < (j : Int) + 1 := by omega
        go_wp2
        go_region_held3 (fun w' => w'.cell? ⟨wr.heap.size, 0, none⟩ = some (.int .i64 mr) ∧ w'.cell? ⟨wr.heap.size, 1, none⟩ = some (.bool ml) ∧ w'.cell? ⟨b3, o3 + j, none⟩ = some (.int .i64 (P : Int)))
          (exact ⟨(hbw.cell (p := ⟨wr.heap.size, 0, none⟩) (by simp)).trans y0, (hbw.cell (p := ⟨wr.heap.size, 1, none⟩) (by simp)).trans y1, (hbw.cell (p := ⟨b3, o3 + j, none⟩) (by simp; omega)).trans q4⟩)
          ((first
            | (go_at_call 128; refine (number_gen _ _ _ hr0 hr1).mono ?_; rintro e w2 ⟨rfl, hb2⟩; replace hbw := hbw.trans (hb2.mono hbw.size))
            | (go_at_call 127; refine (follows_any B g p P _ _ ((HNr.out.below ((Below.refl B wr).alloc (Nat.le_trans hB hzw) _)).below (hbw.mono (by simp; omega))) (by have := hbw.size; simp at this; omega) kl).mono ?_; rintro e w3 ⟨rfl, rfl⟩)))
        have hlj : ((l.take (j + 1)).map endNo).length = j + 1 := by simp; omega
        have HOv := Lib.hid (show Own wr w.heap.size 3 1 fI (.slice (some ⟨b3, o3, none⟩) (j + 1) cu) ((l.take (j + 1)).map endNo) by have := HO.out; rw [hlj] at this; exact this)
        have HBX := Lib.hid ((((Below.refl wr.heap.size wr).alloc (Nat.le_refl _) (.cells #[.int .i64 mr, .bool ml] 190))).trans (hbw.mono (by simp)))
        have z0 := (hbw.cell (p := ⟨wr.heap.size, 0, none⟩) (by simp)).trans y0
        have z1 := (hbw.cell (p := ⟨wr.heap.size, 1, none⟩) (by simp)).trans y1
        clear hwr1 hwr2 hbw y0 y1 q3 q4 hlj
        cases hf : folB p P (endNo ⟨mr, ml⟩)
        · have HR := Lib.hid (show ¬ wayOk p l from fun h => by have := (h.2.2 (j + 1) hlt).2 (by omega); rw [HX.out, show j + 1 - 1 = j by omega, HPP.out] at this; rw [hf] at this; cases this)
          go_wp2
          go_ret2
          exact ⟨.inr ⟨HR.out, rfl⟩, HB.out.trans (HBX.out.mono hzw)⟩
        · have HW2 := Lib.hid (HW.out.step (by rw [HX.out]; exact HR.out) (fun _ => by rw [HX.out, show j + 1 - 1 = j by omega, HPP.out]; exact hf))
          have hzq : wr.heap.size ≤ w2.heap.size := HBX.out.size
          go_wp2_with fail
          refine (number_gen mr ml _ hr0 hr1).mono ?_
          rintro e w3 ⟨rfl, hb3⟩
          have HBY := Lib.hid (HBX.out.trans (hb3.mono hzq))
          have hz3 : w2.heap.size ≤ w3.heap.size := hb3.size
          have HO1 := Lib.hid (HOv.out.below HBY.out (Nat.le_refl _))
          clear hb3 hf
          go_wp2_with (at_builtin; go_must (refine wpList_app _ rfl (.tmp 46) (.tmp 49) _ rfl w.heap.size 3 i0 _ 1 8 Tryz.underlying115 hi hz0 hz1 hz2 rfl (by omega) fI_len fI_one (.slice (some ⟨b3, o3, none⟩) (j + 1) cu) _ rfl (HO1.out.alloc _) _ _ [endNo ⟨mr, ml⟩] 1 rfl (Sl.new _ _ (endNo ⟨mr, ml⟩) _ rfl) (by unfold maxLen; simp only [List.length_cons, List.length_nil]; omega) (by simp only [List.length_cons, List.length_nil]; omega) (by simp; omega) (fun _ => .inr ⟨_, rfl⟩) ?_); intro v2 w4 o2 gr2 at2 ne2)
          go_roundw
          case rel => exact ⟨j + 1 + 1, by omega, by go_num, HW2.out, by rw [HT.out]; exact o2, (((HB.out.trans (HBY.out.mono hzw)).alloc (by omega) _).grown gr2 (by simp; omega) (fun k hk => (HO1.out.lt k hk).1))⟩
          case measure => simp [intOf]; omega
    · obtain rfl : k = l.length := by omega
      have HQ := Lib.hid (show Own wr w.heap.size 3 1 fI u6 (l.map endNo) by rwa [List.take_length] at ho)
      have HY := Lib.hid (show wayOk p l from ⟨by omega, by omega, HW.out⟩)
      clear ho
      go_wp2
      go_ret2
      exact ⟨.inl ⟨HY.out, _, rfl, HQ.out⟩, hb⟩
end Go.Proofs.YtekambdnmaompaaGreat
