/- Texts G4 G5. -/
import Derived.Test.YtekambdnmaompaaGreatG3
namespace Go.Proofs.YtekambdnmaompaaGreat
set_option linter.unusedVariables false
set_option linter.unusedSimpArgs false
open Go.RowKit

/-- the length of a way, by the numbers of its moves -/
def wlen (p : Pl) (l : List Int) : Int := (l.map fun x => lenAt p (x / 2)).sum
theorem wlen_succ (p : Pl) (l : List Int) {k : Nat} (h : k < l.length) : wlen p (l.take (k + 1)) = wlen p (l.take k) + lenAt p (l[k] / 2) := by
  unfold wlen; rw [List.take_succ_eq_append_getElem h, List.map_append, List.sum_append]; simp
theorem lenOf_le (L : List S) : lenOf L ≤ L.length * 33554432 := by
  exact Nat.le_trans (lenTo_le L (L.length - 1)) (Nat.mul_le_mul_right _ (Nat.sub_le _ _))
theorem lenAt_bd {p : Pl} (hV : Vld p) (r : Int) : 0 ≤ lenAt p r ∧ lenAt p r ≤ 1107296256 := by
  unfold lenAt
  by_cases h : r.toNat < (lensOf p).length
  · rw [List.getElem?_eq_getElem h]
    have hl : r.toNat < p.rails.length := by rw [← lens_len p]; exact h
    have : (lensOf p)[r.toNat] = lenZ p p.rails[r.toNat] := by simp [lensOf]
    simp only [Option.getD_some, this, lenZ]
    have h1 := lenOf_le (lineOf p p.rails[r.toNat])
    have h2 := (railB_ix (hV.rail hl).1).2.2
    have h3 : (lineOf p p.rails[r.toNat]).length ≤ 33 := by simp [lineOf]; omega
    have h4 : (lineOf p p.rails[r.toNat]).length * 33554432 ≤ 33 * 33554432 := Nat.mul_le_mul_right _ h3
    omega
  · rw [List.getElem?_eq_none (by omega)]; simp
theorem wlen_bd {p : Pl} (hV : Vld p) (l : List Int) : 0 ≤ wlen p l ∧ wlen p l ≤ l.length * 1107296256 := by
  induction l with
  | nil => simp [wlen]
  | cons x l ih =>
    have := lenAt_bd hV (x / 2)
    simp only [wlen, List.map_cons, List.sum_cons, List.length_cons] at ih ⊢
    push_cast
    omega
theorem lens_get {p : Pl} {k : Nat} (hk : k < p.rails.length) : (lensOf p)[k]'(by rw [lens_len]; exact hk) = lenAt p (k : Int) := by simp [lenAt, lens_len, hk]

set_option maxHeartbeats 1000000 in
theorem wayLength_any (B g : Nat) (p : Pl) (A : Option Addr) (l : List Int) (c : Nat) (w : World) (h : Nw w B g p) (hA : Sl w w.heap.size 1 CI A l) (hl : l.length ≤ 100000) (hr : ∀ x ∈ l, 0 ≤ x ∧ x < 2 * (p.rails.length : Int)) :
    Calls Tryz.prog 78 #[.pointer (some ⟨g, 0, none⟩), .slice A l.length c] w fun e w' => e = .returned (.int .i64 (wlen p l)) ∧ w = w' := by
  have hsz := h.sizes
  obtain ⟨A1, c1, A2, c2, lb, sb, nb, bb, hN, h1, h2, h3, h4, h5, h6⟩ := h.net
  obtain ⟨_, _, q2, _, _, _⟩ := hN.cell
  have HV := Lib.hid h.v
  have HR := Lib.hid hr
  have H3 := Lib.hid h3
  clear hN h h3 h4 h5 h6 hr
  go_enter Tryz.func78, Tryz.ntmps78
  go_wp2
  go_loop [5, 10] (fun s i => ∃ k : Nat, k ≤ l.length ∧ i = .int .i64 k ∧ s = .int .i64 (wlen p (l.take k))) (fun _ i => l.length - (intOf i).toNat)
  case atStart => exact ⟨0, Nat.zero_le _, rfl, by simp [wlen]⟩
  case round =>
    obtain ⟨k, hk, rfl, rfl⟩ := hrel
    by_cases hlt : k < l.length
    · obtain ⟨b1, o1, e1, g1, q1⟩ := int_at hA hlt
      obtain ⟨x, hx⟩ : ∃ x, l[k] = x := ⟨_, rfl⟩
      have hx01 := HR.out x (by rw [← hx]; exact List.getElem_mem hlt)
      obtain ⟨hx0, hx1⟩ := hx01
      obtain ⟨n, rfl⟩ := Int.eq_ofNat_of_zero_le hx0
      rw [hx] at q1
      have hn : n / 2 < p.rails.length := by omega
      have z := H3.out.cell (i := n / 2) (by rw [lens_len]; exact hn)
      rw [lens_get hn] at z
      have HX := Lib.hid (show wlen p (l.take (k + 1)) = wlen p (l.take k) + lenAt p ((n / 2 : Nat) : Int) by rw [wlen_succ p l hlt, hx]; congr 2)
      have hb1 := lenAt_bd HV.out ((n / 2 : Nat) : Int)
      obtain ⟨y, hy⟩ : ∃ y, lenAt p ((n / 2 : Nat) : Int) = y := ⟨_, rfl⟩
      rw [hy] at z hb1
      obtain ⟨s, hs⟩ : ∃ s, wlen p (l.take k) = s := ⟨_, rfl⟩
      have hb2 := wlen_bd HV.out (l.take k)
      rw [hs] at hb2
      have hlk : (l.take k).length ≤ k := List.length_take_le _ _
      have hs2 : s ≤ 110729625600000 := by omega
      rw [hs]
      have HX2 := Lib.hid (show wlen p (l.take (k + 1)) = s + y by rw [HX.out, hs, hy])
      obtain ⟨hy0, hy1⟩ := hb1
      obtain ⟨hs0, _⟩ := hb2
      subst e1
      clear hx hy hs HX hlk
      go_wp2
      go_round
      case rel => exact ⟨k + 1, by omega, by go_num, by rw [HX2.out]⟩
      case measure => simp [intOf]; omega
    · obtain rfl : k = l.length := by omega
      have HQ := Lib.hid (show wlen p (l.take l.length) = wlen p l by rw [List.take_length])
      go_wp2
      go_ret
      exact ⟨by rw [← HQ.out]; rfl, rfl⟩

def E1' (l : List E) (k : Nat) : E := (l[k]?).getD E0
/-- the first k moves are a way, as far as they go -/
def wayTo (p : Pl) (l : List E) (k : Nat) : Prop := ∀ j, j < k → railIn p (E1' l j).rail = true ∧ (0 < j → folB p (keyE (E1' l (j - 1))) (endNo (E1' l j)) = true)
def wayOk (p : Pl) (l : List E) : Prop := 1 ≤ l.length ∧ l.length ≤ 2000 ∧ wayTo p l l.length
theorem E1_eq {l : List E} {k : Nat} (h : k < l.length) : E1' l k = l[k] := by simp [E1', h]
theorem wayTo.step {p : Pl} {l : List E} {k : Nat} (h : wayTo p l k) (h1 : railIn p (E1' l k).rail = true) (h2 : 0 < k → folB p (keyE (E1' l (k - 1))) (endNo (E1' l k)) = true) : wayTo p l (k + 1) := fun j hj => by
  by_cases e : j = k
  · subst e; exact ⟨h1, h2⟩
  · exact h j (by omega)
theorem map_take_succ {α β : Type} {l : List α} {f : α → β} {k : Nat} (h : k < l.length) : (l.take (k + 1)).map f = (l.take k).map f ++ [f l[k]] := by
  rw [List.take_succ_eq_append_getElem h, List.map_append]; rfl
def WayPost (p : Pl) (l : List E) (w : World) (e : Ending) (w' : World) : Prop :=
  ((wayOk p l ∧ ∃ v, e = .returned (.tuple #[v, .bool true]) ∧ Own w' w.heap.size 3 1 fI v (l.map endNo)) ∨ (¬ wayOk p l ∧ e = .returned (.tuple #[.slice none 0 0, .bool false]))) ∧ Below w.heap.size w w'

set_option maxRecDepth 100000 in
set_option maxHeartbeats 4000000 in
theorem way_any (B g : Nat) (p : Pl) (A : Option Addr) (l : List E) (c : Nat) (w : World) (h : Nw w B g p) (hB : B ≤ w.heap.size) (hA : Sl w w.heap.size 2 CE A l) (hl : l.length ≤ 140737488351232) :
    Calls Tryz.prog 101 #[.pointer (some ⟨g, 0, none⟩), .slice A l.length c] w (WayPost p l w) := by
  have hsz := h.sizes
  have HN := Lib.hid h
  clear h
  by_cases l1 : l.length < 1
  · have d1 : decide ((l.length : Int) < 1) = true := by simp; omega
    have d2 : decide (l.length < 1) = true := by rw [decide_eq_true_iff]; exact l1
    have HW := Lib.hid (show ¬ wayOk p l from fun h => by have := h.1; omega)
    clear l1
    go_enter Tryz.func101, Tryz.ntmps101
    go_wp2
    go_ret2
    exact ⟨.inr ⟨HW.out, rfl⟩, Below.refl _ _⟩
  have d1 : decide ((l.length : Int) < 1) = false := by simp; omega
  by_cases l2 : 2000 < l.length
  · have d2 : decide (2000 < (l.length : Int)) = true := by simp; omega
    have HW := Lib.hid (show ¬ wayOk p l from fun h => by have := h.2.1; omega)
    go_enter Tryz.func101, Tryz.ntmps101
    go_wp2
    go_ret2
    exact ⟨.inr ⟨HW.out, rfl⟩, Below.refl _ _⟩
  have d2 : decide (2000 < (l.length : Int)) = false := by simp; omega
  obtain ⟨i0, hi, hz0, hz1, hz2⟩ := info_parts info3
  have hmk := fun W : World => run_mk (P := Tryz.prog) 115 3 i0 _ 1 Tryz.underlying115 hi hz0 hz1 0 (l.length : Int) 0 l.length rfl rfl (by omega) (by rw [hz2]; omega) (by omega) W
  have HO := Lib.hid (show Own (w.alloc (.cells (madeCells #[.int .i64 0] (l.length * 1)) 3)) w.heap.size 3 1 fI (.slice (some ⟨w.heap.size, 0, none⟩) 0 l.length) [] from
    Own.made w _ _ (Nat.le_refl _) (by simp [maxLen]; omega) (by simp [madeCells]))
  go_enter Tryz.func101, Tryz.ntmps101
  go_wp2
  clear hmk
  go_loopw [6, 22] (fun v i wr => ∃ k : Nat, k ≤ l.length ∧ i = .int .i64 k ∧ wayTo p l k ∧ Own wr w.heap.size 3 1 fI v ((l.take k).map endNo) ∧ Below w.heap.size w wr) (fun _ i _ => l.length - (intOf i).toNat)
  case atStart => exact ⟨0, Nat.zero_le _, rfl, fun j hj => absurd hj (by omega), by simpa using HO.out, (Below.refl _ _).alloc (Nat.le_refl _) _⟩
  case round =>
    obtain ⟨k, hk, rfl, hw, ho, hb⟩ := hrel
    clear HO
    have HW := Lib.hid hw
    clear hw
    by_cases hlt : k < l.length
    · obtain ⟨b1, o1, e1, g1, q0, q1⟩ := end_at (hA.below hb) hlt
      obtain ⟨⟨mr, ml⟩, hx⟩ : ∃ x, l[k] = x := ⟨_, rfl⟩
      have HX := Lib.hid (show E1' l k = ⟨mr, ml⟩ by rw [E1_eq hlt]; exact hx)
      rw [hx] at q0 q1
      have HT := Lib.hid (show (l.take (k + 1)).map endNo = (l.take k).map endNo ++ [endNo ⟨mr, ml⟩] by rw [map_take_succ hlt, hx])
      subst e1
      have hzw := hb.size
      have HB := Lib.hid hb; have HO := Lib.hid ho
      have HNr := Lib.hid (show Nw wr B g p from HN.out.below (hb.mono hB))
      clear hx hb ho
      go_wp2_with fail
      refine (hasRail_any B g p mr _ (HNr.out.below ((Below.refl B wr).alloc (Nat.le_trans hB hzw) _))).mono ?_
      rintro e w2 ⟨rfl, rfl⟩
      cases hr : railIn p mr
      · have HR := Lib.hid (show ¬ wayOk p l from fun h => by have := (h.2.2 k hlt).1; rw [HX.out] at this; rw [hr] at this; cases this)
        go_wp2
        go_ret2
        exact ⟨.inr ⟨HR.out, rfl⟩, HB.out.alloc (by omega) _⟩
      have HR := Lib.hid hr
      have hr2 := of_decide_eq_true hr
      have hr0 := hr2.1
      have hr1 : mr ≤ 1000000 := by omega
      have hlen : ((l.take k).map endNo).length ≤ k := by simp; omega
      clear hr hr2
      have y0 := cell_new1 wr #[.int .i64 mr, .bool ml] 190 0
      have y1 := cell_new1 wr #[.int .i64 mr, .bool ml] 190 1
      simp only [List.getElem?_toArray, List.getElem?_cons_zero, List.getElem?_cons_succ] at y0 y1
      rcases k with _ | j
      · have HW2 := Lib.hid (HW.out.step (by rw [HX.out]; exact HR.out) (fun h => absurd h (by omega)))
        have d3 : decide ((0 : Int) < ((0 : Nat) : Int)) = false := by simp
        go_wp2
        go_quiet (fail)
        go_wp2_with fail
        refine (number_gen mr ml _ hr0 hr1).mono ?_
        rintro e w3 ⟨rfl, hb3⟩
        have HBX := Lib.hid (((Below.refl wr.heap.size wr).alloc (Nat.le_refl _) (.cells #[.int .i64 mr, .bool ml] 190)).trans ((bDrewN (Below.refl _ _) nq).trans hb3 |>.mono (by simp)))
        have hz3 : wr.heap.size ≤ w3.heap.size := HBX.out.size
        have HO1 := Lib.hid (HO.out.below HBX.out (Nat.le_refl _))
        clear hb3
        go_wp2_with (at_builtin; go_must (refine wpList_app _ rfl (.tmp 46) (.tmp 49) _ rfl w.heap.size 3 i0 _ 1 8 Tryz.underlying115 hi hz0 hz1 hz2 rfl (by omega) fI_len fI_one u6 _ rfl (HO1.out.alloc _) _ _ [endNo ⟨mr, ml⟩] 1 rfl (Sl.new _ _ (endNo ⟨mr, ml⟩) _ rfl) (by unfold maxLen; simp only [List.length_cons, List.length_nil]; omega) (by simp only [List.length_cons, List.length_nil]; omega) (by simp; omega) (fun _ => .inr ⟨_, rfl⟩) ?_); intro v2 w4 o2 gr2 at2 ne2)
        go_roundw
        case rel => exact ⟨0 + 1, by omega, by go_num, HW2.out, by rw [HT.out]; exact o2, (((HB.out.trans (HBX.out.mono hzw)).alloc (by omega) _).grown gr2 (by simp; omega) (fun k hk => (HO1.out.lt k hk).1))⟩
        case measure => simp [intOf]; omega
      · have HKK := Lib.hid (show E1' l j = l[j]'(by omega) from E1_eq (by omega))
        have hjl : j < ((l.take (j + 1)).map endNo).length := by simp; omega
        obtain ⟨Au, cu, rfl, hu1, hu2, hu3⟩ := HO.out.form
        obtain ⟨b3, o3, e3, g3, q3⟩ := int_at (fI_CI (HO.out.sl fI_len rfl)) hjl
        have hq3 : ((l.take (j + 1)).map endNo)[j] = endNo (E1' l j) := by rw [HKK.out]; simp
        rw [hq3] at q3
        obtain ⟨kk, kl⟩ := key_lt (HW.out j (by omega)).1
        rw [← kk] at q3
        obtain ⟨P, hP⟩ : ∃ P, keyE (E1' l j) = P := ⟨_, rfl⟩
        rw [hP] at q3 kl
        have HPP := Lib.hid hP
        subst e3
        clear kk hP hq3 hu3
        have d3 : decide ((0 : Int) < ((j + 1 : Nat) : Int)) = true := by first | (simp; done) | (simp; omega)
        have d4 : decide ((0 : Int) < (j : Int) + 1) = true := by rw [decide_eq_true_iff]; omega
        have hj0 : (0 : Int) ≤ (j : Int) := by omega
        have hj1 : (j : Int) < (((l.take (j + 1)).map endNo).length : Int) := by omega
        have q4 := (cell_alloc_lt wr (.cells #[.int .i64 mr, .bool ml] 190) g3).trans q3
        have hbw : Below (wr.alloc (.cells #[.int .i64 mr, .bool ml] 190)).heap.size (wr.alloc (.cells #[.int .i64 mr, .bool ml] 190)) (wr.alloc (.cells #[.int .i64 mr, .bool ml] 190)).drew := (Below.refl _ _).drew
        have hwr1 : IntKind.i64.wrap ((j : Int) + 1 - 1) = (j : Int) := by rw [IntKind.wrap_i64]; omega
        have hwr2 : IntKind.i64.wrap (j : Int) = (j : Int) := by rw [IntKind.wrap_i64]; omega
        have hjs : (j : Int) < (j : Int) + 1 := by omega
        go_wp2
        go_region_held3 (fun w' => w'.cell? ⟨wr.heap.size, 0, none⟩ = some (.int .i64 mr) ∧ w'.cell? ⟨wr.heap.size, 1, none⟩ = some (.bool ml) ∧ w'.cell? ⟨b3, o3 + j, none⟩ = some (.int .i64 (P : Int)))
          (exact ⟨(hbw.cell (p := ⟨wr.heap.size, 0, none⟩) (by simp)).trans y0, (hbw.cell (p := ⟨wr.heap.size, 1, none⟩) (by simp)).trans y1, (hbw.cell (p := ⟨b3, o3 + j, none⟩) (by simp; omega)).trans q4⟩)
          ((first
            | (go_at_call 128; refine (number_gen _ _ _ hr0 hr1).mono ?_; rintro e w2 ⟨rfl, hb2⟩; replace hbw := hbw.trans (hb2.mono hbw.size))
            | (go_at_call 127; refine (follows_any B g p P _ _ ((HNr.out.below ((Below.refl B wr).alloc (Nat.le_trans hB hzw) _)).below (hbw.mono (by simp; omega))) (by have := hbw.size; simp at this; omega) kl).mono ?_; rintro e w3 ⟨rfl, rfl⟩)))
        have hlj : ((l.take (j + 1)).map endNo).length = j + 1 := by simp; omega
        have HOv := Lib.hid (show Own wr w.heap.size 3 1 fI (.slice (some ⟨b3, o3, none⟩) (j + 1) cu) ((l.take (j + 1)).map endNo) by have := HO.out; rw [hlj] at this; exact this)
        have HBX := Lib.hid ((((Below.refl wr.heap.size wr).alloc (Nat.le_refl _) (.cells #[.int .i64 mr, .bool ml] 190))).trans (hbw.mono (by simp)))
        have z0 := (hbw.cell (p := ⟨wr.heap.size, 0, none⟩) (by simp)).trans y0
        have z1 := (hbw.cell (p := ⟨wr.heap.size, 1, none⟩) (by simp)).trans y1
        clear hwr1 hwr2 hbw y0 y1 q3 q4 hlj
        cases hf : folB p P (endNo ⟨mr, ml⟩)
        · have HR := Lib.hid (show ¬ wayOk p l from fun h => by have := (h.2.2 (j + 1) hlt).2 (by omega); rw [HX.out, show j + 1 - 1 = j by omega, HPP.out] at this; rw [hf] at this; cases this)
          go_wp2
          go_ret2
          exact ⟨.inr ⟨HR.out, rfl⟩, HB.out.trans (HBX.out.mono hzw)⟩
        · have HW2 := Lib.hid (HW.out.step (by rw [HX.out]; exact HR.out) (fun _ => by rw [HX.out, show j + 1 - 1 = j by omega, HPP.out]; exact hf))
          have hzq : wr.heap.size ≤ w2.heap.size := HBX.out.size
          go_wp2_with fail
          refine (number_gen mr ml _ hr0 hr1).mono ?_
          rintro e w3 ⟨rfl, hb3⟩
          have HBY := Lib.hid (HBX.out.trans (hb3.mono hzq))
          have hz3 : w2.heap.size ≤ w3.heap.size := hb3.size
          have HO1 := Lib.hid (HOv.out.below HBY.out (Nat.le_refl _))
          clear hb3 hf
          go_wp2_with (at_builtin; go_must (refine wpList_app _ rfl (.tmp 46) (.tmp 49) _ rfl w.heap.size 3 i0 _ 1 8 Tryz.underlying115 hi hz0 hz1 hz2 rfl (by omega) fI_len fI_one (.slice (some ⟨b3, o3, none⟩) (j + 1) cu) _ rfl (HO1.out.alloc _) _ _ [endNo ⟨mr, ml⟩] 1 rfl (Sl.new _ _ (endNo ⟨mr, ml⟩) _ rfl) (by unfold maxLen; simp only [List.length_cons, List.length_nil]; omega) (by simp only [List.length_cons, List.length_nil]; omega) (by simp; omega) (fun _ => .inr ⟨_, rfl⟩) ?_); intro v2 w4 o2 gr2 at2 ne2)
          go_roundw
          case rel => exact ⟨j + 1 + 1, by omega, by go_num, HW2.out, by rw [HT.out]; exact o2, (((HB.out.trans (HBY.out.mono hzw)).alloc (by omega) _).grown gr2 (by simp; omega) (fun k hk => (HO1.out.lt k hk).1))⟩
          case measure => simp [intOf]; omega
    · obtain rfl : k = l.length := by omega
      have HQ := Lib.hid (show Own wr w.heap.size 3 1 fI u6 (l.map endNo) by rwa [List.take_length] at ho)
      have HY := Lib.hid (show wayOk p l from ⟨by omega, by omega, HW.out⟩)
      clear ho
      go_wp2
      go_ret2
      exact ⟨.inl ⟨HY.out, _, rfl, HQ.out⟩, hb⟩
end Go.Proofs.YtekambdnmaompaaGreat

namespace Go.Proofs.YtekambdnmaompaaGreat
set_option linter.unusedVariables false
set_option linter.unusedSimpArgs false
open Go.RowKit

def SWPost (p : Pl) (l : List E) (w : World) (e : Ending) (w' : World) : Prop :=
  ((Vld p ∧ wayOk p l ∧ ∃ g v, e = .returned (.tuple #[.pointer (some ⟨g, 0, none⟩), v, .bool true]) ∧ Nw w' w'.heap.size g p ∧ Own w' w.heap.size 3 1 fI v (l.map endNo)) ∨
   (¬ (Vld p ∧ wayOk p l) ∧ ∃ x, e = .returned (.tuple #[.pointer x, .slice none 0 0, .bool false]))) ∧ Below w.heap.size w w'
set_option maxRecDepth 100000 in
set_option maxHeartbeats 1000000 in
theorem surveyWay_any (A0 A20 A : Option Addr) (c0 c20 c : Nat) (p : Pl) (l : List E) (w : World) (hP : PlAt w w.heap.size A0 c0 A20 c20 p) (hA : Sl w w.heap.size 2 CE A l) (hl : l.length ≤ 140737488351232) :
    Calls Tryz.prog 77 #[.agg #[.slice A0 p.nodes.length c0, .slice A20 p.rails.length c20], .slice A l.length c] w (SWPost p l w) := by
  have HP := Lib.hid (hP.box (.cells #[.slice A0 p.nodes.length c0, .slice A20 p.rails.length c20] 25))
  have HB0 := Lib.hid ((Below.refl w.heap.size w).alloc (Nat.le_refl _) (.cells #[.slice A0 p.nodes.length c0, .slice A20 p.rails.length c20] 25))
  have HA := Lib.hid hA
  clear hP hA
  go_enter Tryz.func77, Tryz.ntmps77
  go_wp2_with fail
  refine (survey_any A0 A20 c0 c20 p _ HP.out).mono ?_
  rintro e w1 ⟨hb, ⟨hv, rfl⟩ | ⟨hv, g, rfl, hg, hN⟩⟩
  · have HV := Lib.hid hv; have HB := Lib.hid (HB0.out.trans (hb.mono (by simp))); clear hv hb
    go_wp2
    go_ret3
    exact ⟨.inr ⟨fun h => HV.out h.1, _, rfl⟩, HB.out⟩
  · have HV := Lib.hid hv; have HB := Lib.hid (HB0.out.trans (hb.mono (by simp))); have HN := Lib.hid hN
    have hz : w.heap.size ≤ w1.heap.size := HB.out.size
    clear hv hb hN
    go_wp2_with fail
    refine (way_any _ g p A l c _ HN.out (Nat.le_refl _) ((HA.out.below HB.out).more (fun _ _ h => h) hz) hl).mono ?_
    rintro e w2 ⟨⟨hw, v, rfl, ho⟩ | ⟨hw, rfl⟩, hb2⟩
    · have HW := Lib.hid hw; have HO := Lib.hid ho
      have hz2 : w1.heap.size ≤ w2.heap.size := hb2.size
      have HN2 := Lib.hid ((HN.out.below hb2).more hz2)
      have HB2 := Lib.hid (HB.out.trans (hb2.mono hz))
      clear hw ho hb2
      go_wp2
      go_ret3
      exact ⟨.inl ⟨HV.out, HW.out, g, v, rfl, HN2.out, HO.out.lower hz⟩, HB2.out⟩
    · have HW := Lib.hid hw
      have HB2 := Lib.hid (HB.out.trans (hb2.mono hz))
      clear hw hb2
      go_wp2
      go_ret3
      exact ⟨.inr ⟨fun h => HW.out h.2, _, rfl⟩, HB2.out⟩

/-- what a car covers of one rail of a way -/
def covOne (p : Pl) (m begin frm to : Int) : List C3 :=
  if max (frm - begin) 0 ≥ min (to - begin) (lenAt p (m / 2)) then []
  else if m % 2 = 1 then [⟨m / 2, lenAt p (m / 2) - min (to - begin) (lenAt p (m / 2)), lenAt p (m / 2) - max (frm - begin) 0⟩]
  else [⟨m / 2, max (frm - begin) 0, min (to - begin) (lenAt p (m / 2))⟩]
def covTo (p : Pl) (l : List Int) (frm to : Int) (k : Nat) : List C3 := (List.range k).flatMap fun j => covOne p ((l[j]?).getD 0) (wlen p (l.take j)) frm to
def covL (p : Pl) (l : List Int) (frm to : Int) : List C3 := covTo p l frm to l.length
theorem covOne_le (p : Pl) (m b f t : Int) : (covOne p m b f t).length ≤ 1 := by unfold covOne; split; · simp
                                                                                 · split <;> simp
theorem covTo_succ (p : Pl) (l : List Int) (frm to : Int) {k : Nat} (h : k < l.length) : covTo p l frm to (k + 1) = covTo p l frm to k ++ covOne p l[k] (wlen p (l.take k)) frm to := by
  unfold covTo; rw [List.range_succ, List.flatMap_append]; simp [h]
theorem covTo_len (p : Pl) (l : List Int) (frm to : Int) : ∀ k, (covTo p l frm to k).length ≤ k := fun k => by
  induction k with
  | zero => simp [covTo]
  | succ k ih =>
    have : covTo p l frm to (k + 1) = covTo p l frm to k ++ covOne p ((l[k]?).getD 0) (wlen p (l.take k)) frm to := by
      unfold covTo; rw [List.range_succ, List.flatMap_append]; simp
    rw [this, List.length_append]
    have := covOne_le p ((l[k]?).getD 0) (wlen p (l.take k)) frm to
    omega
def fC (s : C3) : List Value := [.int .i64 s.rail, .int .i64 s.frm, .int .i64 s.to]
theorem fC_len (s : C3) : (fC s).length = 3 := rfl
theorem fC_one (s : C3) : ∀ u ∈ fC s, u.oneCell' = true := by simp [fC, Value.oneCell']
theorem info79 : (Tryz.prog.info? 79).map (fun i => (i.zero, i.size, i.bytes)) = some (some (.agg #[.int .i64 0, .int .i64 0, .int .i64 0]), 3, 24) := by kernel_rfl

def CovPost (p : Pl) (l : List Int) (frm to : Int) (w : World) (e : Ending) (w' : World) : Prop := (∃ v, e = .returned v ∧ Own w' w.heap.size 79 3 fC v (covL p l frm to)) ∧ Below w.heap.size w w'
set_option maxRecDepth 100000 in
set_option maxHeartbeats 8000000 in
theorem covers_any (B g : Nat) (p : Pl) (A : Option Addr) (l : List Int) (c : Nat) (frm to : Int) (w : World) (h : Nw w B g p) (hB : B ≤ w.heap.size) (hA : Sl w w.heap.size 1 CI A l) (hl : l.length ≤ 2000) (hr : ∀ x ∈ l, 0 ≤ x ∧ x < 2 * (p.rails.length : Int))
    (hf0 : 0 ≤ frm) (hf1 : frm ≤ 10000000000000) (ht0 : 0 ≤ to) (ht1 : to ≤ 10000000000000) :
    Calls Tryz.prog 79 #[.pointer (some ⟨g, 0, none⟩), .slice A l.length c, .int .i64 frm, .int .i64 to] w (CovPost p l frm to w) := by
  have hsz := h.sizes
  have HNN := Lib.hid h
  have HV := Lib.hid h.v
  have HR := Lib.hid hr
  clear h hr
  obtain ⟨i0, hi, hz0, hz1, hz2⟩ := info_parts info79
  go_enter Tryz.func79, Tryz.ntmps79
  go_wp2
  go_loopw [9, 10, 18] (fun v s i wr => ∃ k : Nat, k ≤ l.length ∧ i = .int .i64 k ∧ s = .int .i64 (wlen p (l.take k)) ∧ Own wr w.heap.size 79 3 fC v (covTo p l frm to k) ∧ Below w.heap.size w wr) (fun _ _ i _ => l.length - (intOf i).toNat)
  case atStart => exact ⟨0, Nat.zero_le _, rfl, by simp [wlen], by simp only [covTo, List.range_zero, List.flatMap_nil]; exact Own.nil _ _ _ _ _, Below.refl _ _⟩
  case round =>
    obtain ⟨k, hk, rfl, rfl, ho, hb⟩ := hrel
    by_cases hlt : k < l.length
    · obtain ⟨b1, o1, e1, g1, q1⟩ := int_at (hA.below hb) hlt
      obtain ⟨A1, c1, A2, c2, lb, sb, nb, bb, hN, x1, x2, x3, x4, x5, x6⟩ := (HNN.out.below (hb.mono hB)).net
      obtain ⟨_, _, q2, _, _, _⟩ := hN.cell
      obtain ⟨x, hx⟩ : ∃ x, l[k] = x := ⟨_, rfl⟩
      have hx01 := HR.out x (by rw [← hx]; exact List.getElem_mem hlt)
      obtain ⟨hx0, hx1⟩ := hx01
      obtain ⟨n, rfl⟩ := Int.eq_ofNat_of_zero_le hx0
      rw [hx] at q1
      have hn : n / 2 < p.rails.length := by omega
      have z := x3.cell (i := n / 2) (by rw [lens_len]; exact hn)
      rw [lens_get hn] at z
      have hb1 := lenAt_bd HV.out ((n / 2 : Nat) : Int)
      obtain ⟨y, hy⟩ : ∃ y, lenAt p ((n / 2 : Nat) : Int) = y := ⟨_, rfl⟩
      obtain ⟨s, hs⟩ : ∃ s, wlen p (l.take k) = s := ⟨_, rfl⟩
      have HX := Lib.hid (show wlen p (l.take (k + 1)) = s + y by rw [wlen_succ p l hlt, hx, hs, ← hy]; congr 2)
      have HCS := Lib.hid (show covTo p l frm to (k + 1) = covTo p l frm to k ++ covOne p (n : Int) s frm to by rw [covTo_succ p l frm to hlt, hx, hs])
      have HLY := Lib.hid (show lenAt p ((n : Int) / 2) = y by rw [← hy]; congr 1)
      rw [hy] at z hb1
      have hb2 := wlen_bd HV.out (l.take k)
      rw [hs] at hb2
      have hlk : (l.take k).length ≤ k := List.length_take_le _ _
      have hs2 : s ≤ 2214592512000 := by omega
      rw [hs]
      obtain ⟨hy0, hy1⟩ := hb1
      obtain ⟨hs0, _⟩ := hb2
      have HX2 := HX
      have hcl := covTo_len p l frm to k
      have hzw := hb.size
      have HO := Lib.hid ho; have HB := Lib.hid hb
      subst e1
      clear hx hy hs HX hlk hN x3 x4 x5 x6 ho hb
      by_cases c3 : max (frm - s) 0 ≥ min (to - s) y
      · have d3 : decide (min (to - s) y ≤ max (frm - s) 0) = true := by rw [decide_eq_true_iff]; exact c3
        have HC := Lib.hid (show covTo p l frm to (k + 1) = covTo p l frm to k by rw [HCS.out]; unfold covOne; rw [HLY.out, if_pos c3]; simp)
        go_wp2
        go_roundw
        case rel => exact ⟨k + 1, by omega, by go_num, by rw [HX2.out], by rw [HC.out]; exact HO.out, HB.out⟩
        case measure => simp [intOf]; omega
      have d3 : decide (min (to - s) y ≤ max (frm - s) 0) = false := by rw [decide_eq_false_iff_not]; exact c3
      by_cases c4 : n % 2 = 1
      · have d4 : ((n : Int) % 2 == 1) = true := by simp; omega
        have HC := Lib.hid (show covTo p l frm to (k + 1) = covTo p l frm to k ++ [⟨(n : Int) / 2, y - min (to - s) y, y - max (frm - s) 0⟩] by rw [HCS.out]; unfold covOne; rw [HLY.out, if_neg c3, if_pos (by omega)])
        clear c4 c3
        go_wp2_with (at_builtin; go_must (refine wpList_app _ rfl (.tmp 54) (.tmp 60) _ rfl w.heap.size 79 i0 _ 3 24 Tryz.underlying69 hi hz0 hz1 hz2 rfl (by omega) fC_len fC_one u9 _ rfl (HO.out.alloc _) _ _ [(⟨(n : Int) / 2, y - min (to - s) y, y - max (frm - s) 0⟩ : C3)] 1 rfl (Sl.new _ _ (⟨(n : Int) / 2, y - min (to - s) y, y - max (frm - s) 0⟩ : C3) _ rfl) (by unfold maxLen; simp only [List.length_cons, List.length_nil]; omega) (by simp only [List.length_cons, List.length_nil]; omega) (by simp; omega) (fun _ => .inr ⟨_, rfl⟩) ?_); intro v2 w4 o2 gr2 at2 ne2)
        go_roundw
        case rel => exact ⟨k + 1, by omega, by go_num, by rw [HX2.out], by rw [HC.out]; exact o2, ((HB.out.alloc (by omega) _).grown gr2 (by simp; omega) (fun k hk => (HO.out.lt k hk).1))⟩
        case measure => simp [intOf]; omega
      · have d4 : ((n : Int) % 2 == 1) = false := by simp; omega
        have HC := Lib.hid (show covTo p l frm to (k + 1) = covTo p l frm to k ++ [⟨(n : Int) / 2, max (frm - s) 0, min (to - s) y⟩] by rw [HCS.out]; unfold covOne; rw [HLY.out, if_neg c3, if_neg (by omega)])
        clear c4 c3
        go_wp2_with (at_builtin; go_must (refine wpList_app _ rfl (.tmp 54) (.tmp 60) _ rfl w.heap.size 79 i0 _ 3 24 Tryz.underlying69 hi hz0 hz1 hz2 rfl (by omega) fC_len fC_one u9 _ rfl (HO.out.alloc _) _ _ [(⟨(n : Int) / 2, max (frm - s) 0, min (to - s) y⟩ : C3)] 1 rfl (Sl.new _ _ (⟨(n : Int) / 2, max (frm - s) 0, min (to - s) y⟩ : C3) _ rfl) (by unfold maxLen; simp only [List.length_cons, List.length_nil]; omega) (by simp only [List.length_cons, List.length_nil]; omega) (by simp; omega) (fun _ => .inr ⟨_, rfl⟩) ?_); intro v2 w4 o2 gr2 at2 ne2)
        go_roundw
        case rel => exact ⟨k + 1, by omega, by go_num, by rw [HX2.out], by rw [HC.out]; exact o2, ((HB.out.alloc (by omega) _).grown gr2 (by simp; omega) (fun k hk => (HO.out.lt k hk).1))⟩
        case measure => simp [intOf]; omega
    · obtain rfl : k = l.length := by omega
      have HQ := Lib.hid (show Own wr w.heap.size 79 3 fC u9 (covL p l frm to) from ho)
      clear ho
      go_wp2
      go_ret
      exact ⟨⟨_, rfl, HQ.out⟩, hb⟩

def covIf (p : Pl) (l : List E) (front len : Int) : Prop := Vld p ∧ wayOk p l ∧ 1 ≤ len ∧ len ≤ front ∧ front ≤ wlen p (l.map endNo)
def CoversPost (p : Pl) (l : List E) (front len : Int) (w : World) (e : Ending) (w' : World) : Prop :=
  ((covIf p l front len ∧ ∃ v, e = .returned (.tuple #[v, .int .i64 0]) ∧ Own w' w.heap.size 79 3 fC v (covL p (l.map endNo) (front - len) front)) ∨
   (¬ covIf p l front len ∧ e = .returned (.tuple #[.slice none 0 0, .int .i64 2]))) ∧ Below w.heap.size w w'
theorem way_nums {p : Pl} {l : List E} (h : wayOk p l) : ∀ x ∈ l.map endNo, 0 ≤ x ∧ x < 2 * (p.rails.length : Int) := fun x hx => by
  obtain ⟨m, hm, rfl⟩ := List.mem_map.1 hx
  obtain ⟨k, hk, rfl⟩ := List.getElem_of_mem hm
  have h1 := (h.2.2 k hk).1
  rw [E1_eq hk] at h1
  have h2 := of_decide_eq_true h1
  unfold endNo
  split <;> omega
set_option maxRecDepth 100000 in
set_option maxHeartbeats 1000000 in
theorem Covers_any (A0 A20 A : Option Addr) (c0 c20 c : Nat) (p : Pl) (l : List E) (front len : Int) (w : World) (hP : PlAt w w.heap.size A0 c0 A20 c20 p) (hA : Sl w w.heap.size 2 CE A l) (hl : l.length ≤ 140737488351232) :
    Calls Tryz.prog 46 #[.agg #[.slice A0 p.nodes.length c0, .slice A20 p.rails.length c20], .slice A l.length c, .int .i64 front, .int .i64 len] w (CoversPost p l front len w) := by
  have HP := Lib.hid (hP.box (.cells #[.slice A0 p.nodes.length c0, .slice A20 p.rails.length c20] 25))
  have HB0 := Lib.hid ((Below.refl w.heap.size w).alloc (Nat.le_refl _) (.cells #[.slice A0 p.nodes.length c0, .slice A20 p.rails.length c20] 25))
  have HA := Lib.hid hA
  clear hP hA
  go_enter Tryz.func46, Tryz.ntmps46
  go_wp2_with fail
  refine (surveyWay_any A0 A20 A c0 c20 c p l _ HP.out ((HA.out.below HB0.out).more (fun _ _ h => h) HB0.out.size) hl).mono ?_
  rintro e w1 ⟨⟨hv, hw, g, v, rfl, hN, ho⟩ | ⟨hn, x, rfl⟩, hb⟩
  · have HV := Lib.hid hv; have HB := Lib.hid (HB0.out.trans (hb.mono (by simp))); have HN := Lib.hid hN; have HW := Lib.hid hw
    have hz : w.heap.size ≤ w1.heap.size := HB.out.size
    obtain ⟨L, hL⟩ : ∃ L : List Int, l.map endNo = L := ⟨_, rfl⟩
    have HL := Lib.hid hL
    have hwn := way_nums hw
    rw [hL] at ho hwn
    obtain ⟨Av, cv, rfl, hv1, hv2, _⟩ := ho.form
    have HS := Lib.hid (fI_CI (ho.sl fI_len rfl))
    have hll : L.length ≤ 2000 := by have := hw.2.1; rw [← hL]; simpa using this
    have HWN := Lib.hid hwn
    clear hv hb hN hw ho hL hwn
    by_cases g1 : len < 1
    · have HQ := Lib.hid (show ¬ covIf p l front len from fun h => by have := h.2.2.1; omega)
      have d1 : decide (len < 1) = true := by rw [decide_eq_true_iff]; exact g1
      go_wp2
      go_ret2
      exact ⟨.inr ⟨HQ.out, rfl⟩, HB.out⟩
    have d1 : decide (len < 1) = false := by rw [decide_eq_false_iff_not]; exact g1
    by_cases g2 : front < len
    · have HQ := Lib.hid (show ¬ covIf p l front len from fun h => by have := h.2.2.2.1; omega)
      have d2 : decide (front < len) = true := by rw [decide_eq_true_iff]; exact g2
      go_wp2
      go_ret2
      exact ⟨.inr ⟨HQ.out, rfl⟩, HB.out⟩
    have d2 : decide (front < len) = false := by rw [decide_eq_false_iff_not]; exact g2
    go_wp2_with fail
    refine (wayLength_any _ g p Av L cv _ HN.out HS.out (by omega) HWN.out).mono ?_
    rintro e w2 ⟨rfl, rfl⟩
    have hwl := wlen_bd HV.out L
    obtain ⟨W, hWe⟩ : ∃ W, wlen p L = W := ⟨_, rfl⟩
    rw [hWe] at hwl
    rw [hWe]
    have HWe := Lib.hid hWe
    clear hWe
    by_cases g3 : W < front
    · have HQ := Lib.hid (show ¬ covIf p l front len from fun h => by have := h.2.2.2.2; rw [HL.out, HWe.out] at this; omega)
      have d3 : decide (W < front) = true := by rw [decide_eq_true_iff]; exact g3
      go_wp2
      go_ret2
      exact ⟨.inr ⟨HQ.out, rfl⟩, HB.out⟩
    have d3 : decide (W < front) = false := by rw [decide_eq_false_iff_not]; exact g3
    have HQ := Lib.hid (show covIf p l front len from ⟨HV.out, HW.out, by omega, by omega, by rw [HL.out, HWe.out]; omega⟩)
    have hW2 : W ≤ 2214592512000 := by omega
    go_wp2_with fail
    refine (covers_any _ g p Av L cv (front - len) front _ HN.out (Nat.le_refl _) HS.out hll HWN.out (by omega) (by omega) (by omega) (by omega)).mono ?_
    rintro e w2 ⟨⟨v, rfl, ho⟩, hb2⟩
    have HO := Lib.hid (ho.lower hz)
    have HB2 := Lib.hid (HB.out.trans (hb2.mono hz))
    clear ho hb2
    go_wp2
    go_ret2
    exact ⟨.inl ⟨HQ.out, v, rfl, by rw [HL.out]; exact HO.out⟩, HB2.out⟩
  · have HB := Lib.hid (HB0.out.trans (hb.mono (by simp)))
    have HQ := Lib.hid (show ¬ covIf p l front len from fun h => hn ⟨h.1, h.2.1⟩)
    clear hn hb
    go_wp2
    go_ret2
    exact ⟨.inr ⟨HQ.out, rfl⟩, HB.out⟩
end Go.Proofs.YtekambdnmaompaaGreat
