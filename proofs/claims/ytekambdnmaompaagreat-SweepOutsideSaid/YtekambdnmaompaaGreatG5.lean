/- Contracts: surveyWay, covers, Covers. -/
import Derived.Test.YtekambdnmaompaaGreatG4
namespace Go.Proofs.YtekambdnmaompaaGreat
set_option linter.unusedVariables false
set_option linter.unusedSimpArgs false
open Go.RowKit

def SWPost (p : Pl) (l : List E) (w : World) (e : Ending) (w' : World) : Prop :=
  ((Vld p ∧ wayOk p l ∧ ∃ g v, e = .returned (.tuple #[.pointer (some ⟨g, 0, none⟩), v, .bool true]) ∧ Nw w' w'.heap.size g p ∧ Own w' w.heap.size 3 1 fI v (l.map endNo)) ∨
   (¬ (Vld p ∧ wayOk p l) ∧ ∃ x, e = .returned (.tuple #[.pointer x, .slice none 0 0, .bool false]))) ∧ Below w.heap.size w w'
set_option maxRecDepth 100000 in
set_option maxHeartbeats 1000000 in
theorem surveyWay_any (A0 A20 A : Option Addr) (c0 c20 c : Nat) (p : Pl) (l : List E) (w : World) (hP : PlAt w w.heap.size A0 c0 A20 c20 p) (hA : Sl w w.heap.size 2 CE A l) (hl : l.length ≤ 140737488351232) :
    Calls Tryz.prog 77 #[.agg #[.slice A0 p.nodes.length c0, .slice A20 p.rails.length c20], .slice A l.length c] w (SWPost p l w) := by
  have HP := Lib.hid (hP.box (.cells #[.slice A0 p.nodes.length c0, .slice A20 p.rails.length c20] 25))
  have HB0 := Lib.hid ((Below.refl w.heap.size w).alloc (Nat.le_refl _) (.cells #[.slice A0 p.nodes.length c0, .slice A20 p.rails.length c20] 25))
  have HA := Lib.hid hA
  clear hP hA
  go_enter Tryz.func77, Tryz.ntmps77
  go_wp2_with fail
  refine (survey_any A0 A20 c0 c20 p _ HP.out).mono ?_
  rintro e w1 ⟨hb, ⟨hv, rfl⟩ | ⟨hv, g, rfl, hg, hN⟩⟩
  · have HV := Lib.hid hv; have HB := Lib.hid (HB0.out.trans (hb.mono (by simp))); clear hv hb
    go_wp2
    go_ret3
    exact ⟨.inr ⟨fun h => HV.out h.1, _, rfl⟩, HB.out⟩
  · have HV := Lib.hid hv; have HB := Lib.hid (HB0.out.trans (hb.mono (by simp))); have HN := Lib.hid hN
    have hz : w.heap.size ≤ w1.heap.size := HB.out.size
    clear hv hb hN
    go_wp2_with fail
    refine (way_any _ g p A l c _ HN.out (Nat.le_refl _) ((HA.out.below HB.out).more (fun _ _ h => h) hz) hl).mono ?_
    rintro e w2 ⟨⟨hw, v, rfl, ho⟩ | ⟨hw, rfl⟩, hb2⟩
    · have HW := Lib.hid hw; have HO := Lib.hid ho
      have hz2 : w1.heap.size ≤ w2.heap.size := hb2.size
      have HN2 := Lib.hid ((HN.out.below hb2).more hz2)
      have HB2 := Lib.hid (HB.out.trans (hb2.mono hz))
      clear hw ho hb2
      go_wp2
      go_ret3
      exact ⟨.inl ⟨HV.out, HW.out, g, v, rfl, HN2.out, HO.out.lower hz⟩, HB2.out⟩
    · have HW := Lib.hid hw
      have HB2 := Lib.hid (HB.out.trans (hb2.mono hz))
      clear hw hb2
      go_wp2
      go_ret3
      exact ⟨.inr ⟨fun h => HW.out h.2, _, rfl⟩, HB2.out⟩

/-- what a car covers of one rail of a way -/
def covOne (p : Pl) (m begin frm to : Int) : List C3 :=
  if max (frm - begin) 0 ≥ min (to - begin) (lenAt p (m / 2)) then []
  else if m % 2 = 1 then [⟨m / 2, lenAt p (m / 2) - min (to - begin) (lenAt p (m / 2)), lenAt p (m / 2) - max (frm - begin) 0⟩]
  else [⟨m / 2, max (frm - begin) 0, min (to - begin) (lenAt p (m / 2))⟩]
def covTo (p : Pl) (l : List Int) (frm to : Int) (k : Nat) : List C3 := (List.range k).flatMap fun j => covOne p ((l[j]?).getD 0) (wlen p (l.take j)) frm to
def covL (p : Pl) (l : List Int) (frm to : Int) : List C3 := covTo p l frm to l.length
theorem covOne_le (p : Pl) (m b f t : Int) : (covOne p m b f t).length ≤ 1 := by unfold covOne; split; · simp
                                                                                 · split <;> simp
theorem covTo_succ (p : Pl) (l : List Int) (frm to : Int) {k : Nat} (h : k < l.length) : covTo p l frm to (k + 1) = covTo p l frm to k ++ covOne p l[k] (wlen p (l.take k)) frm to := by
  unfold covTo; rw [List.range_succ, List.flatMap_append]; simp [h]
theorem covTo_len (p : Pl) (l : List Int) (frm to : Int) : ∀ k, (covTo p l frm to k).length ≤ k := fun k => by
  induction k with
  | zero => simp [covTo]
  | succ k ih =>
    have : covTo p l frm to (k + 1) = covTo p l frm to k ++ covOne p ((l[k]?).getD 0) (wlen p (l.take k)) frm to := by
      unfold covTo; rw [List.range_succ, List.flatMap_append]; simp
    rw [this, List.length_append]
    have := covOne_le p ((l[k]?).getD 0) (wlen p (l.take k)) frm to
    omega
def fC (s : C3) : List Value := [.int .i64 s.rail, .int .i64 s.frm, .int .i64 s.to]
theorem fC_len (s : C3) : (fC s).length = 3 := rfl
theorem fC_one (s : C3) : ∀ u ∈ fC s, u.oneCell' = true := by simp [fC, Value.oneCell']
theorem info79 : (Tryz.prog.info? 79).map (fun i => (i.zero, i.size, i.bytes)) = some (some (.agg #[.int .i64 0, .int .i64 0, .int .i64 0]), 3, 24) := by kernel_rfl

def CovPost (p : Pl) (l : List Int) (frm to : Int) (w : World) (e : Ending) (w' : World) : Prop := (∃ v, e = .returned v ∧ Own w' w.heap.size 79 3 fC v (covL p l frm to)) ∧ Below w.heap.size w w'
set_option maxRecDepth 100000 in
set_option maxHeartbeats 8000000 in
theorem covers_any (B g : Nat) (p : Pl) (A : Option Addr) (l : List Int) (c : Nat) (frm to : Int) (w : World) (h : Nw w B g p) (hB : B ≤ w.heap.size) (hA : Sl w w.heap.size 1 CI A l) (hl : l.length ≤ 2000) (hr : ∀ x ∈ l, 0 ≤ x ∧ x < 2 * (p.rails.length : Int))
    (hf0 : 0 ≤ frm) (hf1 : frm ≤ 10000000000000) (ht0 : 0 ≤ to) (ht1 : to ≤ 10000000000000) :
    Calls Tryz.prog 79 #[.pointer (some ⟨g, 0, none⟩), .slice A l.length c, .int .i64 frm, .int .i64 to] w (CovPost p l frm to w) := by
  have hsz := h.sizes
  have HNN := Lib.hid h
  have HV := Lib.hid h.v
  have HR := Lib.hid hr
  clear h hr
  obtain ⟨i0, hi, hz0, hz1, hz2⟩ := info_parts info79
  go_enter Tryz.func79, Tryz.ntmps79
  go_wp2
  go_loopw [9, 10, 18] (fun v s i wr => ∃ k : Nat, k ≤ l.length ∧ i = .int .i64 k ∧ s = .int .i64 (wlen p (l.take k)) ∧ Own wr w.heap.size 79 3 fC v (covTo p l frm to k) ∧ Below w.heap.size w wr) (fun _ _ i _ => l.length - (intOf i).toNat)
  case atStart => exact ⟨0, Nat.zero_le _, rfl, by simp [wlen], by simp only [covTo, List.range_zero, List.flatMap_nil]; exact Own.nil _ _ _ _ _, Below.refl _ _⟩
  case round =>
    obtain ⟨k, hk, rfl, rfl, ho, hb⟩ := hrel
    by_cases hlt : k < l.length
    · obtain ⟨b1, o1, e1, g1, q1⟩ := int_at (hA.below hb) hlt
      obtain ⟨A1, c1, A2, c2, lb, sb, nb, bb, hN, x1, x2, x3, x4, x5, x6⟩ := (HNN.out.below (hb.mono hB)).net
      obtain ⟨_, _, q2, _, _, _⟩ := hN.cell
      obtain ⟨x, hx⟩ : ∃ x, l[k] = x := ⟨_, rfl⟩
      have hx01 := HR.out x (by rw [← hx]; exact List.getElem_mem hlt)
      obtain ⟨hx0, hx1⟩ := hx01
      obtain ⟨n, rfl⟩ := Int.eq_ofNat_of_zero_le hx0
      rw [hx] at q1
      have hn : n / 2 < p.rails.length := by omega
      have z := x3.cell (i := n / 2) (by rw [lens_len]; exact hn)
      rw [lens_get hn] at z
      have hb1 := lenAt_bd HV.out ((n / 2 : Nat) : Int)
      obtain ⟨y, hy⟩ : ∃ y, lenAt p ((n / 2 : Nat) : Int) = y := ⟨_, rfl⟩
      obtain ⟨s, hs⟩ : ∃ s, wlen p (l.take k) = s := ⟨_, rfl⟩
      have HX := Lib.hid (show wlen p (l.take (k + 1)) = s + y by rw [wlen_succ p l hlt, hx, hs, ← hy]; congr 2)
      have HCS := Lib.hid (show covTo p l frm to (k + 1) = covTo p l frm to k ++ covOne p (n : Int) s frm to by rw [covTo_succ p l frm to hlt, hx, hs])
      have HLY := Lib.hid (show lenAt p ((n : Int) / 2) = y by rw [← hy]; congr 1)
      rw [hy] at z hb1
      have hb2 := wlen_bd HV.out (l.take k)
      rw [hs] at hb2
      have hlk : (l.take k).length ≤ k := List.length_take_le _ _
      have hs2 : s ≤ 2214592512000 := by omega
      rw [hs]
      obtain ⟨hy0, hy1⟩ := hb1
      obtain ⟨hs0, _⟩ := hb2
      have HX2 := HX
      have hcl := covTo_len p l frm to k
      have hzw := hb.size
      have HO := Lib.hid ho; have HB := Lib.hid hb
      subst e1
      clear hx hy hs HX hlk hN x3 x4 x5 x6 ho hb
      by_cases c3 : max (frm - s) 0 ≥ min (to - s) y
      · have d3 : decide (min (to - s) y ≤ max (frm - s) 0) = true := by rw [decide_eq_true_iff]; exact c3
        have HC := Lib.hid (show covTo p l frm to (k + 1) = covTo p l frm to k by rw [HCS.out]; unfold covOne; rw [HLY.out, if_pos c3]; simp)
        go_wp2
        go_roundw
        case rel => exact ⟨k + 1, by omega, by go_num, by rw [HX2.out], by rw [HC.out]; exact HO.out, HB.out⟩
        case measure => simp [intOf]; omega
      have d3 : decide (min (to - s) y ≤ max (frm - s) 0) = false := by rw [decide_eq_false_iff_not]; exact c3
      by_cases c4 : n % 2 = 1
      · have d4 : ((n : Int) % 2 == 1) = true := by simp; omega
        have HC := Lib.hid (show covTo p l frm to (k + 1) = covTo p l frm to k ++ [⟨(n : Int) / 2, y - min (to - s) y, y - max (frm - s) 0⟩] by rw [HCS.out]; unfold covOne; rw [HLY.out, if_neg c3, if_pos (by omega)])
        clear c4 c3
        go_wp2_with (at_builtin; go_must (refine wpList_app _ rfl (.tmp 54) (.tmp 60) _ rfl w.heap.size 79 i0 _ 3 24 Tryz.underlying69 hi hz0 hz1 hz2 rfl (by omega) fC_len fC_one u9 _ rfl (HO.out.alloc _) _ _ [(⟨(n : Int) / 2, y - min (to - s) y, y - max (frm - s) 0⟩ : C3)] 1 rfl (Sl.new _ _ (⟨(n : Int) / 2, y - min (to - s) y, y - max (frm - s) 0⟩ : C3) _ rfl) (by unfold maxLen; simp only [List.length_cons, List.length_nil]; omega) (by simp only [List.length_cons, List.length_nil]; omega) (by simp; omega) (fun _ => .inr ⟨_, rfl⟩) ?_); intro v2 w4 o2 gr2 at2 ne2)
        go_roundw
        case rel => exact ⟨k + 1, by omega, by go_num, by rw [HX2.out], by rw [HC.out]; exact o2, ((HB.out.alloc (by omega) _).grown gr2 (by simp; omega) (fun k hk => (HO.out.lt k hk).1))⟩
        case measure => simp [intOf]; omega
      · have d4 : ((n : Int) % 2 == 1) = false := by simp; omega
        have HC := Lib.hid (show covTo p l frm to (k + 1) = covTo p l frm to k ++ [⟨(n : Int) / 2, max (frm - s) 0, min (to - s) y⟩] by rw [HCS.out]; unfold covOne; rw [HLY.out, if_neg c3, if_neg (by omega)])
        clear c4 c3
        go_wp2_with (at_builtin; go_must (refine wpList_app _ rfl (.tmp 54) (.tmp 60) _ rfl w.heap.size 79 i0 _ 3 24 Tryz.underlying69 hi hz0 hz1 hz2 rfl (by omega) fC_len fC_one u9 _ rfl (HO.out.alloc _) _ _ [(⟨(n : Int) / 2, max (frm - s) 0, min (to - s) y⟩ : C3)] 1 rfl (Sl.new _ _ (⟨(n : Int) / 2, max (frm - s) 0, min (to - s) y⟩ : C3) _ rfl) (by unfold maxLen; simp only [List.length_cons, List.length_nil]; omega) (by simp only [List.length_cons, List.length_nil]; omega) (by simp; omega) (fun _ => .inr ⟨_, rfl⟩) ?_); intro v2 w4 o2 gr2 at2 ne2)
        go_roundw
        case rel => exact ⟨k + 1, by omega, by go_num, by rw [HX2.out], by rw [HC.out]; exact o2, ((HB.out.alloc (by omega) _).grown gr2 (by simp; omega) (fun k hk => (HO.out.lt k hk).1))⟩
        case measure => simp [intOf]; omega
    · obtain rfl : k = l.length := by omega
      have HQ := Lib.hid (show Own wr w.heap.size 79 3 fC u9 (covL p l frm to) from ho)
      clear ho
      go_wp2
      go_ret
      exact ⟨⟨_, rfl, HQ.out⟩, hb⟩

def covIf (p : Pl) (l : List E) (front len : Int) : Prop := Vld p ∧ wayOk p l ∧ 1 ≤ len ∧ len ≤ front ∧ front ≤ wlen p (l.map endNo)
def CoversPost (p : Pl) (l : List E) (front len : Int) (w : World) (e : Ending) (w' : World) : Prop :=
  ((covIf p l front len ∧ ∃ v, e = .returned (.tuple #[v, .int .i64 0]) ∧ Own w' w.heap.size 79 3 fC v (covL p (l.map endNo) (front - len) front)) ∨
   (¬ covIf p l front len ∧ e = .returned (.tuple #[.slice none 0 0, .int .i64 2]))) ∧ Below w.heap.size w w'
theorem way_nums {p : Pl} {l : List E} (h : wayOk p l) : ∀ x ∈ l.map endNo, 0 ≤ x ∧ x < 2 * (p.rails.length : Int) := fun x hx => by
  obtain ⟨m, hm, rfl⟩ := List.mem_map.1 hx
  obtain ⟨k, hk, rfl⟩ := List.getElem_of_mem hm
  have h1 := (h.2.2 k hk).1
  rw [E1_eq hk] at h1
  have h2 := of_decide_eq_true h1
  unfold endNo
  split <;> omega
set_option maxRecDepth 100000 in
set_option maxHeartbeats 1000000 in
theorem Covers_any (A0 A20 A : Option Addr) (c0 c20 c : Nat) (p : Pl) (l : List E) (front len : Int) (w : World) (hP : PlAt w w.heap.size A0 c0 A20 c20 p) (hA : Sl w w.heap.size 2 CE A l) (hl : l.length ≤ 140737488351232) :
    Calls Tryz.prog 46 #[.agg #[.slice A0 p.nodes.length c0, .slice A20 p.rails.length c20], .slice A l.length c, .int .i64 front, .int .i64 len] w (CoversPost p l front len w) := by
  have HP := Lib.hid (hP.box (.cells #[.slice A0 p.nodes.length c0, .slice A20 p.rails.length c20] 25))
  have HB0 := Lib.hid ((Below.refl w.heap.size w).alloc (Nat.le_refl _) (.cells #[.slice A0 p.nodes.length c0, .slice A20 p.rails.length c20] 25))
  have HA := Lib.hid hA
  clear hP hA
  go_enter Tryz.func46, Tryz.ntmps46
  go_wp2_with fail
  refine (surveyWay_any A0 A20 A c0 c20 c p l _ HP.out ((HA.out.below HB0.out).more (fun _ _ h => h) HB0.out.size) hl).mono ?_
  rintro e w1 ⟨⟨hv, hw, g, v, rfl, hN, ho⟩ | ⟨hn, x, rfl⟩, hb⟩
  · have HV := Lib.hid hv; have HB := Lib.hid (HB0.out.trans (hb.mono (by simp))); have HN := Lib.hid hN; have HW := Lib.hid hw
    have hz : w.heap.size ≤ w1.heap.size := HB.out.size
    obtain ⟨L, hL⟩ : ∃ L : List Int, l.map endNo = L := ⟨_, rfl⟩
    have HL := Lib.hid hL
    have hwn := way_nums hw
    rw [hL] at ho hwn
    obtain ⟨Av, cv, rfl, hv1, hv2, _⟩ := ho.form
    have HS := Lib.hid (fI_CI (ho.sl fI_len rfl))
    have hll : L.length ≤ 2000 := by have := hw.2.1; rw [← hL]; simpa using this
    have HWN := Lib.hid hwn
    clear hv hb hN hw ho hL hwn
    by_cases g1 : len < 1
    · have HQ := Lib.hid (show ¬ covIf p l front len from fun h => by have := h.2.2.1; omega)
      have d1 : decide (len < 1) = true := by rw [decide_eq_true_iff]; exact g1
      go_wp2
      go_ret2
      exact ⟨.inr ⟨HQ.out, rfl⟩, HB.out⟩
    have d1 : decide (len < 1) = false := by rw [decide_eq_false_iff_not]; exact g1
    by_cases g2 : front < len
    · have HQ := Lib.hid (show ¬ covIf p l front len from fun h => by have := h.2.2.2.1; omega)
      have d2 : decide (front < len) = true := by rw [decide_eq_true_iff]; exact g2
      go_wp2
      go_ret2
      exact ⟨.inr ⟨HQ.out, rfl⟩, HB.out⟩
    have d2 : decide (front < len) = false := by rw [decide_eq_false_iff_not]; exact g2
    go_wp2_with fail
    refine (wayLength_any _ g p Av L cv _ HN.out HS.out (by omega) HWN.out).mono ?_
    rintro e w2 ⟨rfl, rfl⟩
    have hwl := wlen_bd HV.out L
    obtain ⟨W, hWe⟩ : ∃ W, wlen p L = W := ⟨_, rfl⟩
    rw [hWe] at hwl
    rw [hWe]
    have HWe := Lib.hid hWe
    clear hWe
    by_cases g3 : W < front
    · have HQ := Lib.hid (show ¬ covIf p l front len from fun h => by have := h.2.2.2.2; rw [HL.out, HWe.out] at this; omega)
      have d3 : decide (W < front) = true := by rw [decide_eq_true_iff]; exact g3
      go_wp2
      go_ret2
      exact ⟨.inr ⟨HQ.out, rfl⟩, HB.out⟩
    have d3 : decide (W < front) = false := by rw [decide_eq_false_iff_not]; exact g3
    have HQ := Lib.hid (show covIf p l front len from ⟨HV.out, HW.out, by omega, by omega, by rw [HL.out, HWe.out]; omega⟩)
    have hW2 : W ≤ 2214592512000 := by omega
    go_wp2_with fail
    refine (covers_any _ g p Av L cv (front - len) front _ HN.out (Nat.le_refl _) HS.out hll HWN.out (by omega) (by omega) (by omega) (by omega)).mono ?_
    rintro e w2 ⟨⟨v, rfl, ho⟩, hb2⟩
    have HO := Lib.hid (ho.lower hz)
    have HB2 := Lib.hid (HB.out.trans (hb2.mono hz))
    clear ho hb2
    go_wp2
    go_ret2
    exact ⟨.inl ⟨HQ.out, v, rfl, by rw [HL.out]; exact HO.out⟩, HB2.out⟩
  · have HB := Lib.hid (HB0.out.trans (hb.mono (by simp)))
    have HQ := Lib.hid (show ¬ covIf p l front len from fun h => hn ⟨h.1, h.2.1⟩)
    clear hn hb
    go_wp2
    go_ret2
    exact ⟨.inr ⟨HQ.out, rfl⟩, HB.out⟩
end Go.Proofs.YtekambdnmaompaaGreat
