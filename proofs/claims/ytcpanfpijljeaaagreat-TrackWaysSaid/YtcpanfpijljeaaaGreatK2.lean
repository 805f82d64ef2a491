/- TrackWays returns true for every plan, every way, every front and every length; its arguments read afterwards as they read before. No condition. -/
import Derived.Test.YtcpanfpijljeaaaGreatRows
import Derived.Test.YtcpanfpijljeaaaGreatT4
import Derived.Test.YtcpanfpijljeaaaGreatZ5
import Derived.WalkKit
import Derived.ProofKit
import Derived.Deep.OwnRows
import Derived.Deep.CondSized
import Derived.WideKeyArgs
import Derived.ReadAgain
namespace Go.Proofs.YtcpanfpijljeaaaGreat
set_option linter.unusedVariables false
set_option linter.unusedSimpArgs false
open Go.RowKit

theorem rLength_in (A A2 : Option Addr) (c c2 : Nat) (p : Pl) (r : Int) (w : World) (hP : PlAt w w.heap.size A c A2 c2 p) (hv : Vld p) (hr : railIn p r = true) :
    Calls Tryz.prog 35 #[.agg #[.slice A p.nodes.length c, .slice A2 p.rails.length c2], .int .i64 r] w (PlainPost (.int .i64 (lenAt p r)) w) := by
  have h2 := of_decide_eq_true hr
  obtain ⟨k, rfl⟩ := Int.eq_ofNat_of_zero_le h2.1
  have hk : k < p.rails.length := by omega
  have h1 := railB_ix (hv.rail hk).1
  refine (rLength_any A A2 c c2 p k w hP hk h1.1 h1.2.1 (by omega) (allR_line (spots_ok hv.nodes) (hv.rail hk).1)).mono ?_
  rintro e w' ⟨rfl, hb⟩
  exact ⟨by rw [show lenAt p (k : Int) = ((lenOf (lineOf p p.rails[k]) : Nat) : Int) by simp [lenAt, lensOf, lenZ, hk]], hb⟩
theorem endNo_half (m : E) : endNo m / 2 = m.rail := by unfold endNo; split <;> omega
theorem wlen_snoc {p : Pl} {l : List E} {k : Nat} (h : k < l.length) : wlen p ((l.take (k + 1)).map endNo) = wlen p ((l.take k).map endNo) + lenAt p l[k].rail := by
  rw [List.map_take, List.map_take, wlen_succ p _ (by simpa using h), List.getElem_map, endNo_half]
theorem wlen_take_bd {p : Pl} (hv : Vld p) (l : List E) (k : Nat) (hk : k ≤ 2000) : 0 ≤ wlen p ((l.take k).map endNo) ∧ wlen p ((l.take k).map endNo) ≤ 2214592512000 := by
  have := wlen_bd hv ((l.take k).map endNo)
  have h2 : ((l.take k).map endNo).length ≤ 2000 := by simp; omega
  omega

set_option maxRecDepth 100000 in
set_option maxHeartbeats 2000000 in
theorem rWayLength_any (A A2 A3 : Option Addr) (c c2 c3 : Nat) (p : Pl) (l : List E) (w : World) (hP : PlAt w w.heap.size A c A2 c2 p) (hv : Vld p) (hA : Sl w w.heap.size 2 CE A3 l) (hl : l.length ≤ 2000) (hin : ∀ j (hj : j < l.length), railIn p l[j].rail = true) :
    Calls Tryz.prog 25 #[.agg #[.slice A p.nodes.length c, .slice A2 p.rails.length c2], .slice A3 l.length c3] w (PlainPost (.int .i64 (wlen p (l.map endNo))) w) := by
  have HP1 := Lib.hid (hP.box (.cells #[.slice A p.nodes.length c, .slice A2 p.rails.length c2] 25))
  have hB0 := (Below.refl w.heap.size w).alloc (Nat.le_refl _) (.cells #[.slice A p.nodes.length c, .slice A2 p.rails.length c2] 25)
  have HA := Lib.hid ((hA.below hB0).more (fun _ _ h => h) hB0.size)
  have HX := Lib.hid (show ∀ j : Nat, (w.alloc (.cells #[.slice A p.nodes.length c, .slice A2 p.rails.length c2] 25)).cell? ⟨w.heap.size, j, none⟩ = #[.slice A p.nodes.length c, .slice A2 p.rails.length c2][j]? from fun j => cell_new1 w _ 25 j)
  have hz3 : (w.alloc (.cells #[.slice A p.nodes.length c, .slice A2 p.rails.length c2] 25)).heap.size = w.heap.size + 1 := by simp
  have HV := Lib.hid hv; have HI := Lib.hid hin
  have HB0 := Lib.hid hB0
  clear hP hv hA hB0 hin
  go_enter Tryz.func25, Tryz.ntmps25
  go_wp2
  generalize w.alloc (.cells #[.slice A p.nodes.length c, .slice A2 p.rails.length c2] 25) = W1 at *
  go_loopw [5, 6] (fun s i wr => ∃ k : Nat, k ≤ l.length ∧ i = .int .i64 k ∧ s = .int .i64 (wlen p ((l.take k).map endNo)) ∧ Below W1.heap.size W1 wr) (fun _ i _ => l.length - (intOf i).toNat)
  case atStart => exact ⟨0, Nat.zero_le _, rfl, by simp [wlen], Below.refl _ _⟩
  case round =>
    obtain ⟨k, hk, rfl, rfl, hb⟩ := hrel
    have hzw := hb.size
    have ha0 : w.heap.size < W1.heap.size := by omega
    have k0 := (hb.cell (p := ⟨w.heap.size, 0, none⟩) ha0).trans (HX.out 0)
    have k1 := (hb.cell (p := ⟨w.heap.size, 1, none⟩) ha0).trans (HX.out 1)
    simp only [List.getElem?_toArray, List.getElem?_cons_zero, List.getElem?_cons_succ] at k0 k1
    have HPw := Lib.hid ((HP1.out.below hb).more hzw)
    have HAw := Lib.hid ((HA.out.below hb).more (fun _ _ h => h) hzw)
    have HB := Lib.hid hb
    clear hb
    have hr0 : w.heap.size < wr.heap.size := by omega
    by_cases hlt : k < l.length
    · have hk0 : (0 : Int) ≤ (k : Int) := by omega
      have hk1 : (k : Int) < (l.length : Int) := by omega
      obtain ⟨b1, o1, e1, g1, q0, q1⟩ := end_at HAw.out hlt
      have hs1 := wlen_snoc (p := p) hlt
      have hri := HI.out k hlt
      obtain ⟨⟨mr, ml⟩, hx⟩ : ∃ x, l[k] = x := ⟨_, rfl⟩
      rw [hx] at q0 q1 hs1 hri
      have HRI := Lib.hid hri
      have hbx := wlen_take_bd HV.out l k (by omega)
      have hby := lenAt_bd HV.out mr
      obtain ⟨X, hX⟩ : ∃ x, wlen p ((l.take k).map endNo) = x := ⟨_, rfl⟩
      obtain ⟨Y, hY⟩ : ∃ x, lenAt p mr = x := ⟨_, rfl⟩
      rw [hX] at hbx hs1 ⊢
      simp only [hY] at hby hs1
      have HS1 := Lib.hid hs1; have HY := Lib.hid hY
      have hx0 := hbx.1; have hx1 := hbx.2; have hy0 := hby.1; have hy1 := hby.2
      subst e1
      clear hx hX hY hs1 hri hbx hby
      go_upto_region 5 with (fail)
      have hbq : Below wr.heap.size wr wr.drew := (Below.refl _ _).drew
      have hwr : IntKind.i64.wrap (X + Y) = X + Y := by rw [IntKind.wrap_i64]; omega
      first
        | (go_region_held3 (fun w' => w'.cell? ⟨w.heap.size, 0, none⟩ = some (.slice A p.nodes.length c) ∧ w'.cell? ⟨w.heap.size, 1, none⟩ = some (.slice A2 p.rails.length c2) ∧ w'.cell? ⟨b1, o1 + k * 2, none⟩ = some (.int .i64 mr))
            (exact ⟨(hbq.cell (p := ⟨w.heap.size, 0, none⟩) hr0).trans k0, (hbq.cell (p := ⟨w.heap.size, 1, none⟩) hr0).trans k1, (hbq.cell (p := ⟨b1, o1 + k * 2, none⟩) g1).trans q0⟩)
            ((first
              | (go_at_call 35; have hpw := (HPw.out.below hbq).more hbq.size; have hlc := rLength_in A A2 c c2 p mr _ hpw HV.out HRI.out; rw [HY.out] at hlc; (with_reducible refine hlc.mono ?_); rintro e w5 ⟨rfl, hb5⟩; replace hbq := hbq.trans (hb5.mono hbq.size)))))
        | fail "held3"
      all_goals
        have HB2 := Lib.hid (HB.out.trans (hbq.mono hzw))
        clear hbq hwr
        go_wp2
        go_roundw
        case rel => exact ⟨k + 1, by omega, by go_num, by rw [HS1.out], HB2.out⟩
        case measure => simp [intOf]; omega
    · obtain rfl : k = l.length := by omega
      have HQ := Lib.hid (show wlen p ((l.take l.length).map endNo) = wlen p (l.map endNo) by rw [List.take_length])
      go_wp2
      go_ret
      exact ⟨by rw [← HQ.out]; rfl, HB0.out.trans (HB.out.mono (by omega))⟩


/-- the setting that two moves need, if they need one -/
def setOne (p : Pl) (m n : Nat) : List S := if (atN p (flip m)).kind = 4 then [⟨nodeAtZ p (flip m : Nat), setZ p m n⟩] else []
def setsTo (p : Pl) (l : List E) (k : Nat) : List S := (List.range (k - 1)).flatMap fun j => setOne p (keyE (E1' l j)) (keyE (E1' l (j + 1)))
theorem setsTo_succ (p : Pl) (l : List E) {k : Nat} (h : 1 ≤ k) : setsTo p l (k + 1) = setsTo p l k ++ setOne p (keyE (E1' l (k - 1))) (keyE (E1' l k)) := by
  unfold setsTo
  rw [show k + 1 - 1 = (k - 1) + 1 by omega, List.range_succ, List.flatMap_append]
  simp only [List.flatMap_cons, List.flatMap_nil, List.append_nil]
  rw [show k - 1 + 1 = k by omega]
theorem setsTo_len (p : Pl) (l : List E) (k : Nat) : (setsTo p l k).length ≤ k := by
  have key : ∀ n, ((List.range n).flatMap fun j => setOne p (keyE (E1' l j)) (keyE (E1' l (j + 1)))).length ≤ n := by
    intro n
    induction n with
    | zero => simp
    | succ n ih =>
      rw [List.range_succ, List.flatMap_append, List.length_append]
      have : ([n].flatMap fun j => setOne p (keyE (E1' l j)) (keyE (E1' l (j + 1)))).length ≤ 1 := by
        simp only [List.flatMap_cons, List.flatMap_nil, List.append_nil]
        unfold setOne; split <;> simp
      omega
  have := key (k - 1)
  unfold setsTo
  omega
theorem set_form (p : Pl) (m n : Nat) : ∃ X Y : Int, ∃ sb : Bool, settingV p m n = .tuple #[.agg #[.int .i64 X, .int .i64 Y], .bool sb] ∧ setOne p m n = if sb then [⟨X, Y⟩] else [] := by
  unfold settingV setOne
  split
  · exact ⟨_, _, true, rfl, rfl⟩
  · exact ⟨_, _, false, rfl, rfl⟩
theorem info38 : (Tryz.prog.info? 38).map (fun i => (i.zero, i.size, i.bytes)) = some (some (.agg #[.int .i64 0, .int .i64 0]), 2, 16) := by kernel_rfl
/-- an old block of two cells, stored into -/
theorem two_set {w : World} {K : Nat} {x y u v : Value} {t : TypeId} (h : w.heap[K]? = some (.cells #[x, y] t)) :
    ((w.setCell ⟨K, 0, none⟩ u).setCell ⟨K, 1, none⟩ v).cell? ⟨K, 0, none⟩ = some u ∧ ((w.setCell ⟨K, 0, none⟩ u).setCell ⟨K, 1, none⟩ v).cell? ⟨K, 1, none⟩ = some v := by
  have h2 := heap_set_same (i := 1) v (heap_set_same (i := 0) u h)
  exact ⟨cell_of_row _ K 0 _ t (0, 0) h2, cell_of_row _ K 1 _ t (0, 0) h2⟩

def SetsPost (p : Pl) (l : List E) (w : World) (e : Ending) (w' : World) : Prop := (∃ B d, e = .returned (.tuple #[.slice B (setsTo p l l.length).length d, .int .i64 0]) ∧ Sl w' w'.heap.size 2 CS B (setsTo p l l.length)) ∧ Below w.heap.size w w'
set_option maxRecDepth 100000 in
set_option maxHeartbeats 4000000 in
theorem Settings_in (A A2 A3 : Option Addr) (c c2 c3 : Nat) (p : Pl) (l : List E) (w : World) (hP : PlAt w w.heap.size A c A2 c2 p) (hA : Sl w w.heap.size 2 CE A3 l) (hv : Vld p) (hw : wayOk p l) :
    Calls Tryz.prog 16 #[.agg #[.slice A p.nodes.length c, .slice A2 p.rails.length c2], .slice A3 l.length c3] w (SetsPost p l w) := by
  have HP := Lib.hid (hP.box (.cells #[.slice A p.nodes.length c, .slice A2 p.rails.length c2] 25))
  have hB0 := (Below.refl w.heap.size w).alloc (Nat.le_refl _) (.cells #[.slice A p.nodes.length c, .slice A2 p.rails.length c2] 25)
  have HA := Lib.hid ((hA.below hB0).more (fun _ _ h => h) hB0.size)
  have HB0 := Lib.hid hB0
  have HVW := Lib.hid (And.intro hv hw)
  have hl := hw.2.1; have hl1 := hw.1
  have HKY := Lib.hid (show ∀ j, j < l.length → endNo (E1' l j) = ((keyE (E1' l j) : Nat) : Int) ∧ keyE (E1' l j) < 2 * p.rails.length from fun j hj => by
    have := key_lt (hw.2.2 j hj).1
    exact ⟨this.1.symm, this.2⟩)
  obtain ⟨i0, hi, hz0, hz1, hz2⟩ := info_parts info38
  clear hP hA hB0 hv hw
  go_enter Tryz.func16, Tryz.ntmps16
  go_wp2_with fail
  refine (surveyWay_any A A2 A3 c c2 c3 p l _ HP.out HA.out (by omega)).mono ?_
  rintro e w1 ⟨⟨hv, hw, g, v, rfl, hN, ho⟩ | ⟨hw, x, rfl⟩, hb⟩
  case inr => exact absurd HVW.out hw
  have HB := Lib.hid (HB0.out.trans (hb.mono (by simp)))
  have HN := Lib.hid hN
  have hLq : (l.map endNo).length = l.length := by simp
  obtain ⟨q, hq⟩ : ∃ q, l.map endNo = q := ⟨_, rfl⟩
  have HQ := Lib.hid (show ∀ j (hj : j < l.length) (hj2 : j < q.length), q[j] = ((keyE (E1' l j) : Nat) : Int) from fun j hj hj2 => by
    subst hq
    rw [List.getElem_map, ← E1_eq hj]
    exact (HKY.out j hj).1)
  rw [hq] at ho hLq
  obtain ⟨Bq, dq, rfl, _, _, _⟩ := ho.form
  have HSL := Lib.hid ((fI_CI (ho.sl fI_len rfl)).keep (w' := w1) (fun _ _ h => h) fun _ _ => rfl)
  have hLq1 : q.length ≤ l.length := by omega
  have hLq2 : l.length ≤ q.length := by omega
  clear hv hw hN ho hb hq hLq
  go_wp2
  go_loopw [9, 10] (fun v i wr => ∃ k : Nat, 1 ≤ k ∧ k ≤ l.length ∧ i = .int .i64 (k : Int) ∧ Own wr w1.heap.size 38 2 fS v (setsTo p l k) ∧ Below w1.heap.size w1 wr) (fun _ i _ => l.length - (intOf i).toNat)
  case atStart => exact ⟨1, Nat.le_refl _, hl1, rfl, by simpa [setsTo] using Own.nil _ _ _ _ _, Below.refl _ _⟩
  case round =>
    obtain ⟨k, hk1, hk, rfl, ho, hb⟩ := hrel
    have hzw := hb.size
    have HO := Lib.hid ho; have HBR := Lib.hid hb
    have HNr := Lib.hid (HN.out.below hb)
    have HSr := Lib.hid ((HSL.out.below hb).more (fun _ _ h => h) hzw)
    clear ho hb
    by_cases hlt : k < l.length
    · obtain ⟨j, rfl⟩ : ∃ j, k = j + 1 := ⟨k - 1, by omega⟩
      obtain ⟨b1, o1, e1, g1, q0⟩ := int_at HSr.out (i := j) (by omega)
      obtain ⟨b2, o2, e2, g2, q1⟩ := int_at HSr.out (i := j + 1) (by omega)
      rw [HQ.out j (by omega) (by omega)] at q0
      rw [HQ.out (j + 1) (by omega) (by omega)] at q1
      obtain ⟨rfl, rfl⟩ : b1 = b2 ∧ o1 = o2 := by rw [e1] at e2; simpa using e2
      have hkm := (HKY.out j (by omega)).2
      have hkn := (HKY.out (j + 1) (by omega)).2
      have hst := setsTo_succ p l (k := j + 1) (by omega)
      rw [show j + 1 - 1 = j by omega] at hst
      obtain ⟨m, hm⟩ : ∃ m, keyE (E1' l j) = m := ⟨_, rfl⟩
      obtain ⟨n, hn⟩ : ∃ n, keyE (E1' l (j + 1)) = n := ⟨_, rfl⟩
      rw [hm] at q0 hkm hst
      rw [hn] at q1 hkn hst
      obtain ⟨X, Y, sb, hsv, hso⟩ := set_form p m n
      rw [hso] at hst
      have HST := Lib.hid hst
      have C53 := Lib.hid (show ∀ w', Below wr.heap.size wr w' → Calls Tryz.prog 53 #[.pointer (some ⟨g, 0, none⟩), .int .i64 (m : Int), .int .i64 (n : Int)] w' fun e w2 => e = .returned (.tuple #[.agg #[.int .i64 X, .int .i64 Y], .bool sb]) ∧ Below w'.heap.size w' w2 from fun w' hb' => by
        have := setting_any _ g p m n w' (HNr.out.below (hb'.mono hzw)) (Nat.le_trans hzw hb'.size) hkm hkn
        rwa [hsv] at this)
      have hsl := setsTo_len p l (j + 1)
      have hj0 : (0 : Int) ≤ (j : Int) := by omega
      have hj1 : (j : Int) < (q.length : Int) := by omega
      have hj2 : (0 : Int) ≤ (j : Int) + 1 := by omega
      have hj3 : (j : Int) + 1 < (q.length : Int) := by omega
      subst e1
      clear hst hso hsv hm hn hkm hkn e2
      go_upto_region 8 with (fail)
      go_cut [11, 12] from 22 to 41 (fun s11 s12 wx => (∃ Ks : Nat, s11 = .pointer (some ⟨Ks, 0, none⟩) ∧ wx.cell? ⟨Ks, 0, none⟩ = some (.int .i64 X) ∧ wx.cell? ⟨Ks, 1, none⟩ = some (.int .i64 Y)) ∧ s12 = .bool sb ∧ Below wr.heap.size wr wx)
      case first =>
        have hbq : Below wr.heap.size wr wr.drew := (Below.refl _ _).drew
        have hwr1 : IntKind.i64.wrap ((j : Int) + 1 - 1) = (j : Int) := by rw [IntKind.wrap_i64]; omega
        have hwr2 : IntKind.i64.wrap (j : Int) = (j : Int) := by rw [IntKind.wrap_i64]; omega
        have hj4 : ((j : Int) + 1).toNat = j + 1 := by omega
        have HK := Lib.hid (show ∀ w', Below wr.heap.size wr w' → w'.cell? ⟨b1, o1 + j, none⟩ = some (.int .i64 (m : Int)) ∧ w'.cell? ⟨b1, o1 + (j + 1), none⟩ = some (.int .i64 (n : Int)) from fun w' hb' => ⟨(hb'.cell (p := ⟨b1, o1 + j, none⟩) g1).trans q0, (hb'.cell (p := ⟨b1, o1 + (j + 1), none⟩) g1).trans q1⟩)
        have hz0 : wr.drew.heap.size = wr.heap.size := rfl
        go_region_held3 (fun w' => w'.cell? ⟨b1, o1 + j, none⟩ = some (.int .i64 (m : Int)) ∧ w'.cell? ⟨b1, o1 + (j + 1), none⟩ = some (.int .i64 (n : Int)))
            (first
              | exact HK.out _ hbq
              | exact HK.out _ (hbq.alloc hbq.size _)
              | exact HK.out _ (((Below.refl wr.heap.size wr).alloc (Nat.le_refl _) _).drew)
              | exact HK.out _ ((hbq.setCell (p := ⟨wr.heap.size, 0, none⟩) (Nat.le_refl _) _).setCell (p := ⟨wr.heap.size, 1, none⟩) (Nat.le_refl _) _))
            ((first
              | (go_at_call 53; (with_reducible refine (C53.out _ hbq).mono ?_); rintro e w5 ⟨rfl, hb5⟩; replace hbq := hbq.trans (hb5.mono hbq.size))
              | (go_at_call 53; have hbq1 := ((Below.refl wr.heap.size wr).alloc (Nat.le_refl _) (.cells #[.int .i64 0, .int .i64 0] 38)).drew; (with_reducible refine (C53.out _ hbq1).mono ?_); rintro e w5 ⟨rfl, hb5⟩; have hrow := (hb5.block wr.heap.size (show wr.heap.size < (wr.alloc (.cells #[.int .i64 0, .int .i64 0] 38)).heap.size by simp)).trans (heap_alloc_new wr (.cells #[.int .i64 0, .int .i64 0] 38)); obtain ⟨y0, y1, y2, y3⟩ := row2 hrow; replace hbq := hbq1.trans (hb5.mono hbq1.size))))
        · go_wp2_with fail
          go_meet
          exact ⟨⟨w5.heap.size, rfl, cell_new1 w5 _ 38 0, cell_new1 w5 _ 38 1⟩, rfl, hbq.alloc hbq.size _⟩
        · go_wp2_with fail
          go_meet
          exact ⟨⟨wr.heap.size, rfl, (two_set hrow).1, (two_set hrow).2⟩, rfl, (hbq.setCell (p := ⟨wr.heap.size, 0, none⟩) (Nat.le_refl _) _).setCell (p := ⟨wr.heap.size, 1, none⟩) (Nat.le_refl _) _⟩
      case rest =>
      obtain ⟨⟨Ks, rfl, x0, x1⟩, rfl, hbq⟩ := hcut
      have hzc := hbq.size
      have HO2 := Lib.hid (HO.out.below hbq (Nat.le_refl _))
      have HB2 := Lib.hid (HBR.out.trans (hbq.mono hzw))
      clear hbq HO HBR C53 q0 q1
      cases sb
      · have HS2 := Lib.hid (show setsTo p l (j + 1 + 1) = setsTo p l (j + 1) by rw [HST.out]; simp)
        go_wp2
        go_roundw
        case rel => exact ⟨j + 1 + 1, by omega, by omega, by go_num, by rw [HS2.out]; exact HO2.out, HB2.out⟩
        case measure => simp [intOf]; omega
      · have HS2 := Lib.hid (show setsTo p l (j + 1 + 1) = setsTo p l (j + 1) ++ [⟨X, Y⟩] by rw [HST.out]; rfl)
        have hzw2 : w1.heap.size ≤ wc.heap.size := by omega
        go_wp2_with (at_builtin; go_must (refine wpList_app _ rfl (.tmp 43) (.tmp 45) _ rfl w1.heap.size 38 i0 _ 2 16 Tryz.underlying43 hi hz0 hz1 hz2 rfl (by omega) fS_len fS_one u9 _ rfl (HO2.out.alloc _) _ _ [(⟨X, Y⟩ : S)] 1 rfl (Sl.new _ _ (⟨X, Y⟩ : S) _ rfl) (by unfold maxLen; simp only [List.length_cons, List.length_nil]; omega) (by simp only [List.length_cons, List.length_nil]; omega) (by simp; omega) (fun _ => .inr ⟨_, rfl⟩) ?_); intro v2 w2 o2 gr2 at2 ne2)
        go_roundw
        case rel => exact ⟨j + 1 + 1, by omega, by omega, by go_num, by rw [HS2.out]; exact o2, (HB2.out.alloc (by omega) _).grown gr2 (by simp; omega) (fun k hk => (HO2.out.lt k hk).1)⟩
        case measure => simp [intOf]; omega
    · obtain rfl : k = l.length := by omega
      obtain ⟨B9, d9, rfl, _, _, _⟩ := HO.out.form
      have HS9 := Lib.hid ((HO.out.sl fS_len rfl).keep (w' := wr) (fun _ _ h => h) fun _ _ => rfl)
      have HBZ := Lib.hid (HB.out.trans (HBR.out.mono HB.out.size))
      go_wp2
      go_ret2
      exact ⟨⟨_, _, rfl, HS9.out⟩, HBZ.out⟩


def RSetsPost (p : Pl) (l : List E) (w : World) (e : Ending) (w' : World) : Prop := (∃ B d, e = .returned (.slice B (setsTo p l l.length).length d) ∧ Sl w' w'.heap.size 2 CS B (setsTo p l l.length)) ∧ Below w.heap.size w w'
set_option maxRecDepth 100000 in
set_option maxHeartbeats 4000000 in
theorem rSettings_any (A A2 A3 : Option Addr) (c c2 c3 : Nat) (p : Pl) (l : List E) (w : World) (hP : PlAt w w.heap.size A c A2 c2 p) (hA : Sl w w.heap.size 2 CE A3 l) (hv : Vld p) (hw : wayOk p l) :
    Calls Tryz.prog 27 #[.agg #[.slice A p.nodes.length c, .slice A2 p.rails.length c2], .slice A3 l.length c3] w (RSetsPost p l w) := by
  have HP1 := Lib.hid (hP.box (.cells #[.slice A p.nodes.length c, .slice A2 p.rails.length c2] 25))
  have hB0 := (Below.refl w.heap.size w).alloc (Nat.le_refl _) (.cells #[.slice A p.nodes.length c, .slice A2 p.rails.length c2] 25)
  have HA := Lib.hid ((hA.below hB0).more (fun _ _ h => h) hB0.size)
  have HX := Lib.hid (show ∀ j : Nat, (w.alloc (.cells #[.slice A p.nodes.length c, .slice A2 p.rails.length c2] 25)).cell? ⟨w.heap.size, j, none⟩ = #[.slice A p.nodes.length c, .slice A2 p.rails.length c2][j]? from fun j => cell_new1 w _ 25 j)
  have hz3 : (w.alloc (.cells #[.slice A p.nodes.length c, .slice A2 p.rails.length c2] 25)).heap.size = w.heap.size + 1 := by simp
  have HB0 := Lib.hid hB0
  have HV := Lib.hid hv; have HW := Lib.hid hw
  have hl := hw.2.1; have hl1 := hw.1
  obtain ⟨i0, hi, hz0, hz1, hz2⟩ := info_parts info38
  clear hP hA hB0 hv hw
  go_enter Tryz.func27, Tryz.ntmps27
  go_wp2
  generalize w.alloc (.cells #[.slice A p.nodes.length c, .slice A2 p.rails.length c2] 25) = W1 at *
  go_loopw [5, 6] (fun v i wr => ∃ k : Nat, 1 ≤ k ∧ k ≤ l.length ∧ i = .int .i64 (k : Int) ∧ Own wr W1.heap.size 38 2 fS v (setsTo p l k) ∧ Below W1.heap.size W1 wr) (fun _ i _ => l.length - (intOf i).toNat)
  case atStart => exact ⟨1, Nat.le_refl _, hl1, rfl, by simpa [setsTo] using Own.nil _ _ _ _ _, Below.refl _ _⟩
  case round =>
    obtain ⟨k, hk1, hk, rfl, ho, hb⟩ := hrel
    have hzw := hb.size
    have ha0 : w.heap.size < W1.heap.size := by omega
    have k0 := (hb.cell (p := ⟨w.heap.size, 0, none⟩) ha0).trans (HX.out 0)
    have k1 := (hb.cell (p := ⟨w.heap.size, 1, none⟩) ha0).trans (HX.out 1)
    simp only [List.getElem?_toArray, List.getElem?_cons_zero, List.getElem?_cons_succ] at k0 k1
    have hr0 : w.heap.size < wr.heap.size := by omega
    have HO := Lib.hid ho; have HBR := Lib.hid hb
    have HPw := Lib.hid ((HP1.out.below hb).more hzw)
    have HAw := Lib.hid ((HA.out.below hb).more (fun _ _ h => h) hzw)
    clear ho hb
    by_cases hlt : k < l.length
    · obtain ⟨j, rfl⟩ : ∃ j, k = j + 1 := ⟨k - 1, by omega⟩
      obtain ⟨b1, o1, e1, g1, q0, q1⟩ := end_at HAw.out (i := j) (by omega)
      obtain ⟨b2, o2, e2, g2, q2, q3⟩ := end_at HAw.out (i := j + 1) hlt
      obtain ⟨rfl, rfl⟩ : b1 = b2 ∧ o1 = o2 := by rw [e1] at e2; simpa using e2
      have hst := setsTo_succ p l (k := j + 1) (by omega)
      rw [show j + 1 - 1 = j by omega] at hst
      have w1 := HW.out.2.2 j (by omega)
      have w2 := HW.out.2.2 (j + 1) hlt
      rw [show j + 1 - 1 = j by omega] at w2
      have w3 := w2.2 (by omega)
      have w2 := w2.1
      have w1 := w1.1
      rw [E1_eq (by omega)] at w1 w2
      rw [E1_eq (by omega), E1_eq (by omega)] at w3 hst
      obtain ⟨⟨mr, ml⟩, hm⟩ : ∃ x, l[j]'(by omega) = x := ⟨_, rfl⟩
      obtain ⟨⟨nr, nl⟩, hn⟩ : ∃ x, l[j + 1] = x := ⟨_, rfl⟩
      rw [hm] at q0 q1 w1 w3 hst
      rw [hn] at q2 q3 w2 w3 hst
      obtain ⟨X, Y, sb, hsv, hso⟩ := set_form p (keyE ⟨mr, ml⟩) (keyE ⟨nr, nl⟩)
      rw [hso] at hst
      have HST := Lib.hid hst
      have C64 := Lib.hid (show ∀ w', Below wr.heap.size wr w' → Calls Tryz.prog 64 #[.agg #[.slice A p.nodes.length c, .slice A2 p.rails.length c2], .agg #[.int .i64 mr, .bool ml], .agg #[.int .i64 nr, .bool nl]] w' fun e w2 => e = .returned (.tuple #[.agg #[.int .i64 X, .int .i64 Y], .bool sb]) ∧ Below w'.heap.size w' w2 from fun w' hb' => by
        have := rBetween_any A A2 c c2 p ⟨mr, ml⟩ ⟨nr, nl⟩ w' ((HPw.out.below hb').more hb'.size) HV.out w1 w2 w3
        rwa [hsv] at this)
      have hsl := setsTo_len p l (j + 1)
      have hj0 : (0 : Int) ≤ (j : Int) := by omega
      have hj1 : (j : Int) < (l.length : Int) := by omega
      have hj2 : (0 : Int) ≤ (j : Int) + 1 := by omega
      have hj3 : (j : Int) + 1 < (l.length : Int) := by omega
      subst e1
      clear hst hso hsv hm hn w1 w2 w3 e2
      go_upto_region 5 with (fail)
      go_cut [7, 8] from 9 to 28 (fun s11 s12 wx => (∃ Ks : Nat, s11 = .pointer (some ⟨Ks, 0, none⟩) ∧ wx.cell? ⟨Ks, 0, none⟩ = some (.int .i64 X) ∧ wx.cell? ⟨Ks, 1, none⟩ = some (.int .i64 Y)) ∧ s12 = .bool sb ∧ Below wr.heap.size wr wx)
      case first =>
        have hbq : Below wr.heap.size wr wr.drew := (Below.refl _ _).drew
        have hwr1 : IntKind.i64.wrap ((j : Int) + 1 - 1) = (j : Int) := by rw [IntKind.wrap_i64]; omega
        have hwr2 : IntKind.i64.wrap (j : Int) = (j : Int) := by rw [IntKind.wrap_i64]; omega
        have hj4 : ((j : Int) + 1).toNat = j + 1 := by omega
        have HK := Lib.hid (show ∀ w', Below wr.heap.size wr w' → w'.cell? ⟨w.heap.size, 0, none⟩ = some (.slice A p.nodes.length c) ∧ w'.cell? ⟨w.heap.size, 1, none⟩ = some (.slice A2 p.rails.length c2) ∧ w'.cell? ⟨b1, o1 + j * 2, none⟩ = some (.int .i64 mr) ∧ w'.cell? ⟨b1, o1 + j * 2 + 1, none⟩ = some (.bool ml) ∧ w'.cell? ⟨b1, o1 + (j + 1) * 2, none⟩ = some (.int .i64 nr) ∧ w'.cell? ⟨b1, o1 + (j + 1) * 2 + 1, none⟩ = some (.bool nl) from fun w' hb' =>
          ⟨(hb'.cell (p := ⟨w.heap.size, 0, none⟩) hr0).trans k0, (hb'.cell (p := ⟨w.heap.size, 1, none⟩) hr0).trans k1, (hb'.cell (p := ⟨b1, o1 + j * 2, none⟩) g1).trans q0, (hb'.cell (p := ⟨b1, o1 + j * 2 + 1, none⟩) g1).trans q1, (hb'.cell (p := ⟨b1, o1 + (j + 1) * 2, none⟩) g1).trans q2, (hb'.cell (p := ⟨b1, o1 + (j + 1) * 2 + 1, none⟩) g1).trans q3⟩)
        go_region_held3 (fun w' => w'.cell? ⟨w.heap.size, 0, none⟩ = some (.slice A p.nodes.length c) ∧ w'.cell? ⟨w.heap.size, 1, none⟩ = some (.slice A2 p.rails.length c2) ∧ w'.cell? ⟨b1, o1 + j * 2, none⟩ = some (.int .i64 mr) ∧ w'.cell? ⟨b1, o1 + j * 2 + 1, none⟩ = some (.bool ml) ∧ w'.cell? ⟨b1, o1 + (j + 1) * 2, none⟩ = some (.int .i64 nr) ∧ w'.cell? ⟨b1, o1 + (j + 1) * 2 + 1, none⟩ = some (.bool nl))
            (first
              | exact HK.out _ hbq
              | exact HK.out _ (hbq.alloc hbq.size _)
              | exact HK.out _ (((Below.refl wr.heap.size wr).alloc (Nat.le_refl _) _).drew)
              | exact HK.out _ ((hbq.setCell (p := ⟨wr.heap.size, 0, none⟩) (Nat.le_refl _) _).setCell (p := ⟨wr.heap.size, 1, none⟩) (Nat.le_refl _) _))
            ((first
              | (go_at_call 64; (with_reducible refine (C64.out _ hbq).mono ?_); rintro e w5 ⟨rfl, hb5⟩; replace hbq := hbq.trans (hb5.mono hbq.size))
              | (go_at_call 64; have hbq1 := ((Below.refl wr.heap.size wr).alloc (Nat.le_refl _) (.cells #[.int .i64 0, .int .i64 0] 38)).drew; (with_reducible refine (C64.out _ hbq1).mono ?_); rintro e w5 ⟨rfl, hb5⟩; have hrow := (hb5.block wr.heap.size (show wr.heap.size < (wr.alloc (.cells #[.int .i64 0, .int .i64 0] 38)).heap.size by simp)).trans (heap_alloc_new wr (.cells #[.int .i64 0, .int .i64 0] 38)); obtain ⟨y0, y1, y2, y3⟩ := row2 hrow; replace hbq := hbq1.trans (hb5.mono hbq1.size))))
        · go_wp2_with fail
          go_meet
          exact ⟨⟨w5.heap.size, rfl, cell_new1 w5 _ 38 0, cell_new1 w5 _ 38 1⟩, rfl, hbq.alloc hbq.size _⟩
        · go_wp2_with fail
          go_meet
          exact ⟨⟨wr.heap.size, rfl, (two_set hrow).1, (two_set hrow).2⟩, rfl, (hbq.setCell (p := ⟨wr.heap.size, 0, none⟩) (Nat.le_refl _) _).setCell (p := ⟨wr.heap.size, 1, none⟩) (Nat.le_refl _) _⟩
      case rest =>
      obtain ⟨⟨Ks, rfl, x0, x1⟩, rfl, hbq⟩ := hcut
      have hzc := hbq.size
      have HO2 := Lib.hid (HO.out.below hbq (Nat.le_refl _))
      have HB2 := Lib.hid (HBR.out.trans (hbq.mono hzw))
      clear hbq HO HBR C64 q0 q1 q2 q3 k0 k1
      cases sb
      · have HS2 := Lib.hid (show setsTo p l (j + 1 + 1) = setsTo p l (j + 1) by rw [HST.out]; simp)
        go_wp2
        go_roundw
        case rel => exact ⟨j + 1 + 1, by omega, by omega, by go_num, by rw [HS2.out]; exact HO2.out, HB2.out⟩
        case measure => simp [intOf]; omega
      · have HS2 := Lib.hid (show setsTo p l (j + 1 + 1) = setsTo p l (j + 1) ++ [⟨X, Y⟩] by rw [HST.out]; rfl)
        have hzw2 : W1.heap.size ≤ wc.heap.size := by omega
        go_wp2_with (at_builtin; go_must (refine wpList_app _ rfl (.tmp 30) (.tmp 32) _ rfl W1.heap.size 38 i0 _ 2 16 Tryz.underlying43 hi hz0 hz1 hz2 rfl (by omega) fS_len fS_one u5 _ rfl (HO2.out.alloc _) _ _ [(⟨X, Y⟩ : S)] 1 rfl (Sl.new _ _ (⟨X, Y⟩ : S) _ rfl) (by unfold maxLen; simp only [List.length_cons, List.length_nil]; omega) (by simp only [List.length_cons, List.length_nil]; omega) (by simp; omega) (fun _ => .inr ⟨_, rfl⟩) ?_); intro v2 w2 o2 gr2 at2 ne2)
        go_roundw
        case rel => exact ⟨j + 1 + 1, by omega, by omega, by go_num, by rw [HS2.out]; exact o2, (HB2.out.alloc (by omega) _).grown gr2 (by simp; omega) (fun k hk => (HO2.out.lt k hk).1)⟩
        case measure => simp [intOf]; omega
    · obtain rfl : k = l.length := by omega
      obtain ⟨B9, d9, rfl, _, _, _⟩ := HO.out.form
      have HS9 := Lib.hid ((HO.out.sl fS_len rfl).keep (w' := wr) (fun _ _ h => h) fun _ _ => rfl)
      have HBZ := Lib.hid (HB0.out.trans (HBR.out.mono (by omega)))
      go_wp2
      go_ret
      exact ⟨⟨_, _, rfl, HS9.out⟩, HBZ.out⟩


theorem endNo_odd (m : E) : endNo m % 2 = if m.last = true then 1 else 0 := by unfold endNo; split <;> omega
def RCovPost (p : Pl) (l : List E) (fr tt : Int) (w : World) (e : Ending) (w' : World) : Prop := (∃ B d, e = .returned (.slice B (covL p (l.map endNo) fr tt).length d) ∧ Sl w' w'.heap.size 3 CC B (covL p (l.map endNo) fr tt)) ∧ Below w.heap.size w w'
set_option maxRecDepth 100000 in
set_option maxHeartbeats 8000000 in
theorem rCovers_any (A A2 A3 : Option Addr) (c c2 c3 : Nat) (p : Pl) (l : List E) (front len : Int) (w : World) (hP : PlAt w w.heap.size A c A2 c2 p) (hA : Sl w w.heap.size 2 CE A3 l) (hv : Vld p) (hl : l.length ≤ 2000) (hin : ∀ j (hj : j < l.length), railIn p l[j].rail = true)
    (h1 : 1 ≤ len) (h2 : len ≤ front) (h3 : front ≤ 10000000000000) :
    Calls Tryz.prog 29 #[.agg #[.slice A p.nodes.length c, .slice A2 p.rails.length c2], .slice A3 l.length c3, .int .i64 front, .int .i64 len] w (RCovPost p l (front - len) front w) := by
  have HP1 := Lib.hid (hP.box (.cells #[.slice A p.nodes.length c, .slice A2 p.rails.length c2] 25))
  have hB0 := (Below.refl w.heap.size w).alloc (Nat.le_refl _) (.cells #[.slice A p.nodes.length c, .slice A2 p.rails.length c2] 25)
  have HA := Lib.hid ((hA.below hB0).more (fun _ _ h => h) hB0.size)
  have HX := Lib.hid (show ∀ j : Nat, (w.alloc (.cells #[.slice A p.nodes.length c, .slice A2 p.rails.length c2] 25)).cell? ⟨w.heap.size, j, none⟩ = #[.slice A p.nodes.length c, .slice A2 p.rails.length c2][j]? from fun j => cell_new1 w _ 25 j)
  have hz3 : (w.alloc (.cells #[.slice A p.nodes.length c, .slice A2 p.rails.length c2] 25)).heap.size = w.heap.size + 1 := by simp
  have HV := Lib.hid hv; have HI := Lib.hid hin
  have HB0 := Lib.hid hB0
  obtain ⟨i0, hi, hz0, hz1, hz2⟩ := info_parts info66
  clear hP hv hA hB0 hin
  go_enter Tryz.func29, Tryz.ntmps29
  go_wp2
  generalize w.alloc (.cells #[.slice A p.nodes.length c, .slice A2 p.rails.length c2] 25) = W1 at *
  go_loopw [9, 10, 11] (fun v s i wr => ∃ k : Nat, k ≤ l.length ∧ i = .int .i64 k ∧ s = .int .i64 (wlen p ((l.take k).map endNo)) ∧ Own wr W1.heap.size 66 3 fC v (covTo p (l.map endNo) (front - len) front k) ∧ Below W1.heap.size W1 wr) (fun _ _ i _ => l.length - (intOf i).toNat)
  case atStart => exact ⟨0, Nat.zero_le _, rfl, by simp [wlen], by simp only [covTo, List.range_zero, List.flatMap_nil]; exact Own.nil _ _ _ _ _, Below.refl _ _⟩
  case round =>
    obtain ⟨k, hk, rfl, rfl, ho, hb⟩ := hrel
    have hzw := hb.size
    have ha0 : w.heap.size < W1.heap.size := by omega
    have k0 := (hb.cell (p := ⟨w.heap.size, 0, none⟩) ha0).trans (HX.out 0)
    have k1 := (hb.cell (p := ⟨w.heap.size, 1, none⟩) ha0).trans (HX.out 1)
    simp only [List.getElem?_toArray, List.getElem?_cons_zero, List.getElem?_cons_succ] at k0 k1
    have hr0 : w.heap.size < wr.heap.size := by omega
    have HO := Lib.hid ho; have HBR := Lib.hid hb
    have HPw := Lib.hid ((HP1.out.below hb).more hzw)
    have HAw := Lib.hid ((HA.out.below hb).more (fun _ _ h => h) hzw)
    clear ho hb
    by_cases hlt : k < l.length
    · have hk0 : (0 : Int) ≤ (k : Int) := by omega
      have hk1 : (k : Int) < (l.length : Int) := by omega
      obtain ⟨b1, o1, e1, g1, q0, q1⟩ := end_at HAw.out hlt
      have hs1 := wlen_snoc (p := p) hlt
      have hri := HI.out k hlt
      have hcs := covTo_succ p (l.map endNo) (front - len) front (k := k) (by simpa using hlt)
      rw [List.getElem_map, ← List.map_take] at hcs
      obtain ⟨⟨mr, ml⟩, hx⟩ : ∃ x, l[k] = x := ⟨_, rfl⟩
      rw [hx] at q0 q1 hs1 hri hcs
      have HRI := Lib.hid hri
      have hbx := wlen_take_bd HV.out l k (by omega)
      have hby := lenAt_bd HV.out mr
      have hcl := covTo_len p (l.map endNo) (front - len) front k
      have hhf := endNo_half ⟨mr, ml⟩
      have hod := endNo_odd ⟨mr, ml⟩
      obtain ⟨s, hX⟩ : ∃ x, wlen p ((l.take k).map endNo) = x := ⟨_, rfl⟩
      obtain ⟨y, hY⟩ : ∃ x, lenAt p mr = x := ⟨_, rfl⟩
      rw [hX] at hbx hs1 hcs ⊢
      simp only [hY] at hby hs1
      have HS1 := Lib.hid hs1; have HY := Lib.hid hY
      have hx0 := hbx.1; have hx1 := hbx.2; have hy0 := hby.1; have hy1 := hby.2
      have HCS := Lib.hid (show covTo p (l.map endNo) (front - len) front (k + 1) = covTo p (l.map endNo) (front - len) front k ++ (if max (front - len - s) 0 ≥ min (front - s) y then [] else if ml = true then [⟨mr, y - min (front - s) y, y - max (front - len - s) 0⟩] else [⟨mr, max (front - len - s) 0, min (front - s) y⟩]) by
        rw [hcs]
        unfold covOne
        rw [hhf]
        simp only [hY]
        rw [hod]
        cases ml <;> simp)
      subst e1
      clear hx hX hY hs1 hri hbx hby hcs hhf hod
      go_upto_region 6 with (fail)
      go_cut [12] from 15 to 27 (fun s12 wx => s12 = .int .i64 y ∧ Below wr.heap.size wr wx)
      case first =>
        have hbq : Below wr.heap.size wr wr.drew := (Below.refl _ _).drew
        first
          | (go_region_held3 (fun w' => w'.cell? ⟨w.heap.size, 0, none⟩ = some (.slice A p.nodes.length c) ∧ w'.cell? ⟨w.heap.size, 1, none⟩ = some (.slice A2 p.rails.length c2) ∧ w'.cell? ⟨b1, o1 + k * 2, none⟩ = some (.int .i64 mr))
              (exact ⟨(hbq.cell (p := ⟨w.heap.size, 0, none⟩) hr0).trans k0, (hbq.cell (p := ⟨w.heap.size, 1, none⟩) hr0).trans k1, (hbq.cell (p := ⟨b1, o1 + k * 2, none⟩) g1).trans q0⟩)
              ((first
                | (go_at_call 35; have hpw := (HPw.out.below hbq).more hbq.size; have hlc := rLength_in A A2 c c2 p mr _ hpw HV.out HRI.out; rw [HY.out] at hlc; (with_reducible refine hlc.mono ?_); rintro e w5 ⟨rfl, hb5⟩; replace hbq := hbq.trans (hb5.mono hbq.size)))))
          | fail "held3"
        all_goals
          go_wp2_with fail
          go_meet
          exact ⟨rfl, hbq⟩
      case rest =>
      obtain ⟨rfl, hbq⟩ := hcut
      have hzc := hbq.size
      replace q0 := (hbq.cell (p := ⟨b1, o1 + k * 2, none⟩) g1).trans q0
      replace q1 := (hbq.cell (p := ⟨b1, o1 + k * 2 + 1, none⟩) g1).trans q1
      have HO2 := Lib.hid (HO.out.below hbq (Nat.le_refl _))
      have HB2 := Lib.hid (HBR.out.trans (hbq.mono hzw))
      clear hbq HO HBR k0 k1
      have hzw2 : W1.heap.size ≤ wc.heap.size := by omega
      obtain ⟨a, ha⟩ : ∃ x, max (front - len) s = x := ⟨_, rfl⟩
      obtain ⟨b, hb⟩ : ∃ x, min front (s + y) = x := ⟨_, rfl⟩
      have ha1 : s ≤ a := by omega
      have ha2 : a ≤ 20000000000000 := by omega
      have hb1 : b ≤ 10000000000000 := by omega
      have hb2 : 0 ≤ b := by omega
      have HAB := Lib.hid (show max (front - len - s) 0 = a - s ∧ min (front - s) y = b - s by omega)
      rw [HAB.out.1, HAB.out.2] at HCS
      by_cases c3 : a - s ≥ b - s
      · have d3 : decide (b - s ≤ a - s) = true := by rw [decide_eq_true_iff]; exact c3
        have d5 : b ≤ a := by omega
        have HC := Lib.hid (show covTo p (l.map endNo) (front - len) front (k + 1) = covTo p (l.map endNo) (front - len) front k by rw [HCS.out, if_pos c3]; simp)
        go_wp2
        go_roundw
        case rel => exact ⟨k + 1, by omega, by go_num, by rw [HS1.out], by rw [HC.out]; exact HO2.out, HB2.out⟩
        case measure => simp [intOf]; omega
      have d3 : decide (b - s ≤ a - s) = false := by rw [decide_eq_false_iff_not]; exact c3
      have d5 : decide (b ≤ a) = false := by rw [decide_eq_false_iff_not]; omega
      have d6 : ¬ b ≤ a := by omega
      have HC0 := Lib.hid (HCS.out.trans (by rw [if_neg c3]))
      clear c3
      cases ml
      · have HC := Lib.hid (show covTo p (l.map endNo) (front - len) front (k + 1) = covTo p (l.map endNo) (front - len) front k ++ [⟨mr, a - s, b - s⟩] by rw [HC0.out]; rfl)
        go_wp2_with (at_builtin; go_must (refine wpList_app _ rfl (.tmp 59) (.tmp 68) _ rfl W1.heap.size 66 i0 _ 3 24 Tryz.underlying46 hi hz0 hz1 hz2 rfl (by omega) fC_len fC_one u9 _ rfl (HO2.out.alloc _) _ _ [(⟨mr, a - s, b - s⟩ : C3)] 1 rfl (Sl.new _ _ (⟨mr, a - s, b - s⟩ : C3) _ rfl) (by unfold maxLen; simp only [List.length_cons, List.length_nil]; omega) (by simp only [List.length_cons, List.length_nil]; omega) (by simp; omega) (fun _ => .inr ⟨_, rfl⟩) ?_); intro v2 w2 o2 gr2 at2 ne2)
        go_roundw
        case rel => exact ⟨k + 1, by omega, by go_num, by rw [HS1.out], by rw [HC.out]; exact o2, (HB2.out.alloc (by omega) _).grown gr2 (by simp; omega) (fun k hk => (HO2.out.lt k hk).1)⟩
        case measure => simp [intOf]; omega
      · have HC := Lib.hid (show covTo p (l.map endNo) (front - len) front (k + 1) = covTo p (l.map endNo) (front - len) front k ++ [⟨mr, y - (b - s), y - (a - s)⟩] by rw [HC0.out]; rfl)
        go_wp2_with (at_builtin; go_must (refine wpList_app _ rfl (.tmp 59) (.tmp 68) _ rfl W1.heap.size 66 i0 _ 3 24 Tryz.underlying46 hi hz0 hz1 hz2 rfl (by omega) fC_len fC_one u9 _ rfl (HO2.out.alloc _) _ _ [(⟨mr, y - (b - s), y - (a - s)⟩ : C3)] 1 rfl (Sl.new _ _ (⟨mr, y - (b - s), y - (a - s)⟩ : C3) _ rfl) (by unfold maxLen; simp only [List.length_cons, List.length_nil]; omega) (by simp only [List.length_cons, List.length_nil]; omega) (by simp; omega) (fun _ => .inr ⟨_, rfl⟩) ?_); intro v2 w2 o2 gr2 at2 ne2)
        go_roundw
        case rel => exact ⟨k + 1, by omega, by go_num, by rw [HS1.out], by rw [HC.out]; exact o2, (HB2.out.alloc (by omega) _).grown gr2 (by simp; omega) (fun k hk => (HO2.out.lt k hk).1)⟩
        case measure => simp [intOf]; omega
    · obtain rfl : k = l.length := by omega
      have ho2 := HO.out
      rw [show covTo p (l.map endNo) (front - len) front l.length = covL p (l.map endNo) (front - len) front by unfold covL; rw [List.length_map]] at ho2
      obtain ⟨B9, d9, rfl, _, _, _⟩ := ho2.form
      have HS9 := Lib.hid ((ho2.sl fC_len rfl).keep (w' := wr) (fun _ _ h => h) fun _ _ => rfl)
      have HBZ := Lib.hid (HB0.out.trans (HBR.out.mono (by omega)))
      clear ho2 HO
      go_wp2
      go_ret
      exact ⟨⟨_, _, rfl, HS9.out⟩, HBZ.out⟩


theorem cov_sum {p : Pl} (hv : Vld p) (l : List Int) (fr tt : Int) (h0 : 0 ≤ fr) (h1 : fr ≤ tt) : ∀ k, k ≤ l.length → ((covTo p l fr tt k).map fun c => c.«to» - c.frm).sum = max 0 (min tt (wlen p (l.take k)) - fr) := by
  intro k
  induction k with
  | zero => intro _; simp [covTo, wlen]; omega
  | succ k ih =>
    intro hk
    have ih := ih (by omega)
    rw [covTo_succ p l fr tt (by omega), List.map_append, List.sum_append, ih, wlen_succ p l (by omega)]
    have hy := lenAt_bd hv (l[k] / 2)
    unfold covOne
    generalize wlen p (l.take k) = s
    generalize lenAt p (l[k] / 2) = y at *
    split
    · simp; omega
    · split
      · simp; omega
      · simp; omega
theorem cov_bd {p : Pl} (hv : Vld p) (l : List Int) (fr tt : Int) : ∀ c ∈ covL p l fr tt, 0 ≤ c.frm ∧ c.frm ≤ c.«to» ∧ c.«to» ≤ 1107296256 := by
  intro c hc
  unfold covL covTo at hc
  obtain ⟨j, _, hj⟩ := List.mem_flatMap.1 hc
  have hy := lenAt_bd hv (((l[j]?).getD 0) / 2)
  unfold covOne at hj
  generalize lenAt p (((l[j]?).getD 0) / 2) = y at *
  split at hj
  · cases hj
  · split at hj
    · simp at hj; subst hj; simp only; omega
    · simp at hj; subst hj; simp only; omega

section
variable (A A2 A3 : Option Addr) (c c2 c3 : Nat) (p : Pl) (l : List E) (w : World)
set_option maxRecDepth 100000 in
set_option maxHeartbeats 1000000 in
theorem Settings_noW (hP : PlAt w w.heap.size A c A2 c2 p) (hA : Sl w w.heap.size 2 CE A3 l) (hl : l.length ≤ 140737488351232) (hn : ¬ (Vld p ∧ wayOk p l)) :
    Calls Tryz.prog 16 #[.agg #[.slice A p.nodes.length c, .slice A2 p.rails.length c2], .slice A3 l.length c3] w (PlainPost (.tuple #[.slice none 0 0, .int .i64 2]) w) := by
  have HP := Lib.hid (hP.box (.cells #[.slice A p.nodes.length c, .slice A2 p.rails.length c2] 25))
  have hB0 := (Below.refl w.heap.size w).alloc (Nat.le_refl _) (.cells #[.slice A p.nodes.length c, .slice A2 p.rails.length c2] 25)
  have HA := Lib.hid ((hA.below hB0).more (fun _ _ h => h) hB0.size)
  have HB0 := Lib.hid hB0
  have HN := Lib.hid hn
  clear hP hA hB0 hn
  go_enter Tryz.func16, Tryz.ntmps16
  go_wp2_with fail
  refine (surveyWay_any A A2 A3 c c2 c3 p l _ HP.out HA.out hl).mono ?_
  rintro e w1 ⟨⟨hv, hw, g, v, rfl, hN, ho⟩ | ⟨hw, x, rfl⟩, hb⟩
  · exact absurd ⟨hv, hw⟩ HN.out
  · have HB := Lib.hid (HB0.out.trans (hb.mono (by simp)))
    clear hw hb
    go_wp2
    go_ret2
    exact ⟨rfl, HB.out⟩
variable (front len : Int)
def WaysC : Prop := Calls Tryz.prog 4 #[.agg #[.slice A p.nodes.length c, .slice A2 p.rails.length c2], .slice A3 l.length c3, .int .i64 front, .int .i64 len] w fun e w' => e = .returned (.bool true) ∧ Below w.heap.size w w'
set_option maxRecDepth 100000 in
set_option maxHeartbeats 4000000 in
theorem Ways_big (hP : PlAt w w.heap.size A c A2 c2 p) (hA : Sl w w.heap.size 2 CE A3 l) (hs : smallB p = false) : WaysC A A2 A3 c c2 c3 p l w front len := by
  have H1 := Lib.hid (Pst.start hP hA)
  have HS := Lib.hid hs
  clear hP hA hs
  unfold WaysC
  go_enter Tryz.func4, Tryz.ntmps4
  go_wp2_with fail
  refine (small_any A A2 c c2 p _ H1.out.pl).mono ?_
  rintro e w2 ⟨rfl, hb2⟩
  rw [HS.out]
  have H2 := Lib.hid (H1.out.next hb2)
  clear hb2
  go_wp2_with fail
  refine (known_any _).mono ?_
  rintro e w3 ⟨rfl, hb3⟩
  have H3 := Lib.hid (H2.out.next hb3)
  clear hb3
  go_wp2
  go_ret
  exact ⟨rfl, H3.out.be⟩

set_option maxRecDepth 100000 in
set_option maxHeartbeats 4000000 in
theorem Ways_not (hP : PlAt w w.heap.size A c A2 c2 p) (hA : Sl w w.heap.size 2 CE A3 l) (hs : smallB p = true) (hv : ¬ Vld p) : WaysC A A2 A3 c c2 c3 p l w front len := by
  have H1 := Lib.hid (Pst.start hP hA)
  have HS := Lib.hid hs; have HV := Lib.hid (valB_no hv)
  clear hP hA hs hv
  unfold WaysC
  go_enter Tryz.func4, Tryz.ntmps4
  go_wp2_with fail
  refine (small_any A A2 c c2 p _ H1.out.pl).mono ?_
  rintro e w2 ⟨rfl, hb2⟩
  rw [HS.out]
  have H2 := Lib.hid (H1.out.next hb2)
  clear hb2 H1
  obtain ⟨k0, k1, _, _, _, _⟩ := H2.out
  go_wp2_with fail
  refine (HV.out A A2 c c2 _ H2.out.pl).mono ?_
  rintro e w3 ⟨rfl, hb3⟩
  have H3 := Lib.hid (H2.out.next hb3)
  clear hb3 H2 k0 k1
  go_wp2_with fail
  refine (known_any _).mono ?_
  rintro e w4 ⟨rfl, hb4⟩
  have H4 := Lib.hid (H3.out.next hb4)
  clear hb4 H3
  go_wp2
  go_ret
  exact ⟨rfl, H4.out.be⟩

set_option maxRecDepth 100000 in
set_option maxHeartbeats 4000000 in
theorem Ways_long (hP : PlAt w w.heap.size A c A2 c2 p) (hA : Sl w w.heap.size 2 CE A3 l) (hs : smallB p = true) (hv : Vld p) (h1 : 30 < l.length) (h2 : l.length ≤ 2000) : WaysC A A2 A3 c c2 c3 p l w front len := by
  have H1 := Lib.hid (Pst.start hP hA)
  have HS := Lib.hid hs; have HV := Lib.hid (valB_yes hv)
  have d1 : (30 : Int) < (l.length : Int) := by omega
  have d2 : (l.length : Int) ≤ 2000 := by omega
  clear hP hA hs hv
  unfold WaysC
  go_enter Tryz.func4, Tryz.ntmps4
  go_wp2_with fail
  refine (small_any A A2 c c2 p _ H1.out.pl).mono ?_
  rintro e w2 ⟨rfl, hb2⟩
  rw [HS.out]
  have H2 := Lib.hid (H1.out.next hb2)
  clear hb2 H1
  obtain ⟨k0, k1, _, _, _, _⟩ := H2.out
  go_wp2_with fail
  refine (HV.out A A2 c c2 _ H2.out.pl).mono ?_
  rintro e w3 ⟨rfl, hb3⟩
  have H3 := Lib.hid (H2.out.next hb3)
  clear hb3 H2 k0 k1
  go_wp2_with fail
  refine (known_any _).mono ?_
  rintro e w4 ⟨rfl, hb4⟩
  have H4 := Lib.hid (H3.out.next hb4)
  clear hb4 H3
  go_wp2
  go_ret
  exact ⟨rfl, H4.out.be⟩

set_option maxRecDepth 100000 in
set_option maxHeartbeats 4000000 in
theorem Ways_far (hP : PlAt w w.heap.size A c A2 c2 p) (hA : Sl w w.heap.size 2 CE A3 l) (hs : smallB p = true) (hv : Vld p) (h1 : 2100 < l.length) : WaysC A A2 A3 c c2 c3 p l w front len := by
  have H1 := Lib.hid (Pst.start hP hA)
  have HS := Lib.hid hs; have HV := Lib.hid (valB_yes hv)
  have d1 : (30 : Int) < (l.length : Int) := by omega
  have d2 : ¬ (l.length : Int) ≤ 2000 := by omega
  have d4 : decide ((l.length : Int) ≤ 2000) = false := by simp; omega
  have d5 : decide (l.length ≤ 2000) = false := by simp; omega
  have d3 : (2100 : Int) < (l.length : Int) := by omega
  clear hP hA hs hv
  unfold WaysC
  go_enter Tryz.func4, Tryz.ntmps4
  go_wp2_with fail
  refine (small_any A A2 c c2 p _ H1.out.pl).mono ?_
  rintro e w2 ⟨rfl, hb2⟩
  rw [HS.out]
  have H2 := Lib.hid (H1.out.next hb2)
  clear hb2 H1
  obtain ⟨k0, k1, _, _, _, _⟩ := H2.out
  go_wp2_with fail
  refine (HV.out A A2 c c2 _ H2.out.pl).mono ?_
  rintro e w3 ⟨rfl, hb3⟩
  have H3 := Lib.hid (H2.out.next hb3)
  clear hb3 H2 k0 k1
  go_wp2_with fail
  refine (known_any _).mono ?_
  rintro e w4 ⟨rfl, hb4⟩
  have H4 := Lib.hid (H3.out.next hb4)
  clear hb4 H3
  go_wp2
  go_ret
  exact ⟨rfl, H4.out.be⟩

set_option maxRecDepth 100000 in
set_option maxHeartbeats 4000000 in
theorem Ways_bad (hP : PlAt w w.heap.size A c A2 c2 p) (hA : Sl w w.heap.size 2 CE A3 l) (hs : smallB p = true) (hv : Vld p) (hll : l.length ≤ 30 ∨ 2000 < l.length ∧ l.length ≤ 2100) (hw : ¬ wayOk p l) : WaysC A A2 A3 c c2 c3 p l w front len := by
  have hn3 : ¬ (Vld p ∧ wayOk p l) := fun h => hw h.2
  have hl9 : l.length ≤ 140737488351232 := by omega
  have C15 := Lib.hid (show ∀ w : World, PlAt w w.heap.size A c A2 c2 p → Sl w w.heap.size 2 CE A3 l → Calls Tryz.prog 15 #[.agg #[.slice A p.nodes.length c, .slice A2 p.rails.length c2], .slice A3 l.length c3] w fun e w' => e = .returned (.tuple #[.int .i64 0, .int .i64 2]) ∧ Below w.heap.size w w' from fun w hP hA => by
    refine (WayLength_any A A2 A3 c c2 c3 p l w hP hA hl9).mono fun e w' h => ?_
    obtain ⟨⟨h1, h2, _⟩ | ⟨_, rfl⟩, hb⟩ := h
    · exact (hw h2).elim
    · exact ⟨rfl, hb⟩)
  have C16 := Lib.hid (show ∀ w : World, PlAt w w.heap.size A c A2 c2 p → Sl w w.heap.size 2 CE A3 l → Calls Tryz.prog 16 #[.agg #[.slice A p.nodes.length c, .slice A2 p.rails.length c2], .slice A3 l.length c3] w fun e w' => e = .returned (.tuple #[.slice none 0 0, .int .i64 2]) ∧ Below w.heap.size w w' from fun w hP hA => by
    exact Settings_noW A A2 A3 c c2 c3 p l w hP hA hl9 hn3)
  have C17 := Lib.hid (show ∀ w : World, PlAt w w.heap.size A c A2 c2 p → Sl w w.heap.size 2 CE A3 l → Calls Tryz.prog 17 #[.agg #[.slice A p.nodes.length c, .slice A2 p.rails.length c2], .slice A3 l.length c3, .int .i64 front, .int .i64 len] w fun e w' => e = .returned (.tuple #[.slice none 0 0, .int .i64 2]) ∧ Below w.heap.size w w' from fun w hP hA => by
    refine (Covers_any A A2 A3 c c2 c3 p l front len w hP hA hl9).mono fun e w' h => ?_
    obtain ⟨⟨h1, _⟩ | ⟨_, rfl⟩, hb⟩ := h
    · exact (hw h1.2.1).elim
    · exact ⟨rfl, hb⟩)
  have C24 := Lib.hid (show ∀ w : World, PlAt w w.heap.size A c A2 c2 p → Sl w w.heap.size 2 CE A3 l → Calls Tryz.prog 24 #[.agg #[.slice A p.nodes.length c, .slice A2 p.rails.length c2], .slice A3 l.length c3] w fun e w' => e = .returned (.bool false) ∧ Below w.heap.size w w' from fun w hP hA => by
    refine (rWay_any A A2 A3 c c2 c3 p l w hP hv hA hl9).mono fun e w' h => ?_
    obtain ⟨⟨b', h1, h2⟩, h3⟩ := h
    cases b'
    · exact ⟨h1, h3⟩
    · exact (hw (h2.1 rfl)).elim)
  have H1 := Lib.hid (Pst.start hP hA)
  have HS := Lib.hid hs; have HV := Lib.hid (valB_yes hv); have HVV := Lib.hid hv
  have HLN := Lib.hid hll
  clear hP hA hs hv hll hw hn3 hl9
  unfold WaysC
  go_enter Tryz.func4, Tryz.ntmps4
  go_upto_region 1 with (fail)
  generalize w.alloc (.cells #[.slice A p.nodes.length c, .slice A2 p.rails.length c2] 25) = W1 at *
  go_cut [39] from 17 to 39 (fun s39 wx => s39 = .bool false ∧ Below W1.heap.size W1 wx)
  case first =>
    obtain ⟨k0, k1, _, _, _, _⟩ := H1.out
    go_wp2_with fail
    refine (small_any A A2 c c2 p _ H1.out.pl).mono ?_
    rintro e w2 ⟨rfl, hb2⟩
    rw [HS.out]
    have H2 := Lib.hid (H1.out.next hb2)
    have HB2 := Lib.hid hb2
    clear hb2 k0 k1
    obtain ⟨k0, k1, _, _, _, _⟩ := H2.out
    go_wp2_with fail
    refine (HV.out A A2 c c2 _ H2.out.pl).mono ?_
    rintro e w3 ⟨rfl, hb3⟩
    have HB3 := Lib.hid (HB2.out.trans (hb3.mono HB2.out.size))
    clear hb3 H2 k0 k1
    rcases HLN.out with h30 | ⟨h20, h21⟩
    · have d1 : decide ((30 : Int) < (l.length : Int)) = false := by simp; omega
      have d2 : decide (30 < l.length) = false := by simp; omega
      have d3 : decide ((2100 : Int) < (l.length : Int)) = false := by simp; omega
      have d4 : decide (2100 < l.length) = false := by simp; omega
      go_wp2_with fail
      go_meet
      exact ⟨rfl, HB3.out⟩
    · have d1 : (30 : Int) < (l.length : Int) := by omega
      have d2 : decide ((l.length : Int) ≤ 2000) = false := by simp; omega
      have d5 : decide (l.length ≤ 2000) = false := by simp; omega
      have d3 : decide ((2100 : Int) < (l.length : Int)) = false := by simp; omega
      have d4 : decide (2100 < l.length) = false := by simp; omega
      go_wp2_with fail
      go_meet
      exact ⟨rfl, HB3.out⟩
  case rest =>
  obtain ⟨rfl, hb⟩ := hcut
  have HA0 := Lib.hid (H1.out.next hb)
  clear hb H1
  obtain ⟨k0, k1, _, _, _, _⟩ := HA0.out
  go_wp2_with fail
  refine (C15.out _ HA0.out.pl HA0.out.sl).mono ?_
  rintro e w10 ⟨rfl, hb10⟩
  have HN10 := Lib.hid (HA0.out.next hb10)
  clear hb10 HA0 k0 k1
  obtain ⟨k0, k1, _, _, _, _⟩ := HN10.out
  go_wp2_with fail
  refine (C16.out _ HN10.out.pl HN10.out.sl).mono ?_
  rintro e w11 ⟨rfl, hb11⟩
  have HN11 := Lib.hid (HN10.out.next hb11)
  clear hb11 HN10 k0 k1
  obtain ⟨k0, k1, _, _, _, _⟩ := HN11.out
  go_wp2_with fail
  refine (C17.out _ HN11.out.pl HN11.out.sl).mono ?_
  rintro e w12 ⟨rfl, hb12⟩
  have HN12 := Lib.hid (HN11.out.next hb12)
  clear hb12 HN11 k0 k1
  obtain ⟨k0, k1, _, _, _, _⟩ := HN12.out
  go_wp2_with fail
  refine (C24.out _ HN12.out.pl HN12.out.sl).mono ?_
  rintro e w13 ⟨rfl, hb13⟩
  have HN13 := Lib.hid (HN12.out.next hb13)
  clear hb13 HN12 k0 k1
  go_wp2_with fail
  refine (known_any _).mono ?_
  rintro e wz ⟨rfl, hbz⟩
  have HZ := Lib.hid (HN13.out.next hbz)
  clear hbz
  go_wp2
  go_ret
  exact ⟨rfl, HZ.out.be⟩

set_option maxRecDepth 100000 in
set_option maxHeartbeats 4000000 in
theorem Ways_err (hP : PlAt w w.heap.size A c A2 c2 p) (hA : Sl w w.heap.size 2 CE A3 l) (hs : smallB p = true) (hv : Vld p) (hll : l.length ≤ 30 ∨ 2000 < l.length ∧ l.length ≤ 2100) (hw : wayOk p l) (hc : len < 1 ∨ front < len ∨ wlen p (l.map endNo) < front) : WaysC A A2 A3 c c2 c3 p l w front len := by
  have hl9 : l.length ≤ 140737488351232 := by omega
  have hl20 := hw.2.1
  have hin : ∀ j (hj : j < l.length), railIn p l[j].rail = true := fun j hj => by have := (hw.2.2 j hj).1; rwa [E1_eq hj] at this
  obtain ⟨L, hL⟩ : ∃ x, wlen p (l.map endNo) = x := ⟨_, rfl⟩
  obtain ⟨ss, hss⟩ : ∃ x, setsTo p l l.length = x := ⟨_, rfl⟩
  have hssl : ss.length ≤ 2000 := by rw [← hss]; have := setsTo_len p l l.length; omega
  have C15 := Lib.hid (show ∀ w : World, PlAt w w.heap.size A c A2 c2 p → Sl w w.heap.size 2 CE A3 l → Calls Tryz.prog 15 #[.agg #[.slice A p.nodes.length c, .slice A2 p.rails.length c2], .slice A3 l.length c3] w fun e w' => e = .returned (.tuple #[.int .i64 L, .int .i64 0]) ∧ Below w.heap.size w w' from fun w hP hA => by
    refine (WayLength_any A A2 A3 c c2 c3 p l w hP hA hl9).mono fun e w' h => ?_
    obtain ⟨⟨h1, h2, rfl⟩ | ⟨h1, _⟩, hb⟩ := h
    · exact ⟨by rw [hL], hb⟩
    · exact (h1 ⟨hv, hw⟩).elim)
  have C16 := Lib.hid (show ∀ w : World, PlAt w w.heap.size A c A2 c2 p → Sl w w.heap.size 2 CE A3 l → Calls Tryz.prog 16 #[.agg #[.slice A p.nodes.length c, .slice A2 p.rails.length c2], .slice A3 l.length c3] w fun e w' => (∃ B d, e = .returned (.tuple #[.slice B ss.length d, .int .i64 0]) ∧ Sl w' w'.heap.size 2 CS B ss) ∧ Below w.heap.size w w' from fun w hP hA => by
    have := Settings_in A A2 A3 c c2 c3 p l w hP hA hv hw
    unfold SetsPost at this
    rwa [hss] at this)
  have C17 := Lib.hid (show ∀ w : World, PlAt w w.heap.size A c A2 c2 p → Sl w w.heap.size 2 CE A3 l → Calls Tryz.prog 17 #[.agg #[.slice A p.nodes.length c, .slice A2 p.rails.length c2], .slice A3 l.length c3, .int .i64 front, .int .i64 len] w fun e w' => e = .returned (.tuple #[.slice none 0 0, .int .i64 2]) ∧ Below w.heap.size w w' from fun w hP hA => by
    refine (Covers_any A A2 A3 c c2 c3 p l front len w hP hA hl9).mono fun e w' h => ?_
    obtain ⟨⟨h1, _⟩ | ⟨_, rfl⟩, hb⟩ := h
    · have h3 := h1.2.2; omega
    · exact ⟨rfl, hb⟩)
  have C24 := Lib.hid (show ∀ w : World, PlAt w w.heap.size A c A2 c2 p → Sl w w.heap.size 2 CE A3 l → Calls Tryz.prog 24 #[.agg #[.slice A p.nodes.length c, .slice A2 p.rails.length c2], .slice A3 l.length c3] w fun e w' => e = .returned (.bool true) ∧ Below w.heap.size w w' from fun w hP hA => by
    refine (rWay_any A A2 A3 c c2 c3 p l w hP hv hA hl9).mono fun e w' h => ?_
    obtain ⟨⟨b', h1, h2⟩, h3⟩ := h
    exact ⟨by rw [h1, h2.2 hw], h3⟩)
  have C25 := Lib.hid (show ∀ w : World, PlAt w w.heap.size A c A2 c2 p → Sl w w.heap.size 2 CE A3 l → Calls Tryz.prog 25 #[.agg #[.slice A p.nodes.length c, .slice A2 p.rails.length c2], .slice A3 l.length c3] w fun e w' => e = .returned (.int .i64 L) ∧ Below w.heap.size w w' from fun w hP hA => by
    have := rWayLength_any A A2 A3 c c2 c3 p l w hP hv hA hl20 hin
    rwa [hL] at this)
  have C27 := Lib.hid (show ∀ w : World, PlAt w w.heap.size A c A2 c2 p → Sl w w.heap.size 2 CE A3 l → Calls Tryz.prog 27 #[.agg #[.slice A p.nodes.length c, .slice A2 p.rails.length c2], .slice A3 l.length c3] w fun e w' => (∃ B d, e = .returned (.slice B ss.length d) ∧ Sl w' w'.heap.size 2 CS B ss) ∧ Below w.heap.size w w' from fun w hP hA => by
    have := rSettings_any A A2 A3 c c2 c3 p l w hP hA hv hw
    unfold RSetsPost at this
    rwa [hss] at this)
  have C26 := Lib.hid (show ∀ (B B2 : Option Addr) (d d2 : Nat) (w : World), Sl w w.heap.size 2 CS B ss → Sl w w.heap.size 2 CS B2 ss → Calls Tryz.prog 26 #[.slice B ss.length d, .slice B2 ss.length d2] w fun e w' => e = .returned (.bool true) ∧ Below w.heap.size w w' from fun B B2 d d2 w h1 h2 =>
    (sameSettings_any B B2 ss ss d d2 w h1 h2 (by omega)).mono fun e w' ⟨⟨b, h1, h2⟩, h3⟩ => ⟨by rw [h1, h2.2 rfl], h3⟩)
  have H1 := Lib.hid (Pst.start hP hA)
  have HS := Lib.hid hs; have HV := Lib.hid (valB_yes hv); have HVV := Lib.hid hv
  have HLN := Lib.hid hll
  rw [hL] at hc
  have HC := Lib.hid hc
  clear hP hA hs hv hll hw hl9 hl20 hin hL hss hc
  unfold WaysC
  go_enter Tryz.func4, Tryz.ntmps4
  go_upto_region 1 with (fail)
  generalize w.alloc (.cells #[.slice A p.nodes.length c, .slice A2 p.rails.length c2] 25) = W1 at *
  go_cut [39] from 17 to 39 (fun s39 wx => s39 = .bool false ∧ Below W1.heap.size W1 wx)
  case first =>
    obtain ⟨k0, k1, _, _, _, _⟩ := H1.out
    go_wp2_with fail
    refine (small_any A A2 c c2 p _ H1.out.pl).mono ?_
    rintro e w2 ⟨rfl, hb2⟩
    rw [HS.out]
    have H2 := Lib.hid (H1.out.next hb2)
    have HB2 := Lib.hid hb2
    clear hb2 k0 k1
    obtain ⟨k0, k1, _, _, _, _⟩ := H2.out
    go_wp2_with fail
    refine (HV.out A A2 c c2 _ H2.out.pl).mono ?_
    rintro e w3 ⟨rfl, hb3⟩
    have HB3 := Lib.hid (HB2.out.trans (hb3.mono HB2.out.size))
    clear hb3 H2 k0 k1
    rcases HLN.out with h30 | ⟨h20, h21⟩
    · have d1 : decide ((30 : Int) < (l.length : Int)) = false := by simp; omega
      have d2 : decide (30 < l.length) = false := by simp; omega
      have d3 : decide ((2100 : Int) < (l.length : Int)) = false := by simp; omega
      have d4 : decide (2100 < l.length) = false := by simp; omega
      go_wp2_with fail
      go_meet
      exact ⟨rfl, HB3.out⟩
    · have d1 : (30 : Int) < (l.length : Int) := by omega
      have d2 : decide ((l.length : Int) ≤ 2000) = false := by simp; omega
      have d5 : decide (l.length ≤ 2000) = false := by simp; omega
      have d3 : decide ((2100 : Int) < (l.length : Int)) = false := by simp; omega
      have d4 : decide (2100 < l.length) = false := by simp; omega
      go_wp2_with fail
      go_meet
      exact ⟨rfl, HB3.out⟩
  case rest =>
  obtain ⟨rfl, hb⟩ := hcut
  have HA0 := Lib.hid (H1.out.next hb)
  clear hb H1
  obtain ⟨k0, k1, _, _, _, _⟩ := HA0.out
  go_wp2_with fail
  refine (C15.out _ HA0.out.pl HA0.out.sl).mono ?_
  rintro e w10 ⟨rfl, hb10⟩
  have HN10 := Lib.hid (HA0.out.next hb10)
  clear hb10 HA0 k0 k1
  obtain ⟨k0, k1, _, _, _, _⟩ := HN10.out
  go_wp2_with fail
  refine (C16.out _ HN10.out.pl HN10.out.sl).mono ?_
  rintro e w11 ⟨⟨B9, d9, rfl, hs9⟩, hb11⟩
  have HN11 := Lib.hid (HN10.out.next hb11)
  have S9 := Lib.hid hs9
  clear hs9 hb11 HN10 k0 k1
  obtain ⟨k0, k1, _, _, _, _⟩ := HN11.out
  go_wp2_with fail
  refine (C17.out _ HN11.out.pl HN11.out.sl).mono ?_
  rintro e w12 ⟨rfl, hb12⟩
  have HN12 := Lib.hid (HN11.out.next hb12)
  replace S9 := Lib.hid ((S9.out.below hb12).more (fun _ _ h => h) hb12.size)
  clear hb12 HN11 k0 k1
  obtain ⟨k0, k1, _, _, _, _⟩ := HN12.out
  go_wp2_with fail
  refine (C24.out _ HN12.out.pl HN12.out.sl).mono ?_
  rintro e w13 ⟨rfl, hb13⟩
  have HN13 := Lib.hid (HN12.out.next hb13)
  replace S9 := Lib.hid ((S9.out.below hb13).more (fun _ _ h => h) hb13.size)
  clear hb13 HN12 k0 k1
  obtain ⟨k0, k1, _, _, _, _⟩ := HN13.out
  go_wp2_with fail
  refine (C25.out _ HN13.out.pl HN13.out.sl).mono ?_
  rintro e w14 ⟨rfl, hb14⟩
  have HN14 := Lib.hid (HN13.out.next hb14)
  replace S9 := Lib.hid ((S9.out.below hb14).more (fun _ _ h => h) hb14.size)
  clear hb14 HN13 k0 k1
  obtain ⟨k0, k1, _, _, _, _⟩ := HN14.out
  go_wp2_with fail
  refine (C27.out _ HN14.out.pl HN14.out.sl).mono ?_
  rintro e w15 ⟨⟨B7, d7, rfl, hs7⟩, hb15⟩
  have HN15 := Lib.hid (HN14.out.next hb15)
  replace S9 := Lib.hid ((S9.out.below hb15).more (fun _ _ h => h) hb15.size)
  have S7 := Lib.hid hs7
  clear hs7 hb15 HN14 k0 k1
  obtain ⟨k0, k1, _, _, _, _⟩ := HN15.out
  go_wp2_with fail
  refine (C26.out B9 B7 d9 d7 _ S9.out S7.out).mono ?_
  rintro e w16 ⟨rfl, hb16⟩
  have HN16 := Lib.hid (HN15.out.next hb16)
  clear hb16 HN15 k0 k1 S9 S7 C15 C16 C17 C24 C25 C27 C26
  rcases (show len < 1 ∨ (1 ≤ len ∧ front < len) ∨ (1 ≤ len ∧ len ≤ front ∧ L < front) by have := HC.out; omega) with h1 | ⟨h1, h2⟩ | ⟨h1, h2, h3⟩
  all_goals
    go_wp2_with fail
    refine (known_any _).mono ?_
    rintro e wz ⟨rfl, hbz⟩
    have HZ := Lib.hid (HN16.out.next hbz)
    clear hbz
    go_wp2
    go_ret
    exact ⟨rfl, HZ.out.be⟩

set_option maxRecDepth 100000 in
set_option maxHeartbeats 4000000 in
theorem Ways_in (hP : PlAt w w.heap.size A c A2 c2 p) (hA : Sl w w.heap.size 2 CE A3 l) (hs : smallB p = true) (hv : Vld p) (hll : l.length ≤ 30 ∨ 2000 < l.length ∧ l.length ≤ 2100) (hw : wayOk p l) (h1 : 1 ≤ len) (h2 : len ≤ front) (h3 : front ≤ wlen p (l.map endNo)) : WaysC A A2 A3 c c2 c3 p l w front len := by
  have hl9 : l.length ≤ 140737488351232 := by omega
  have hl20 := hw.2.1
  have hin : ∀ j (hj : j < l.length), railIn p l[j].rail = true := fun j hj => by have := (hw.2.2 j hj).1; rwa [E1_eq hj] at this
  obtain ⟨L, hL⟩ : ∃ x, wlen p (l.map endNo) = x := ⟨_, rfl⟩
  obtain ⟨ss, hss⟩ : ∃ x, setsTo p l l.length = x := ⟨_, rfl⟩
  have hssl : ss.length ≤ 2000 := by rw [← hss]; have := setsTo_len p l l.length; omega
  have hLb : L ≤ 2214592512000 := by rw [← hL]; have := wlen_take_bd hv l l.length hl20; rw [List.take_length] at this; exact this.2
  obtain ⟨cs, hcs⟩ : ∃ x, covL p (l.map endNo) (front - len) front = x := ⟨_, rfl⟩
  have hcsl : cs.length ≤ 2000 := by rw [← hcs]; have := covTo_len p (l.map endNo) (front - len) front (l.map endNo).length; simp only [covL, List.length_map] at this ⊢; omega
  have HCB := Lib.hid (show ∀ x ∈ cs, 0 ≤ x.frm ∧ x.frm ≤ x.«to» ∧ x.«to» ≤ 1107296256 by rw [← hcs]; exact cov_bd hv _ _ _)
  have HSUM := Lib.hid (show (cs.map fun x => x.«to» - x.frm).sum = len by
    rw [← hcs]
    have := cov_sum hv (l.map endNo) (front - len) front (by omega) (by omega) (l.map endNo).length (Nat.le_refl _)
    rw [List.take_length] at this
    unfold covL
    rw [this]; omega)
  have C15 := Lib.hid (show ∀ w : World, PlAt w w.heap.size A c A2 c2 p → Sl w w.heap.size 2 CE A3 l → Calls Tryz.prog 15 #[.agg #[.slice A p.nodes.length c, .slice A2 p.rails.length c2], .slice A3 l.length c3] w fun e w' => e = .returned (.tuple #[.int .i64 L, .int .i64 0]) ∧ Below w.heap.size w w' from fun w hP hA => by
    refine (WayLength_any A A2 A3 c c2 c3 p l w hP hA hl9).mono fun e w' h => ?_
    obtain ⟨⟨h1, h2, rfl⟩ | ⟨h1, _⟩, hb⟩ := h
    · exact ⟨by rw [hL], hb⟩
    · exact (h1 ⟨hv, hw⟩).elim)
  have C16 := Lib.hid (show ∀ w : World, PlAt w w.heap.size A c A2 c2 p → Sl w w.heap.size 2 CE A3 l → Calls Tryz.prog 16 #[.agg #[.slice A p.nodes.length c, .slice A2 p.rails.length c2], .slice A3 l.length c3] w fun e w' => (∃ B d, e = .returned (.tuple #[.slice B ss.length d, .int .i64 0]) ∧ Sl w' w'.heap.size 2 CS B ss) ∧ Below w.heap.size w w' from fun w hP hA => by
    have := Settings_in A A2 A3 c c2 c3 p l w hP hA hv hw
    unfold SetsPost at this
    rwa [hss] at this)
  have C17 := Lib.hid (show ∀ w : World, PlAt w w.heap.size A c A2 c2 p → Sl w w.heap.size 2 CE A3 l → Calls Tryz.prog 17 #[.agg #[.slice A p.nodes.length c, .slice A2 p.rails.length c2], .slice A3 l.length c3, .int .i64 front, .int .i64 len] w fun e w' => (∃ B d, e = .returned (.tuple #[.slice B cs.length d, .int .i64 0]) ∧ Sl w' w'.heap.size 3 CC B cs) ∧ Below w.heap.size w w' from fun w hP hA => by
    refine (Covers_any A A2 A3 c c2 c3 p l front len w hP hA hl9).mono fun e w' h => ?_
    obtain ⟨⟨_, v, rfl, ho⟩ | ⟨h4, _⟩, hb⟩ := h
    · rw [hcs] at ho
      obtain ⟨B, d, rfl, _, _, _⟩ := ho.form
      exact ⟨⟨B, d, rfl, (ho.sl fC_len rfl).keep (fun _ _ h => h) fun _ _ => rfl⟩, hb⟩
    · exact (h4 ⟨hv, hw, h1, h2, h3⟩).elim)
  have C24 := Lib.hid (show ∀ w : World, PlAt w w.heap.size A c A2 c2 p → Sl w w.heap.size 2 CE A3 l → Calls Tryz.prog 24 #[.agg #[.slice A p.nodes.length c, .slice A2 p.rails.length c2], .slice A3 l.length c3] w fun e w' => e = .returned (.bool true) ∧ Below w.heap.size w w' from fun w hP hA => by
    refine (rWay_any A A2 A3 c c2 c3 p l w hP hv hA hl9).mono fun e w' h => ?_
    obtain ⟨⟨b', h1, h2⟩, h3⟩ := h
    exact ⟨by rw [h1, h2.2 hw], h3⟩)
  have C25 := Lib.hid (show ∀ w : World, PlAt w w.heap.size A c A2 c2 p → Sl w w.heap.size 2 CE A3 l → Calls Tryz.prog 25 #[.agg #[.slice A p.nodes.length c, .slice A2 p.rails.length c2], .slice A3 l.length c3] w fun e w' => e = .returned (.int .i64 L) ∧ Below w.heap.size w w' from fun w hP hA => by
    have := rWayLength_any A A2 A3 c c2 c3 p l w hP hv hA hl20 hin
    rwa [hL] at this)
  have C27 := Lib.hid (show ∀ w : World, PlAt w w.heap.size A c A2 c2 p → Sl w w.heap.size 2 CE A3 l → Calls Tryz.prog 27 #[.agg #[.slice A p.nodes.length c, .slice A2 p.rails.length c2], .slice A3 l.length c3] w fun e w' => (∃ B d, e = .returned (.slice B ss.length d) ∧ Sl w' w'.heap.size 2 CS B ss) ∧ Below w.heap.size w w' from fun w hP hA => by
    have := rSettings_any A A2 A3 c c2 c3 p l w hP hA hv hw
    unfold RSetsPost at this
    rwa [hss] at this)
  have C26 := Lib.hid (show ∀ (B B2 : Option Addr) (d d2 : Nat) (w : World), Sl w w.heap.size 2 CS B ss → Sl w w.heap.size 2 CS B2 ss → Calls Tryz.prog 26 #[.slice B ss.length d, .slice B2 ss.length d2] w fun e w' => e = .returned (.bool true) ∧ Below w.heap.size w w' from fun B B2 d d2 w h1 h2 =>
    (sameSettings_any B B2 ss ss d d2 w h1 h2 (by omega)).mono fun e w' ⟨⟨b, h1, h2⟩, h3⟩ => ⟨by rw [h1, h2.2 rfl], h3⟩)
  have C29 := Lib.hid (show ∀ w : World, PlAt w w.heap.size A c A2 c2 p → Sl w w.heap.size 2 CE A3 l → Calls Tryz.prog 29 #[.agg #[.slice A p.nodes.length c, .slice A2 p.rails.length c2], .slice A3 l.length c3, .int .i64 front, .int .i64 len] w fun e w' => (∃ B d, e = .returned (.slice B cs.length d) ∧ Sl w' w'.heap.size 3 CC B cs) ∧ Below w.heap.size w w' from fun w hP hA => by
    have := rCovers_any A A2 A3 c c2 c3 p l front len w hP hA hv hl20 hin h1 h2 (by rw [hL] at h3; omega)
    unfold RCovPost at this
    rwa [hcs] at this)
  have C28 := Lib.hid (show ∀ (B B2 : Option Addr) (d d2 : Nat) (w : World), Sl w w.heap.size 3 CC B cs → Sl w w.heap.size 3 CC B2 cs → Calls Tryz.prog 28 #[.slice B cs.length d, .slice B2 cs.length d2] w fun e w' => e = .returned (.bool true) ∧ Below w.heap.size w w' from fun B B2 d d2 w h1 h2 =>
    (sameCovers_any B B2 cs cs d d2 w h1 h2 (by omega)).mono fun e w' ⟨⟨b, h1, h2⟩, h3⟩ => ⟨by rw [h1, h2.2 rfl], h3⟩)
  have H1 := Lib.hid (Pst.start hP hA)
  have HS := Lib.hid hs; have HV := Lib.hid (valB_yes hv); have HVV := Lib.hid hv
  have HLN := Lib.hid hll
  rw [hL] at h3
  clear hP hA hs hv hll hw hl9 hl20 hin hL hss hcs
  unfold WaysC
  go_enter Tryz.func4, Tryz.ntmps4
  go_upto_region 1 with (fail)
  generalize w.alloc (.cells #[.slice A p.nodes.length c, .slice A2 p.rails.length c2] 25) = W1 at *
  go_cut [39] from 17 to 39 (fun s39 wx => s39 = .bool false ∧ Below W1.heap.size W1 wx)
  case first =>
    obtain ⟨k0, k1, _, _, _, _⟩ := H1.out
    go_wp2_with fail
    refine (small_any A A2 c c2 p _ H1.out.pl).mono ?_
    rintro e w2 ⟨rfl, hb2⟩
    rw [HS.out]
    have H2 := Lib.hid (H1.out.next hb2)
    have HB2 := Lib.hid hb2
    clear hb2 k0 k1
    obtain ⟨k0, k1, _, _, _, _⟩ := H2.out
    go_wp2_with fail
    refine (HV.out A A2 c c2 _ H2.out.pl).mono ?_
    rintro e w3 ⟨rfl, hb3⟩
    have HB3 := Lib.hid (HB2.out.trans (hb3.mono HB2.out.size))
    clear hb3 H2 k0 k1
    rcases HLN.out with h30 | ⟨h20, h21⟩
    · have d1 : decide ((30 : Int) < (l.length : Int)) = false := by simp; omega
      have d2 : decide (30 < l.length) = false := by simp; omega
      have d3 : decide ((2100 : Int) < (l.length : Int)) = false := by simp; omega
      have d4 : decide (2100 < l.length) = false := by simp; omega
      go_wp2_with fail
      go_meet
      exact ⟨rfl, HB3.out⟩
    · have d1 : (30 : Int) < (l.length : Int) := by omega
      have d2 : decide ((l.length : Int) ≤ 2000) = false := by simp; omega
      have d5 : decide (l.length ≤ 2000) = false := by simp; omega
      have d3 : decide ((2100 : Int) < (l.length : Int)) = false := by simp; omega
      have d4 : decide (2100 < l.length) = false := by simp; omega
      go_wp2_with fail
      go_meet
      exact ⟨rfl, HB3.out⟩
  case rest =>
  obtain ⟨rfl, hb⟩ := hcut
  have HA0 := Lib.hid (H1.out.next hb)
  clear hb H1
  obtain ⟨k0, k1, _, _, _, _⟩ := HA0.out
  go_wp2_with fail
  refine (C15.out _ HA0.out.pl HA0.out.sl).mono ?_
  rintro e w10 ⟨rfl, hb10⟩
  have HN10 := Lib.hid (HA0.out.next hb10)
  clear hb10 HA0 k0 k1
  obtain ⟨k0, k1, _, _, _, _⟩ := HN10.out
  go_wp2_with fail
  refine (C16.out _ HN10.out.pl HN10.out.sl).mono ?_
  rintro e w11 ⟨⟨B9, d9, rfl, hs9⟩, hb11⟩
  have HN11 := Lib.hid (HN10.out.next hb11)
  have S9 := Lib.hid hs9
  clear hs9 hb11 HN10 k0 k1
  obtain ⟨k0, k1, _, _, _, _⟩ := HN11.out
  go_wp2_with fail
  refine (C17.out _ HN11.out.pl HN11.out.sl).mono ?_
  rintro e w12 ⟨⟨B8, d8, rfl, hs8⟩, hb12⟩
  have HN12 := Lib.hid (HN11.out.next hb12)
  replace S9 := Lib.hid ((S9.out.below hb12).more (fun _ _ h => h) hb12.size)
  have S8 := Lib.hid hs8
  clear hs8 hb12 HN11 k0 k1
  obtain ⟨k0, k1, _, _, _, _⟩ := HN12.out
  go_wp2_with fail
  refine (C24.out _ HN12.out.pl HN12.out.sl).mono ?_
  rintro e w13 ⟨rfl, hb13⟩
  have HN13 := Lib.hid (HN12.out.next hb13)
  replace S9 := Lib.hid ((S9.out.below hb13).more (fun _ _ h => h) hb13.size)
  replace S8 := Lib.hid ((S8.out.below hb13).more (fun _ _ h => h) hb13.size)
  clear hb13 HN12 k0 k1
  obtain ⟨k0, k1, _, _, _, _⟩ := HN13.out
  go_wp2_with fail
  refine (C25.out _ HN13.out.pl HN13.out.sl).mono ?_
  rintro e w14 ⟨rfl, hb14⟩
  have HN14 := Lib.hid (HN13.out.next hb14)
  replace S9 := Lib.hid ((S9.out.below hb14).more (fun _ _ h => h) hb14.size)
  replace S8 := Lib.hid ((S8.out.below hb14).more (fun _ _ h => h) hb14.size)
  clear hb14 HN13 k0 k1
  obtain ⟨k0, k1, _, _, _, _⟩ := HN14.out
  go_wp2_with fail
  refine (C27.out _ HN14.out.pl HN14.out.sl).mono ?_
  rintro e w15 ⟨⟨B7, d7, rfl, hs7⟩, hb15⟩
  have HN15 := Lib.hid (HN14.out.next hb15)
  replace S9 := Lib.hid ((S9.out.below hb15).more (fun _ _ h => h) hb15.size)
  replace S8 := Lib.hid ((S8.out.below hb15).more (fun _ _ h => h) hb15.size)
  have S7 := Lib.hid hs7
  clear hs7 hb15 HN14 k0 k1
  obtain ⟨k0, k1, _, _, _, _⟩ := HN15.out
  go_wp2_with fail
  refine (C26.out B9 B7 d9 d7 _ S9.out S7.out).mono ?_
  rintro e w16 ⟨rfl, hb16⟩
  have HN16 := Lib.hid (HN15.out.next hb16)
  replace S8 := Lib.hid ((S8.out.below hb16).more (fun _ _ h => h) hb16.size)
  clear hb16 HN15 k0 k1 S9 S7 C15 C16 C17 C24 C25 C27 C26
  have d1 : ¬ len < 1 := by omega
  have d2 : ¬ front < len := by omega
  have d3 : ¬ L < front := by omega
  have e1 : decide (len < 1) = false := by simp; omega
  have e2 : decide (front < len) = false := by simp; omega
  have e3 : decide (L < front) = false := by simp; omega
  go_wp2
  clear d1 d2 d3 e1 e2 e3
  obtain ⟨wq, hwq⟩ : ∃ x, w16 = x := ⟨_, rfl⟩
  go_loopw [15, 16] (fun s i wr => ∃ k : Nat, k ≤ cs.length ∧ i = .int .i64 (k : Int) ∧ s = .int .i64 ((cs.take k).map fun x => x.«to» - x.frm).sum ∧ 0 ≤ ((cs.take k).map fun x => x.«to» - x.frm).sum ∧ ((cs.take k).map fun x => x.«to» - x.frm).sum ≤ k * 1107296256 ∧ Pst w wr w.heap.size A c A2 c2 p A3 l ∧ Sl wr wr.heap.size 3 CC B8 cs) (fun _ i _ => cs.length - (intOf i).toNat)
  case atStart => exact ⟨0, Nat.zero_le _, rfl, by simp, by simp, by simp, HN16.out, S8.out⟩
  case round =>
    obtain ⟨k, hk, rfl, rfl, hs0, hs1, hpst, hsl⟩ := hrel
    have HP3 := Lib.hid hpst; have HS3 := Lib.hid hsl
    clear hpst hsl
    by_cases hlt : k < cs.length
    · obtain ⟨b1, o1, cc, e1, g1, hcc, hce⟩ := HS3.out.at_ hlt
      have hbx := HCB.out cs[k] (List.getElem_mem hlt)
      have hsn : ((cs.take (k + 1)).map fun x => x.«to» - x.frm).sum = ((cs.take k).map fun x => x.«to» - x.frm).sum + (cs[k].«to» - cs[k].frm) := by
        rw [List.take_succ_eq_append_getElem hlt, List.map_append, List.sum_append]; simp
      obtain ⟨⟨r, f, t⟩, hx⟩ : ∃ x, cs[k] = x := ⟨_, rfl⟩
      rw [hx] at hcc hbx hsn
      obtain rfl : cc = [.int .i64 r, .int .i64 f, .int .i64 t] := hcc
      have q1 := hce 1 _ rfl
      have q2 := hce 2 _ rfl
      obtain ⟨X, hX⟩ : ∃ x, ((cs.take k).map fun x => x.«to» - x.frm).sum = x := ⟨_, rfl⟩
      rw [hX] at hs0 hs1 hsn ⊢
      have HSN := Lib.hid hsn
      simp only at hbx
      have hf0 := hbx.1; have hf1 := hbx.2.1; have hf2 := hbx.2.2
      have hk0 : (0 : Int) ≤ (k : Int) := by omega
      have hk1 : (k : Int) < (cs.length : Int) := by omega
      have hk2 : (k : Int) ≤ 2000 := by omega
      have hX1 : X ≤ 2214592512000 := by omega
      have HNX := Lib.hid (show 0 ≤ X + (t - f) ∧ X + (t - f) ≤ ((k : Int) + 1) * 1107296256 by omega)
      subst e1
      clear hx hX hsn hce hbx hs1
      have u1 : IntKind.i64.wrap (X + t) = X + t := by rw [IntKind.wrap_i64]; omega
      have u2 : IntKind.i64.wrap (X + t - f) = X + t - f := by rw [IntKind.wrap_i64]; omega
      go_wp2
      go_quiet (fail)
      obtain ⟨nA, rfl⟩ : ∃ n, n = nq := ⟨_, rfl⟩
      clear u1 u2
      go_wp2
      go_roundw
      case rel => exact ⟨k + 1, by omega, by go_num, by rw [HSN.out]; go_num, by rw [HSN.out]; exact HNX.out.1, by rw [HSN.out]; have := HNX.out.2; push_cast; exact this, HP3.out.next (bDrewN (Below.refl _ _) _), HS3.out⟩
      case measure => simp [intOf]; omega
    · obtain rfl : k = cs.length := by omega
      rw [List.take_length, HSUM.out]
      clear hs0 hs1
      obtain ⟨k0, k1, _, _, _, _⟩ := HP3.out
      go_wp2_with fail
      refine (C29.out _ HP3.out.pl HP3.out.sl).mono ?_
      rintro e wx ⟨⟨B6, d6, rfl, hs6⟩, hbx⟩
      have HP4 := Lib.hid (HP3.out.next hbx)
      have S6 := Lib.hid hs6
      have S5 := Lib.hid ((HS3.out.below hbx).more (fun _ _ h => h) hbx.size)
      clear hbx hs6 k0 k1 HP3 HS3
      go_wp2_with fail
      refine (C28.out B8 B6 d8 d6 _ S5.out S6.out).mono ?_
      rintro e wy ⟨rfl, hby⟩
      have HP5 := Lib.hid (HP4.out.next hby)
      clear hby HP4
      go_wp2_with fail
      refine (known_any _).mono ?_
      rintro e wz ⟨rfl, hbz⟩
      have HZ := Lib.hid (HP5.out.next hbz)
      clear hbz
      go_wp2
      go_ret
      exact ⟨rfl, HZ.out.be⟩

theorem Ways_any (hP : PlAt w w.heap.size A c A2 c2 p) (hA : Sl w w.heap.size 2 CE A3 l) : WaysC A A2 A3 c c2 c3 p l w front len := by
  cases hs : smallB p
  · exact Ways_big A A2 A3 c c2 c3 p l w front len hP hA hs
  by_cases hv : Vld p
  case neg => exact Ways_not A A2 A3 c c2 c3 p l w front len hP hA hs hv
  by_cases h1 : 2100 < l.length
  · exact Ways_far A A2 A3 c c2 c3 p l w front len hP hA hs hv h1
  by_cases h2 : 30 < l.length ∧ l.length ≤ 2000
  · exact Ways_long A A2 A3 c c2 c3 p l w front len hP hA hs hv h2.1 h2.2
  have hll : l.length ≤ 30 ∨ 2000 < l.length ∧ l.length ≤ 2100 := by omega
  by_cases hw : wayOk p l
  case neg => exact Ways_bad A A2 A3 c c2 c3 p l w front len hP hA hs hv hll hw
  by_cases hc : len < 1 ∨ front < len ∨ wlen p (l.map endNo) < front
  · exact Ways_err A A2 A3 c c2 c3 p l w front len hP hA hs hv hll hw hc
  · exact Ways_in A A2 A3 c c2 c3 p l w front len hP hA hs hv hll hw (by omega) (by omega) (by omega)
end

section row
open Go.ChangeShapes Go.WideShapes Go.ChangeAt Go.Deep
theorem Tryz.c27q : Tryz.prog.cellsOf 27 = 2 := by kernel_rfl
theorem Tryz.b27q : 1 ≤ Tryz.prog.bytesOf 27 := by rw [show Tryz.prog.bytesOf 27 = 16 by kernel_rfl]; omega
section
variable {H : Type} {enc : TypeId × Value → H} {w : World} {fuel : Nat} {cs : List Value} {x : DataW H × List MemPlace}
set_option maxRecDepth 100000 in
theorem read_Mq (h : DataW.trod enc Tryz.prog w 0 (fun _ => true) true fuel 27 cs = some x) (hl : InReach Tryz.prog 27 x.1) : ∃ z : E, CE z cs := by
  have hn := read_len Tryz.underlying27 h
  rw [Tryz.c27q] at hn
  obtain ⟨n1, y1, h1, _⟩ := read_at Tryz.underlying27 h hl 0 rfl Tryz.c3
  obtain ⟨n2, y2, h2, _⟩ := read_at Tryz.underlying27 h hl 1 rfl Tryz.c4
  obtain ⟨a, ha, _, _⟩ := DataW.trod_int Tryz.underlying3 h1
  obtain ⟨b, hb, _⟩ := DataW.trod_bool Tryz.underlying4 h2
  match cs, hn with
  | [u, v], _ =>
    simp at ha hb
    subst ha; subst hb
    exact ⟨⟨a, b⟩, rfl⟩
theorem read_Msq (h : DataW.trod enc Tryz.prog w 0 (fun _ => true) true fuel 31 cs = some x) (hl : InReach Tryz.prog 31 x.1) :
    ∃ (A : Option Addr) (l : List E) (c : Nat), cs = [.slice A l.length c] ∧ Sl w w.heap.size 2 CE A l ∧ l.length ≤ c ∧ c ≤ 140737488351232 :=
  read_slice (C := CE) Tryz.underlying31 Tryz.c27q (by omega) Tryz.b27q h hl fun n cs' y h hl => read_Mq h hl
end

set_option maxRecDepth 100000 in
set_option maxHeartbeats 1600000 in
theorem trackWays_lifted (os : Os) (started : os.Started) (H : Type) (enc : TypeId × Value → H) :
    ReturnsInHanded {} Tryz.checked os 4 .any (Rows.trackWaysSpec.pre6 enc Tryz.prog Tryz.f4 Rows.trackWaysRow.domain false) (Rows.trackWaysSpec.post enc Tryz.prog Tryz.f4 false true false false) := by
  refine returnsInHanded_of_change_sized (C := Tryz.checked) (by kernel_rfl : ownKnob Tryz.prog.godebug = none) started (by kernel_rfl) Tryz.func4
    (ChangeSpec.witness6 (enc := enc) (C := Tryz.checked) false ⟨#[], #[.agg #[.slice none 0 0, .slice none 0 0], .slice none 0 0, .int .i64 0, .int .i64 0], []⟩ 8 (by kernel_rfl) (by kernel_rfl) (by kernel_rfl) (by kernel_rfl)) ?_
  intro W base args ds gs before hval0 hW _ hsz0 _
  have hsz : (DataW.weightsEach Tryz.prog (Tryz.f4.params.toList ++ Rows.trackWaysSpec.plain.varTypes Tryz.prog) (ds ++ gs)).all (· ≤ reachBytes) = true := hsz0
  clear hsz0
  have hval : ∀ (j : Nat) t v, Tryz.f4.params[j]? = some t → args[j]? = some v → Value.okWide Tryz.prog W .any base t v := hval0
  have hW' := hW
  obtain ⟨p, q, hA0, hV, rfl, hfz, _⟩ := hW
  have hA : DataW.TrodAll enc Tryz.prog W 0 (fun _ => true) true Tryz.f4.params.toList args.toList ds p := hA0
  rw [Tryz.params4] at hA hval hsz
  obtain ⟨v0, v1, v2, v3, d0, d1, d2, d3, p0, p1, p2, p3, rfl, rfl, rfl, h0, h1, h2, h3⟩ := trodAll_four hA
  obtain ⟨rfl, rfl⟩ := trodVars_none hV
  obtain ⟨cs0, rfl, hcs0⟩ := okWide_struct Tryz.underlying25 (hval 0 25 v0 rfl rfl)
  obtain ⟨B1, len1, cap1, rfl⟩ := okWide_slice Tryz.underlying31 (hval 1 31 v1 rfl rfl)
  obtain ⟨r2, rfl, rfl, rfl, wr2⟩ := open_int Tryz.underlying3 (hval 2 3 v2 rfl rfl) h2
  obtain ⟨r3, rfl, rfl, rfl, wr3⟩ := open_int Tryz.underlying3 (hval 3 3 v3 rfl rfl) h3
  have h0k := h0
  have h1k := h1
  obtain ⟨fuel0, hf0⟩ := h0
  obtain ⟨fuel1, hf1⟩ := h1
  clear hA0 hval0 hA
  simp only [List.append_nil] at hW' hsz
  have hlt : ∀ x ∈ p0 ++ p1, x.block < W.heap.size := fun x hx => hW'.lt x (by simpa using hx)
  obtain ⟨pl, A, c, A2, c2, hq0, hP⟩ := read_Pl (enc := enc) (w := W) (x := (d0, p0)) hf0 (fun n hn => by
    have := List.all_eq_true.1 hsz n (DataW.weights_mem_each (j := 0) (t := 25) (d := d0) rfl rfl n hn)
    simpa using this)
  obtain ⟨D1, l1, e1, hq1, hS1, hlc1, hcm1⟩ := read_Msq (enc := enc) (w := W) (x := (d1, p1)) hf1 (fun n hn => by
    have := List.all_eq_true.1 hsz n (DataW.weights_mem_each (j := 1) (t := 31) (d := d1) rfl rfl n hn)
    simpa using this)
  obtain rfl : cs0 = #[.slice A pl.nodes.length c, .slice A2 pl.rails.length c2] := by
    apply Array.toList_inj.1
    simpa [Value.cells] using hq0
  obtain ⟨rfl, rfl, rfl⟩ : B1 = D1 ∧ len1 = l1.length ∧ cap1 = e1 := by simpa [Value.cells] using hq1
  refine (Ways_any A A2 B1 c c2 cap1 pl l1 W r2 r3 hP hS1).mono fun e W' ⟨he, hb⟩ => ?_
  subst he
  have hs : W.Since W.heap.size W' := ⟨hb.os, hb.tape, hb.output, hb.size, hb.block⟩
  have laid : laidOutB Tryz.prog = true := by kernel_rfl
  have ha0 : DataW.Trod enc Tryz.prog W' 0 (fun b => decide (b < W.heap.size)) true 25 (.agg #[.slice A pl.nodes.length c, .slice A2 pl.rails.length c2]) d0 p0 :=
    WideElems.Trod_stays laid (by kernel_rfl) (of_decide_eq_true (by kernel_rfl)) h0k (fun x hx => hs.sameAt (hlt x (by simp [hx]))) (fun x hx => by simpa using hlt x (by simp [hx]))
  have ha1 : DataW.Trod enc Tryz.prog W' 0 (fun b => decide (b < W.heap.size)) true 31 (.slice B1 l1.length cap1) d1 p1 :=
    WideElems.Trod_stays laid (by kernel_rfl) (of_decide_eq_true (by kernel_rfl)) h1k (fun x hx => hs.sameAt (hlt x (by simp [hx]))) (fun x hx => by simpa using hlt x (by simp [hx]))
  exact ⟨_, rfl, _, _, _, [], p0 ++ p1, [], hW', trodAll_mk1 (shut_bool Tryz.underlying4 true), by have := trodAll_mk4 ha0 ha1 (shut_int (enc := enc) (P := Tryz.prog) (w := W') (base := 0) (spare := fun b => decide (b < W.heap.size)) (held := true) Tryz.underlying3 wr2) (shut_int (enc := enc) (P := Tryz.prog) (w := W') (base := 0) (spare := fun b => decide (b < W.heap.size)) (held := true) Tryz.underlying3 wr3); (try simp only [List.append_nil, List.nil_append, ← List.append_assoc] at this); exact this, rfl, hs.frame _, fun h => by cases h⟩

theorem trackWays_holds : Rows.TrackWaysSaid :=
  OpenClaim.holds_of_wide 4 Tryz.f4 rfl rfl rfl rfl rfl rfl rfl ⟨rfl, rfl, rfl, rfl, rfl⟩ rfl rfl rfl rfl rfl (by kernel_rfl) Tryz.func4 (by kernel_rfl)
    (of_decide_eq_true (by kernel_rfl)) (by unfold Func.isWrapper; rw [if_neg (of_decide_eq_false (by kernel_rfl))]; exact ⟨rfl, rfl⟩)
    (fun os started H enc _ => trackWays_lifted os started H enc)
end row
end Go.Proofs.YtcpanfpijljeaaaGreat
