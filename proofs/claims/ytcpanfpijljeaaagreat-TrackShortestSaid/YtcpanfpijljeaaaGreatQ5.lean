/- Contracts: two items of a pile change places. -/
import Derived.Test.YtcpanfpijljeaaaGreatQ1
import Derived.Test.YtcpanfpijljeaaaGreatC3
import Derived.RegionTactic
import Derived.BigRegion
import Derived.Test.YtcpanfpijljeaaaGreatQ2
namespace Go.Proofs.YtcpanfpijljeaaaGreat
set_option linter.unusedVariables false
set_option linter.unusedSimpArgs false
open Go.RowKit

def SwapPost (w : World) (base pb : Nat) (F : Value) (l : List V3) (g c : Nat) (e : Ending) (w' : World) : Prop :=
  e = .returned (.tuple #[]) ∧ Pile w' base pb F l g c ∧ Fp pb g w w'
set_option maxRecDepth 100000 in
set_option maxHeartbeats 4000000 in
theorem swap_any {w : World} {base pb : Nat} {F : Value} {l : List V3} {g c : Nat} (h : Pile w base pb F l g c) {i j : Nat} (hi : i < l.length) (hj : j < l.length) (hij : i ≠ j) :
    Calls Tryz.prog 160 #[.pointer (some ⟨pb, 0, none⟩), .int .i64 (i : Int), .int .i64 (j : Int)] w (SwapPost w base pb F (swapL l i j) g c) := by
  obtain ⟨p0, p1, _⟩ := h.head
  obtain ⟨q0, q1, q2⟩ := h.at_ hi
  obtain ⟨r0, r1, r2⟩ := h.at_ hj
  have hcm := h.cm; have hlc := h.lc
  unfold maxLen at hcm
  have fi0 := h.fro (i * 3); have fi1 := h.fro (i * 3 + 1); have fi2 := h.fro (i * 3 + 2)
  have fj0 := h.fro (j * 3); have fj1 := h.fro (j * 3 + 1); have fj2 := h.fro (j * 3 + 2)
  have i0 : (0 : Int) ≤ (i : Int) := by omega
  have i1 : (i : Int) < (l.length : Int) := by omega
  have j0 : (0 : Int) ≤ (j : Int) := by omega
  have j1 : (j : Int) < (l.length : Int) := by omega
  have HS := Lib.hid (swapL_at hi hj)
  obtain ⟨x, hx⟩ : ∃ x, l[i] = x := ⟨_, rfl⟩
  obtain ⟨y, hy⟩ : ∃ y, l[j] = y := ⟨_, rfl⟩
  rw [hx] at q0 q1 q2 HS
  rw [hy] at r0 r1 r2 HS
  have H := Lib.hid h
  have hne := h.ne
  have HIJ := Lib.hid hij
  clear h hx hy hij
  have hne' : ¬ g = pb := fun e => hne e.symm
  have n0 : ¬ i * 3 = j * 3 := by have := HIJ.out; omega
  have n1 : ¬ i * 3 + 1 = j * 3 + 1 := by have := HIJ.out; omega
  have n2 : ¬ i * 3 + 2 = j * 3 + 2 := by have := HIJ.out; omega
  have n3 : ¬ i * 3 = j * 3 + 1 := by omega
  have n4 : ¬ i * 3 = j * 3 + 2 := by omega
  have n5 : ¬ i * 3 + 1 = j * 3 := by omega
  have n6 : ¬ i * 3 + 1 = j * 3 + 2 := by omega
  have n7 : ¬ i * 3 + 2 = j * 3 := by omega
  have n8 : ¬ i * 3 + 2 = j * 3 + 1 := by omega
  go_enter Tryz.func160, Tryz.ntmps160
  go_wp2_with fail
  go_region
  all_goals
    go_wp2
    go_end0
    exact ⟨rfl, by rw [HS.out]; exact ((H.out.set hi y).set (by rw [List.length_set]; exact hj) x).drew, (((((((Fp.refl pb g w).set (p := ⟨g, i * 3, none⟩) _ (.inr (.inl rfl))).set (p := ⟨g, i * 3 + 1, none⟩) _ (.inr (.inl rfl))).set (p := ⟨g, i * 3 + 2, none⟩) _ (.inr (.inl rfl))).set (p := ⟨g, j * 3, none⟩) _ (.inr (.inl rfl))).set (p := ⟨g, j * 3 + 1, none⟩) _ (.inr (.inl rfl))).set (p := ⟨g, j * 3 + 2, none⟩) _ (.inr (.inl rfl))).drew⟩
end Go.Proofs.YtcpanfpijljeaaaGreat
/- Contract: the first item of a pile goes down to where it belongs. -/
namespace Go.Proofs.YtcpanfpijljeaaaGreat
open Go.RowKit

theorem less_z {w : World} {base pb : Nat} {l : List V3} {g c : Nat} (h : Pile w base pb vless l g c) {i j : Nat} (hi : i < l.length) (hj : j < l.length) (r : Bool) (hr : ltAt l i j = r) (a b : Int) (ha : a = (i : Int)) (hb : b = (j : Int)) :
    Calls Tryz.prog 159 #[.pointer (some ⟨pb, 0, none⟩), .int .i64 a, .int .i64 b] w (LessPost r w) := by
  subst ha; subst hb
  exact less_at h hi hj r hr
theorem swap_z {w : World} {base pb : Nat} {F : Value} {l : List V3} {g c : Nat} (h : Pile w base pb F l g c) {i j : Nat} (hi : i < l.length) (hj : j < l.length) (hij : i ≠ j) (a b : Int) (ha : a = (i : Int)) (hb : b = (j : Int)) :
    Calls Tryz.prog 160 #[.pointer (some ⟨pb, 0, none⟩), .int .i64 a, .int .i64 b] w (SwapPost w base pb F (swapL l i j) g c) := by
  subst ha; subst hb
  exact swap_any h hi hj hij
def SinkPost (w : World) (base pb : Nat) (F : Value) (l : List V3) (g c : Nat) (e : Ending) (w' : World) : Prop :=
  e = .returned (.tuple #[]) ∧ Pile w' base pb F l g c ∧ Fp pb g w w'
def DownRel (w : World) (base pb : Nat) (L : Nat) (l : List V3) (g c n : Nat) (wr : World) : Prop :=
  ∃ cur, cur.length = L ∧ n ≤ L ∧ downL cur n = l ∧ Pile wr base pb vless cur g c ∧ Fp pb g w wr
set_option maxRecDepth 100000 in
set_option maxHeartbeats 4000000 in
theorem sink_any {w : World} {base pb : Nat} {l0 : List V3} {g c : Nat} (h : Pile w base pb vless l0 g c) (hl : l0.length ≤ 2000000) :
    Calls Tryz.prog 157 #[.pointer (some ⟨pb, 0, none⟩)] w (SinkPost w base pb vless (downL l0 0) g c) := by
  have H := Lib.hid h
  clear h
  go_enter Tryz.func157, Tryz.ntmps157
  go_wp2
  go_loopw [2] (fun i wr => ∃ n : Nat, i = .int .i64 (n : Int) ∧ DownRel w base pb l0.length (downL l0 0) g c n wr) (fun i _ => l0.length - (intOf i).toNat)
  case atStart => exact ⟨0, rfl, l0, rfl, by omega, rfl, H.out, Fp.refl _ _ _⟩
  case round =>
    obtain ⟨n, rfl, cur, hcl, hnL, hup, hp, hb⟩ := hrel
    obtain ⟨k0, _, _⟩ := hp.head
    have HUP := Lib.hid hup
    have HPR := Lib.hid hp
    have HBR := Lib.hid hb
    clear hup hp hb
    have hn0 : (0 : Int) ≤ (n : Int) := by omega
    have hn1 : (n : Int) ≤ 2000000 := by omega
    by_cases h1 : 2 * n + 1 < cur.length
    · obtain ⟨d, hd⟩ : ∃ d, 2 * n + 1 = d := ⟨_, rfl⟩
      have e1 : 2 * (n : Int) + 1 = (d : Int) := by omega
      have hd0 : (0 : Int) ≤ (d : Int) := by omega
      have hd1 : (d : Int) ≤ 4000001 := by omega
      have hdl : d < cur.length := by omega
      have hdc : (d : Int) < (cur.length : Int) := by omega
      have hnl : n < cur.length := by omega
      have HD := Lib.hid hd
      clear hd
      by_cases h2 : 2 * n + 2 < cur.length
      · have h2' : (d : Int) + 1 < (cur.length : Int) := by have := HD.out; omega
        have hd2 : d + 1 < cur.length := by omega
        cases hr : ltAt cur (d + 1) d
        · have HC := Lib.hid (show childL cur n = d by unfold childL; rw [show 2 * n + 2 = d + 1 by have := HD.out; omega, HD.out, hr]; simp)
          have HR := Lib.hid hr; clear hr
          have hch := hdl
          have hnd : n < d := by have := HD.out; omega
          go_wp2_with fail
          refine (less_z HPR.out hd2 hdl false HR.out _ _ (by omega) rfl).mono ?_
          rintro e w4 ⟨rfl, hb4⟩
          have HPX := Lib.hid (HPR.out.below hb4 HPR.out.plt HPR.out.glt)
          have HBX := Lib.hid (HBR.out.below hb4 HBR.out.size)
          clear hb4
          cases hr2 : ltAt cur (d) n
          · have HR2 := Lib.hid hr2; clear hr2
            have HQ := Lib.hid (show cur = downL l0 0 by have := HUP.out; rwa [downL_end (.inr (by rw [HC.out]; exact HR2.out))] at this)
            go_wp2_with (go_at_call 159; refine (less_z HPX.out hch hnl false HR2.out _ _ (by omega) rfl).mono ?_; rintro e w5 ⟨rfl, hb5⟩)
            go_end0
            exact ⟨rfl, by rw [← HQ.out]; exact HPX.out.below hb5 HPX.out.plt HPX.out.glt, HBX.out.below hb5 HBX.out.size⟩
          · have HR2 := Lib.hid hr2; clear hr2
            have HQ := Lib.hid (show downL (swapL cur n (d)) (d) = downL l0 0 by have := HUP.out; rwa [downL_go (by omega) (by rw [HC.out]; exact HR2.out), HC.out] at this)
            go_wp2_with fail
            refine (less_z HPX.out hch hnl true HR2.out _ _ (by omega) rfl).mono ?_
            rintro e w5 ⟨rfl, hb5⟩
            have HP5 := Lib.hid (HPX.out.below hb5 HPX.out.plt HPX.out.glt)
            have HB5 := Lib.hid (HBX.out.below hb5 HBX.out.size)
            clear hb5
            go_wp2_with fail
            refine (swap_z HP5.out hnl hch (by omega) _ _ rfl (by omega)).mono ?_
            rintro e w6 ⟨rfl, hp6, hb6⟩
            have HP6 := Lib.hid hp6
            have HB6 := Lib.hid (HB5.out.trans hb6 (.inl rfl))
            clear hp6 hb6
            go_wp2
            go_roundw
            case rel => exact ⟨d, by first | rfl | (congr 1; omega), swapL cur n (d), by rw [swapL_len]; exact hcl, by omega, HQ.out, HP6.out, HB6.out⟩
            case measure => simp [intOf]; omega
        · have HC := Lib.hid (show childL cur n = d + 1 by unfold childL; rw [show 2 * n + 2 = d + 1 by have := HD.out; omega, HD.out, hr]; simp [hd2])
          have HR := Lib.hid hr; clear hr
          have hch := hd2
          have hnd : n < d := by have := HD.out; omega
          go_wp2_with fail
          refine (less_z HPR.out hd2 hdl true HR.out _ _ (by omega) rfl).mono ?_
          rintro e w4 ⟨rfl, hb4⟩
          have HPX := Lib.hid (HPR.out.below hb4 HPR.out.plt HPR.out.glt)
          have HBX := Lib.hid (HBR.out.below hb4 HBR.out.size)
          clear hb4
          cases hr2 : ltAt cur (d + 1) n
          · have HR2 := Lib.hid hr2; clear hr2
            have HQ := Lib.hid (show cur = downL l0 0 by have := HUP.out; rwa [downL_end (.inr (by rw [HC.out]; exact HR2.out))] at this)
            go_wp2_with (go_at_call 159; refine (less_z HPX.out hch hnl false HR2.out _ _ (by omega) rfl).mono ?_; rintro e w5 ⟨rfl, hb5⟩)
            go_end0
            exact ⟨rfl, by rw [← HQ.out]; exact HPX.out.below hb5 HPX.out.plt HPX.out.glt, HBX.out.below hb5 HBX.out.size⟩
          · have HR2 := Lib.hid hr2; clear hr2
            have HQ := Lib.hid (show downL (swapL cur n (d + 1)) (d + 1) = downL l0 0 by have := HUP.out; rwa [downL_go (by omega) (by rw [HC.out]; exact HR2.out), HC.out] at this)
            go_wp2_with fail
            refine (less_z HPX.out hch hnl true HR2.out _ _ (by omega) rfl).mono ?_
            rintro e w5 ⟨rfl, hb5⟩
            have HP5 := Lib.hid (HPX.out.below hb5 HPX.out.plt HPX.out.glt)
            have HB5 := Lib.hid (HBX.out.below hb5 HBX.out.size)
            clear hb5
            go_wp2_with fail
            refine (swap_z HP5.out hnl hch (by omega) _ _ rfl (by omega)).mono ?_
            rintro e w6 ⟨rfl, hp6, hb6⟩
            have HP6 := Lib.hid hp6
            have HB6 := Lib.hid (HB5.out.trans hb6 (.inl rfl))
            clear hp6 hb6
            go_wp2
            go_roundw
            case rel => exact ⟨d + 1, by first | rfl | (congr 1; omega), swapL cur n (d + 1), by rw [swapL_len]; exact hcl, by omega, HQ.out, HP6.out, HB6.out⟩
            case measure => simp [intOf]; omega
      · have h2' : ¬ (d : Int) + 1 < (cur.length : Int) := by have := HD.out; omega
        have HC := Lib.hid (show childL cur n = d by unfold childL; rw [if_neg (by omega)]; exact HD.out)
        have hch := hdl
        have hnd : n < d := by have := HD.out; omega
        have HPX := HPR
        have HBX := HBR
        cases hr2 : ltAt cur (d) n
        · have HR2 := Lib.hid hr2; clear hr2
          have HQ := Lib.hid (show cur = downL l0 0 by have := HUP.out; rwa [downL_end (.inr (by rw [HC.out]; exact HR2.out))] at this)
          go_wp2_with (go_at_call 159; refine (less_z HPX.out hch hnl false HR2.out _ _ (by omega) rfl).mono ?_; rintro e w5 ⟨rfl, hb5⟩)
          go_end0
          exact ⟨rfl, by rw [← HQ.out]; exact HPX.out.below hb5 HPX.out.plt HPX.out.glt, HBX.out.below hb5 HBX.out.size⟩
        · have HR2 := Lib.hid hr2; clear hr2
          have HQ := Lib.hid (show downL (swapL cur n (d)) (d) = downL l0 0 by have := HUP.out; rwa [downL_go (by omega) (by rw [HC.out]; exact HR2.out), HC.out] at this)
          go_wp2_with fail
          refine (less_z HPX.out hch hnl true HR2.out _ _ (by omega) rfl).mono ?_
          rintro e w5 ⟨rfl, hb5⟩
          have HP5 := Lib.hid (HPX.out.below hb5 HPX.out.plt HPX.out.glt)
          have HB5 := Lib.hid (HBX.out.below hb5 HBX.out.size)
          clear hb5
          go_wp2_with fail
          refine (swap_z HP5.out hnl hch (by omega) _ _ rfl (by omega)).mono ?_
          rintro e w6 ⟨rfl, hp6, hb6⟩
          have HP6 := Lib.hid hp6
          have HB6 := Lib.hid (HB5.out.trans hb6 (.inl rfl))
          clear hp6 hb6
          go_wp2
          go_roundw
          case rel => exact ⟨d, by first | rfl | (congr 1; omega), swapL cur n (d), by rw [swapL_len]; exact hcl, by omega, HQ.out, HP6.out, HB6.out⟩
          case measure => simp [intOf]; omega
    · have h1' : ¬ 2 * (n : Int) + 1 < (cur.length : Int) := by omega
      have HQ := Lib.hid (show cur = downL l0 0 by have := HUP.out; rwa [downL_end (.inl (by omega))] at this)
      go_wp2
      go_end0
      exact ⟨rfl, by rw [← HQ.out]; exact HPR.out, HBR.out⟩
end Go.Proofs.YtcpanfpijljeaaaGreat
