/- Contracts: shape.Length. -/
import Derived.Test.YtekambdnmaompaaGreatB2
namespace Go.Proofs.YtekambdnmaompaaGreat
set_option linter.unusedVariables false
set_option linter.unusedSimpArgs false
open Go.RowKit

def lenRes (L : List S) : Value := if okL L = true then .tuple #[.int .i64 (lenOf L : Nat), .bool true] else .tuple #[.int .i64 0, .bool false]
theorem lenRes_yes {L : List S} (h : okTo L (L.length - 1)) : lenRes L = .tuple #[.int .i64 (lenOf L : Nat), .bool true] := by rw [lenRes, if_pos ((okL_iff L).2 h)]
theorem lenRes_no {L : List S} {k : Nat} (hk : k + 1 < L.length) (h : okD (sAt L k) (sAt L (k + 1)) = false) : lenRes L = .tuple #[.int .i64 0, .bool false] := by
  rw [lenRes, if_neg]
  intro h'
  rw [okL_iff] at h'
  have := h' k (by omega)
  rw [h] at this; cases this
theorem ret_v {a b : Value} (h : a = b) : Ending.returned a = .returned b := by rw [h]

set_option maxRecDepth 100000 in
set_option maxHeartbeats 2000000 in
theorem sLength_any (A : Option Addr) (L : List S) (cc : Nat) (w : World) (hS : Sl w w.heap.size 2 CS A L) (hll : L.length ≤ 42) (hl1 : 1 < L.length) (hR : allR L) :
    Calls Tryz.prog 105 #[.slice A L.length cc] w fun e w' => e = .returned (lenRes L) ∧ Below w.heap.size w w' := by
  go_enter Tryz.func105, Tryz.ntmps105
  go_wp2
  go_loopw [4, 5, 6, 7] (fun n i d o wr => ∃ k : Nat, k + 1 ≤ L.length ∧ i = .int .i64 ((k : Int) + 1) ∧ n = .int .i64 (lenTo L k : Nat) ∧ okTo L k ∧ Below w.heap.size w wr) (fun _ i _ _ _ => L.length - (intOf i).toNat)
  case atStart => exact ⟨0, by omega, rfl, rfl, fun j h => absurd h (by omega), Below.refl _ _⟩
  case round =>
    obtain ⟨k, hk, rfl, rfl, hok, hbw⟩ := hrel
    have HO := Lib.hid hok; clear hok
    by_cases hlt : k + 1 < L.length
    · have hlen := lenTo_le L k
      have hfar := far_lt (sAt L k) (sAt L (k + 1))
      obtain ⟨b, off, hA, hb, q0, q1⟩ := spot_at hS (i := k) (by omega)
      obtain ⟨b', off', hA', _, q2, q3⟩ := spot_at hS (i := k + 1) (by omega)
      subst hA
      injection hA' with hA'; injection hA' with e1 e2 _; subst e1; subst e2
      rw [← sAt_eq (by omega)] at q0 q1
      rw [← sAt_eq hlt] at q2 q3
      have c0 := (hbw.cell (p := ⟨b, off + k * 2, none⟩) hb).trans q0
      have c1 := (hbw.cell (p := ⟨b, off + k * 2 + 1, none⟩) hb).trans q1
      have c2 := (hbw.cell (p := ⟨b, off + (k + 1) * 2, none⟩) hb).trans q2
      have c3 := (hbw.cell (p := ⟨b, off + (k + 1) * 2 + 1, none⟩) hb).trans q3
      have hsz := hbw.size
      have hbs : b < wr.heap.size := by omega
      clear q0 q1 q2 q3 hS
      have i0 : (0 : Int) ≤ (k : Int) := by omega
      have i1 : (k : Int) < (L.length : Int) := by omega
      have i2 : (0 : Int) ≤ (k : Int) + 1 := by omega
      have i3 : (k : Int) + 1 < (L.length : Int) := by omega
      have i4 : IntKind.i64.wrap (k : Int) = k := IntWalk.i64_in _ (by omega)
      have i5 : ((k : Int) + 1).toNat = k + 1 := by omega
      have r1 := hR k (by omega)
      have r2 := hR (k + 1) hlt
      by_cases hd : okD (sAt L k) (sAt L (k + 1)) = true
      · have hd' : 1 ≤ sqd (sAt L k) (sAt L (k + 1)) ∧ sqd (sAt L k) (sAt L (k + 1)) < 1000002000001 := by simpa [okD] using hd
        have HD := Lib.hid hd; clear hd
        go_wp2_with fail
        go_region_held3 (fun w' => w'.cell? ⟨b, off + k * 2, none⟩ = some (.int .i64 (sAt L k).x) ∧ w'.cell? ⟨b, off + k * 2 + 1, none⟩ = some (.int .i64 (sAt L k).y) ∧
            w'.cell? ⟨b, off + (k + 1) * 2, none⟩ = some (.int .i64 (sAt L (k + 1)).x) ∧ w'.cell? ⟨b, off + (k + 1) * 2 + 1, none⟩ = some (.int .i64 (sAt L (k + 1)).y))
          (first | go_keep | (refine ⟨?_, ?_, ?_, ?_⟩ <;> (rw [hbf.cell (by simp; omega)]; assumption)))
          ((go_at_call 99; refine (Distance_yes _ _ _ r1 r2 hd'.1 hd'.2).mono ?_; rintro e w2 ⟨rfl, hbf⟩))
        go_wp2
        clear i4 i5
        go_roundw
        case rel =>
          exact ⟨k + 1, by omega, by go_num, by rw [show lenTo L (k + 1) = lenTo L k + far (sAt L k) (sAt L (k + 1)) from rfl, Int.natCast_add],
            fun j hj => if h : j = k then by subst h; exact HD.out else HO.out j (by omega), hbw.trans ((Below.refl _ _).drew.trans (hbf.mono (by simp; omega)))⟩
        case measure => simp [intOf]; omega
      · have hd2 : okD (sAt L k) (sAt L (k + 1)) = false := by simpa using hd
        have hd' : sqd (sAt L k) (sAt L (k + 1)) = 0 ∨ 1000002000001 ≤ sqd (sAt L k) (sAt L (k + 1)) := by simp [okD] at hd; omega
        have HD := Lib.hid (lenRes_no hlt hd2); have HD2 := Lib.hid hd'; clear hd hd2 hd'
        go_wp2_with fail
        go_region_held3 (fun w' => w'.cell? ⟨b, off + k * 2, none⟩ = some (.int .i64 (sAt L k).x) ∧ w'.cell? ⟨b, off + k * 2 + 1, none⟩ = some (.int .i64 (sAt L k).y) ∧
            w'.cell? ⟨b, off + (k + 1) * 2, none⟩ = some (.int .i64 (sAt L (k + 1)).x) ∧ w'.cell? ⟨b, off + (k + 1) * 2 + 1, none⟩ = some (.int .i64 (sAt L (k + 1)).y))
          (first | go_keep | (refine ⟨?_, ?_, ?_, ?_⟩ <;> (rw [hbf.cell (by simp; omega)]; assumption)))
          ((go_at_call 99; refine (Distance_no _ _ _ r1 r2 HD2.out).mono ?_; rintro e w2 ⟨rfl, hbf⟩))
        go_wp2
        go_ret2
        exact ⟨ret_v HD.out.symm, hbw.trans ((Below.refl _ _).drew.trans (hbf.mono (by simp; omega)))⟩
    · obtain rfl : k = L.length - 1 := by omega
      have HD := Lib.hid (lenRes_yes HO.out)
      go_wp2
      go_ret2
      exact ⟨ret_v HD.out.symm, hbw⟩
end Go.Proofs.YtekambdnmaompaaGreat
