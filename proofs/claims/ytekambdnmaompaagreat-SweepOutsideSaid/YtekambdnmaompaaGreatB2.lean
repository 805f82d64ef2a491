/- Contracts: lengths of lines. -/
import Derived.Test.YtekambdnmaompaaGreatB1
import Derived.Deep.RegionHeld3
import Derived.IntWalk
namespace Go.Proofs.YtekambdnmaompaaGreat
set_option linter.unusedVariables false
set_option linter.unusedSimpArgs false
open Go.RowKit

def allR (l : List S) : Prop := ∀ k, k < l.length → inR (sAt l k)

set_option maxRecDepth 100000 in
set_option maxHeartbeats 2000000 in
theorem rLength_any (A A2 : Option Addr) (c c2 : Nat) (p : Pl) (r : Nat) (w : World) (hP : PlAt w w.heap.size A c A2 c2 p) (hr : r < p.rails.length) (h1 : nodeIx p p.rails[r].frm) (h2 : nodeIx p p.rails[r].to) (hs : p.rails[r].shape.length ≤ 40)
    (hR : allR (lineOf p p.rails[r])) :
    Calls Tryz.prog 44 #[.agg #[.slice A p.nodes.length c, .slice A2 p.rails.length c2], .int .i64 r] w fun e w' =>
      e = .returned (.int .i64 (lenOf (lineOf p p.rails[r]) : Nat)) ∧ Below w.heap.size w w' := by
  have hl : (lineOf p p.rails[r]).length = p.rails[r].shape.length + 2 := by simp [lineOf]
  obtain ⟨L, hL⟩ : ∃ L, lineOf p p.rails[r] = L := ⟨_, rfl⟩
  rw [hL] at hl hR ⊢
  have HL := Lib.hid hL; have hll : L.length ≤ 42 := by omega
  have hl1 : 1 < L.length := by omega
  clear hL hl
  go_enter Tryz.func44, Tryz.ntmps44
  go_wp2_with fail
  refine (rLine_any A A2 c c2 p r _ ((hP.below ((Below.refl _ _).alloc (Nat.le_refl _) _)).more (by simp)) hr h1 h2 hs).mono ?_
  rintro e w1 ⟨v, rfl, ho, hb1⟩
  rw [HL.out] at ho
  obtain ⟨A', c', rfl, hc1, hc2, _⟩ := ho.form
  have hS := ho.sl fS_len rfl
  have hb0 : Below w.heap.size w w1 := ((Below.refl _ _).alloc (Nat.le_refl _) _).trans (hb1.mono (by simp))
  obtain ⟨B1, hB1⟩ : ∃ B1, w1.heap.size = B1 := ⟨_, rfl⟩
  rw [hB1] at hS
  have hB1' : B1 ≤ w1.heap.size := by omega
  have hwB : w.heap.size ≤ B1 := by have := hb0.size; omega
  clear hB1 ho hb1 hP
  go_wp2
  go_loopw [6, 7] (fun n i wr => ∃ k : Nat, k + 1 ≤ L.length ∧ i = .int .i64 ((k : Int) + 1) ∧ n = .int .i64 (lenTo L k : Nat) ∧ Below w.heap.size w wr ∧ Below B1 w1 wr) (fun _ i _ => L.length - (intOf i).toNat)
  case atStart => exact ⟨0, by omega, rfl, rfl, hb0, Below.refl _ _⟩
  case round =>
    obtain ⟨k, hk, rfl, rfl, hbw, hb1⟩ := hrel
    by_cases hlt : k + 1 < L.length
    · have hlen := lenTo_le L k
      have hfar := far_lt (sAt L k) (sAt L (k + 1))
      obtain ⟨b, off, hA, hb, q0, q1⟩ := spot_at hS (i := k) (by omega)
      obtain ⟨b', off', hA', _, q2, q3⟩ := spot_at hS (i := k + 1) (by omega)
      subst hA
      injection hA' with hA'; injection hA' with e1 e2 _; subst e1; subst e2
      rw [← sAt_eq (by omega)] at q0 q1
      rw [← sAt_eq hlt] at q2 q3
      have c0 := (hb1.cell (p := ⟨b, off + k * 2, none⟩) hb).trans q0
      have c1 := (hb1.cell (p := ⟨b, off + k * 2 + 1, none⟩) hb).trans q1
      have c2 := (hb1.cell (p := ⟨b, off + (k + 1) * 2, none⟩) hb).trans q2
      have c3 := (hb1.cell (p := ⟨b, off + (k + 1) * 2 + 1, none⟩) hb).trans q3
      have hbs : b < wr.heap.size := by have := hb1.size; omega
      clear q0 q1 q2 q3
      have i0 : (0 : Int) ≤ (k : Int) := by omega
      have i1 : (k : Int) < (L.length : Int) := by omega
      have i2 : (0 : Int) ≤ (k : Int) + 1 := by omega
      have i3 : (k : Int) + 1 < (L.length : Int) := by omega
      have i4 : IntKind.i64.wrap (k : Int) = k := IntWalk.i64_in _ (by omega)
      have i5 : ((k : Int) + 1).toNat = k + 1 := by omega
      have i6 : IntKind.i64.wrap ((lenTo L k : Int) + (far (sAt L k) (sAt L (k + 1)) : Int)) = (lenTo L k : Int) + (far (sAt L k) (sAt L (k + 1)) : Int) := IntWalk.i64_in _ (by omega)
      go_wp2_with fail
      go_region_held3 (fun w' => w'.cell? ⟨b, off + k * 2, none⟩ = some (.int .i64 (sAt L k).x) ∧ w'.cell? ⟨b, off + k * 2 + 1, none⟩ = some (.int .i64 (sAt L k).y) ∧
          w'.cell? ⟨b, off + (k + 1) * 2, none⟩ = some (.int .i64 (sAt L (k + 1)).x) ∧ w'.cell? ⟨b, off + (k + 1) * 2 + 1, none⟩ = some (.int .i64 (sAt L (k + 1)).y))
        (first | go_keep | (refine ⟨?_, ?_, ?_, ?_⟩ <;> (rw [hbf.cell (by simp; omega)]; assumption)))
        ((go_at_call 56; refine (Far_any _ _ _ (hR k (by omega)) (hR (k + 1) hlt)).mono ?_; rintro e w2 ⟨rfl, hbf⟩))
      go_wp2
      clear i4 i5 i6
      go_roundw
      case rel =>
        have hsz : w.heap.size ≤ wr.heap.size := hbw.size
        exact ⟨k + 1, by omega, by go_num, by rw [show lenTo L (k + 1) = lenTo L k + far (sAt L k) (sAt L (k + 1)) from rfl, Int.natCast_add], hbw.trans ((Below.refl _ _).drew.trans (hbf.mono (by simp; omega))), hb1.trans ((Below.refl _ _).drew.trans (hbf.mono (by simp; have := hb1.size; omega)))⟩
      case measure => simp [intOf]; omega
    · obtain rfl : k = L.length - 1 := by omega
      go_wp2
      go_ret
      exact ⟨rfl, hbw⟩
end Go.Proofs.YtekambdnmaompaaGreat
