/- The row of MotionTriples. -/
import Derived.Test.YtfhkbbjddjddmaaGreatRows
import Derived.Test.YtfhkbbjddjddmaaGreatM61
import Derived.Test.YtfhkbbjddjddmaaGreatJX
import Derived.WalkKit
import Derived.ProofKit
import Derived.Deep.OwnRows
import Derived.Deep.CondSized
import Derived.WideKeyArgs
import Derived.ReadAgain
namespace Go.Proofs.YtfhkbbjddjddmaaGreat
set_option linter.unusedVariables false
set_option linter.unusedSimpArgs false
open Go.RowKit

section row
open Go.ChangeShapes Go.WideShapes Go.ChangeAt Go.Deep

set_option maxRecDepth 100000 in
set_option maxHeartbeats 1600000 in
theorem motionTriples_lifted (os : Os) (started : os.Started) (H : Type) (enc : TypeId × Value → H) :
    ReturnsInHanded {} Tryz.checked os 4 .any (Rows.motionTriplesSpec.pre6 enc Tryz.prog Tryz.f4 Rows.motionTriplesRow.domain false) (Rows.motionTriplesSpec.post enc Tryz.prog Tryz.f4 false true false false) := by
  refine returnsInHanded_of_change_sized (C := Tryz.checked) (by kernel_rfl : ownKnob Tryz.prog.godebug = none) started (by kernel_rfl) Tryz.func4
    (ChangeSpec.witness6 (enc := enc) (C := Tryz.checked) false ⟨#[], #[.agg #[.int .i64 0, .int .i64 0, .int .i64 0, .int .i64 0, .int .i64 0, .int .i64 0, .int .i64 0, .int .i64 0, .int .i64 0, .slice none 0 0], .agg #[.int .i64 0, .int .i64 0, .int .i64 0, .int .i64 0, .int .i64 0, .int .i64 0, .int .i64 0, .int .i64 0, .int .i64 0, .slice none 0 0], .agg #[.int .i64 0, .int .i64 0, .int .i64 0, .int .i64 0, .int .i64 0, .int .i64 0, .int .i64 0, .int .i64 0, .int .i64 0, .slice none 0 0]], []⟩ 8 (by kernel_rfl) (by kernel_rfl) (by kernel_rfl) (by kernel_rfl)) ?_
  intro W base args ds gs before hval0 hW _ hsz0 _
  have hsz : (DataW.weightsEach Tryz.prog (Tryz.f4.params.toList ++ Rows.motionTriplesSpec.plain.varTypes Tryz.prog) (ds ++ gs)).all (· ≤ reachBytes) = true := hsz0
  clear hsz0
  have hval : ∀ (j : Nat) t v, Tryz.f4.params[j]? = some t → args[j]? = some v → Value.okWide Tryz.prog W .any base t v := hval0
  have hW' := hW
  obtain ⟨p, q, hA0, hV, rfl, hfz, _⟩ := hW
  have hA : DataW.TrodAll enc Tryz.prog W 0 (fun _ => true) true Tryz.f4.params.toList args.toList ds p := hA0
  rw [Tryz.params4] at hA hval hsz
  obtain ⟨v0, v1, v2, d0, d1, d2, p0, p1, p2, rfl, rfl, rfl, h0, h1, h2⟩ := trodAll_three hA
  obtain ⟨rfl, rfl⟩ := trodVars_none hV
  obtain ⟨cs0, rfl, hcs0⟩ := okWide_struct Tryz.underlying24 (hval 0 24 v0 rfl rfl)
  obtain ⟨cs1, rfl, hcs1⟩ := okWide_struct Tryz.underlying24 (hval 1 24 v1 rfl rfl)
  obtain ⟨cs2, rfl, hcs2⟩ := okWide_struct Tryz.underlying24 (hval 2 24 v2 rfl rfl)
  have h0k := h0
  have h1k := h1
  have h2k := h2
  obtain ⟨fuel0, hf0⟩ := h0
  obtain ⟨fuel1, hf1⟩ := h1
  obtain ⟨fuel2, hf2⟩ := h2
  clear hA0 hval0 hA
  simp only [List.append_nil] at hW' hsz
  have hlt : ∀ x ∈ p0 ++ p1 ++ p2, x.block < W.heap.size := fun x hx => hW'.lt x (by simpa using hx)
  obtain ⟨t0, A0t, c0, hq0, hS0, hlc0, hcm0⟩ := read_Tr (enc := enc) (w := W) (x := (d0, p0)) hf0 (fun n hn => by
    have := List.all_eq_true.1 hsz n (DataW.weights_mem_each (j := 0) (t := 24) (d := d0) rfl rfl n hn)
    simpa using this)
  obtain ⟨t1, A1t, c1, hq1, hS1, hlc1, hcm1⟩ := read_Tr (enc := enc) (w := W) (x := (d1, p1)) hf1 (fun n hn => by
    have := List.all_eq_true.1 hsz n (DataW.weights_mem_each (j := 1) (t := 24) (d := d1) rfl rfl n hn)
    simpa using this)
  obtain ⟨t2, A2t, c2, hq2, hS2, hlc2, hcm2⟩ := read_Tr (enc := enc) (w := W) (x := (d2, p2)) hf2 (fun n hn => by
    have := List.all_eq_true.1 hsz n (DataW.weights_mem_each (j := 2) (t := 24) (d := d2) rfl rfl n hn)
    simpa using this)
  obtain rfl : cs0 = #[.int .i64 t0.mass, .int .i64 t0.len, .int .i64 t0.speed, .int .i64 t0.effort, .int .i64 t0.brake, .int .i64 t0.power, .int .i64 t0.resist, .int .i64 t0.rise, .int .i64 t0.back, .slice A0t t0.grip.length c0] := by
    apply Array.toList_inj.1
    simpa [Value.cells] using hq0
  obtain rfl : cs1 = #[.int .i64 t1.mass, .int .i64 t1.len, .int .i64 t1.speed, .int .i64 t1.effort, .int .i64 t1.brake, .int .i64 t1.power, .int .i64 t1.resist, .int .i64 t1.rise, .int .i64 t1.back, .slice A1t t1.grip.length c1] := by
    apply Array.toList_inj.1
    simpa [Value.cells] using hq1
  obtain rfl : cs2 = #[.int .i64 t2.mass, .int .i64 t2.len, .int .i64 t2.speed, .int .i64 t2.effort, .int .i64 t2.brake, .int .i64 t2.power, .int .i64 t2.resist, .int .i64 t2.rise, .int .i64 t2.back, .slice A2t t2.grip.length c2] := by
    apply Array.toList_inj.1
    simpa [Value.cells] using hq2
  refine (MotionTriples_any A0t A1t A2t c0 c1 c2 t0.grip.length t1.grip.length t2.grip.length t0 t1 t2 W rfl rfl rfl (by omega) (by omega) (by omega) hS0 hS1 hS2).mono fun e W' ⟨he, hb⟩ => ?_
  subst he
  have hs : W.Since W.heap.size W' := ⟨hb.os, hb.tape, hb.output, hb.size, hb.block⟩
  have laid : laidOutB Tryz.prog = true := by kernel_rfl
  have ha0 : DataW.Trod enc Tryz.prog W' 0 (fun b => decide (b < W.heap.size)) true 24 (.agg #[.int .i64 t0.mass, .int .i64 t0.len, .int .i64 t0.speed, .int .i64 t0.effort, .int .i64 t0.brake, .int .i64 t0.power, .int .i64 t0.resist, .int .i64 t0.rise, .int .i64 t0.back, .slice A0t t0.grip.length c0]) d0 p0 :=
    WideElems.Trod_stays laid (by kernel_rfl) (of_decide_eq_true (by kernel_rfl)) h0k (fun x hx => hs.sameAt (hlt x (by simp [hx]))) (fun x hx => by simpa using hlt x (by simp [hx]))
  have ha1 : DataW.Trod enc Tryz.prog W' 0 (fun b => decide (b < W.heap.size)) true 24 (.agg #[.int .i64 t1.mass, .int .i64 t1.len, .int .i64 t1.speed, .int .i64 t1.effort, .int .i64 t1.brake, .int .i64 t1.power, .int .i64 t1.resist, .int .i64 t1.rise, .int .i64 t1.back, .slice A1t t1.grip.length c1]) d1 p1 :=
    WideElems.Trod_stays laid (by kernel_rfl) (of_decide_eq_true (by kernel_rfl)) h1k (fun x hx => hs.sameAt (hlt x (by simp [hx]))) (fun x hx => by simpa using hlt x (by simp [hx]))
  have ha2 : DataW.Trod enc Tryz.prog W' 0 (fun b => decide (b < W.heap.size)) true 24 (.agg #[.int .i64 t2.mass, .int .i64 t2.len, .int .i64 t2.speed, .int .i64 t2.effort, .int .i64 t2.brake, .int .i64 t2.power, .int .i64 t2.resist, .int .i64 t2.rise, .int .i64 t2.back, .slice A2t t2.grip.length c2]) d2 p2 :=
    WideElems.Trod_stays laid (by kernel_rfl) (of_decide_eq_true (by kernel_rfl)) h2k (fun x hx => hs.sameAt (hlt x (by simp [hx]))) (fun x hx => by simpa using hlt x (by simp [hx]))
  exact ⟨_, rfl, _, _, _, [], p0 ++ p1 ++ p2, [], hW', trodAll_mk1 (shut_bool Tryz.underlying4 true), by have := trodAll_mk3 ha0 ha1 ha2; (try simp only [List.append_nil, List.nil_append, ← List.append_assoc] at this); exact this, rfl, hs.frame _, fun h => by cases h⟩

theorem motionTriples_holds : Rows.MotionTriplesSaid :=
  OpenClaim.holds_of_wide 4 Tryz.f4 rfl rfl rfl rfl rfl rfl rfl ⟨rfl, rfl, rfl, rfl, rfl⟩ rfl rfl rfl rfl rfl (by kernel_rfl) Tryz.func4 (by kernel_rfl)
    (of_decide_eq_true (by kernel_rfl)) (by unfold Func.isWrapper; rw [if_neg (of_decide_eq_false (by kernel_rfl))]; exact ⟨rfl, rfl⟩)
    (fun os started H enc _ => motionTriples_lifted os started H enc)
end row
end Go.Proofs.YtfhkbbjddjddmaaGreat
