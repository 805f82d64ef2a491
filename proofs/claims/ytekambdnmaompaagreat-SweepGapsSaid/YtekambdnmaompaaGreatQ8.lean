/- The row of SweepGaps. -/
import Derived.Test.YtekambdnmaompaaGreatRows
import Derived.Test.YtekambdnmaompaaGreatQ7
import Derived.Test.YtekambdnmaompaaGreatX2
import Derived.WalkKit
import Derived.ProofKit
import Derived.Deep.OwnRows
import Derived.Deep.CondSized
import Derived.WideKeyArgs
import Derived.ReadAgain
namespace Go.Proofs.YtekambdnmaompaaGreat
set_option linter.unusedVariables false
set_option linter.unusedSimpArgs false
open Go.RowKit

section row
open Go.ChangeShapes Go.WideShapes Go.ChangeAt Go.Deep
theorem Tryz.c34q : Tryz.prog.cellsOf 34 = 2 := by kernel_rfl
section
variable {H : Type} {enc : TypeId × Value → H} {w : World} {fuel : Nat} {cs : List Value} {x : DataW H × List MemPlace}
set_option maxRecDepth 100000 in
theorem read_Tq (h : DataW.trod enc Tryz.prog w 0 (fun _ => true) true fuel 34 cs = some x) (hl : InReach Tryz.prog 34 x.1) : ∃ a b : Int, cs = [.int .i64 a, .int .i64 b] := by
  have hn := read_len Tryz.underlying34 h
  rw [Tryz.c34q] at hn
  obtain ⟨n1, y1, h1, _⟩ := read_at Tryz.underlying34 h hl 0 rfl Tryz.c3
  obtain ⟨n2, y2, h2, _⟩ := read_at Tryz.underlying34 h hl 1 rfl Tryz.c3
  obtain ⟨a, ha, _, _⟩ := DataW.trod_int Tryz.underlying3 h1
  obtain ⟨b, hb, _, _⟩ := DataW.trod_int Tryz.underlying3 h2
  match cs, hn with
  | [u, v], _ =>
    simp at ha hb
    subst ha; subst hb
    exact ⟨a, b, rfl⟩
end

set_option maxRecDepth 100000 in
set_option maxHeartbeats 1600000 in
theorem sweepGaps_lifted (os : Os) (started : os.Started) (H : Type) (enc : TypeId × Value → H) :
    ReturnsInHanded {} Tryz.checked os 5 .any (Rows.sweepGapsSpec.pre6 enc Tryz.prog Tryz.f5 Rows.sweepGapsRow.domain false) (Rows.sweepGapsSpec.post enc Tryz.prog Tryz.f5 false true false false) := by
  refine returnsInHanded_of_change_sized (C := Tryz.checked) (by kernel_rfl : ownKnob Tryz.prog.godebug = none) started (by kernel_rfl) Tryz.func5
    (ChangeSpec.witness6 (enc := enc) (C := Tryz.checked) false ⟨#[], #[.agg #[.slice none 0 0, .slice none 0 0], .agg #[.int .i64 0, .int .i64 0], .agg #[.int .i64 0, .int .i64 0], .int .i64 0], []⟩ 8 (by kernel_rfl) (by kernel_rfl) (by kernel_rfl) (by kernel_rfl)) ?_
  intro W base args ds gs before hval0 hW _ hsz0 _
  have hsz : (DataW.weightsEach Tryz.prog (Tryz.f5.params.toList ++ Rows.sweepGapsSpec.plain.varTypes Tryz.prog) (ds ++ gs)).all (· ≤ reachBytes) = true := hsz0
  clear hsz0
  have hval : ∀ (j : Nat) t v, Tryz.f5.params[j]? = some t → args[j]? = some v → Value.okWide Tryz.prog W .any base t v := hval0
  have hW' := hW
  obtain ⟨p, q, hA0, hV, rfl, hfz, _⟩ := hW
  have hA : DataW.TrodAll enc Tryz.prog W 0 (fun _ => true) true Tryz.f5.params.toList args.toList ds p := hA0
  rw [Tryz.params5] at hA hval hsz
  obtain ⟨v0, v1, v2, v3, d0, d1, d2, d3, p0, p1, p2, p3, rfl, rfl, rfl, h0, h1, h2, h3⟩ := trodAll_four hA
  obtain ⟨rfl, rfl⟩ := trodVars_none hV
  obtain ⟨cs0, rfl, hcs0⟩ := okWide_struct Tryz.underlying25 (hval 0 25 v0 rfl rfl)
  obtain ⟨cs1, rfl, hcs1⟩ := okWide_struct Tryz.underlying34 (hval 1 34 v1 rfl rfl)
  obtain ⟨cs2, rfl, hcs2⟩ := okWide_struct Tryz.underlying34 (hval 2 34 v2 rfl rfl)
  obtain ⟨r3, rfl, rfl, rfl, wr3⟩ := open_int Tryz.underlying3 (hval 3 3 v3 rfl rfl) h3
  have h0k := h0
  have h1k := h1
  have h2k := h2
  obtain ⟨fuel0, hf0⟩ := h0
  obtain ⟨fuel1, hf1⟩ := h1
  obtain ⟨fuel2, hf2⟩ := h2
  clear hA0 hval0 hA
  simp only [List.append_nil] at hW' hsz
  have hlt : ∀ x ∈ p0 ++ p1 ++ p2, x.block < W.heap.size := fun x hx => hW'.lt x (by simpa using hx)
  obtain ⟨pl, A, c, A2, c2, hq0, hP⟩ := read_Pl (enc := enc) (w := W) (x := (d0, p0)) hf0 (fun n hn => by
    have := List.all_eq_true.1 hsz n (DataW.weights_mem_each (j := 0) (t := 25) (d := d0) rfl rfl n hn)
    simpa using this)
  obtain ⟨x1, y1, hq1⟩ := read_Tq (enc := enc) (w := W) (x := (d1, p1)) hf1 (fun n hn => by
    have := List.all_eq_true.1 hsz n (DataW.weights_mem_each (j := 1) (t := 34) (d := d1) rfl rfl n hn)
    simpa using this)
  obtain ⟨x2, y2, hq2⟩ := read_Tq (enc := enc) (w := W) (x := (d2, p2)) hf2 (fun n hn => by
    have := List.all_eq_true.1 hsz n (DataW.weights_mem_each (j := 2) (t := 34) (d := d2) rfl rfl n hn)
    simpa using this)
  obtain rfl : cs0 = #[.slice A pl.nodes.length c, .slice A2 pl.rails.length c2] := by
    apply Array.toList_inj.1
    simpa [Value.cells] using hq0
  obtain rfl : cs1 = #[.int .i64 x1, .int .i64 y1] := by
    apply Array.toList_inj.1
    simpa [Value.cells] using hq1
  obtain rfl : cs2 = #[.int .i64 x2, .int .i64 y2] := by
    apply Array.toList_inj.1
    simpa [Value.cells] using hq2
  refine (SW.SweepGaps_any A A2 c c2 pl x1 y1 x2 y2 r3 W hP).mono fun e W' ⟨he, hb⟩ => ?_
  subst he
  have hs : W.Since W.heap.size W' := ⟨hb.os, hb.tape, hb.output, hb.size, hb.block⟩
  have laid : laidOutB Tryz.prog = true := by kernel_rfl
  have ha0 : DataW.Trod enc Tryz.prog W' 0 (fun b => decide (b < W.heap.size)) true 25 (.agg #[.slice A pl.nodes.length c, .slice A2 pl.rails.length c2]) d0 p0 :=
    WideElems.Trod_stays laid (by kernel_rfl) (of_decide_eq_true (by kernel_rfl)) h0k (fun x hx => hs.sameAt (hlt x (by simp [hx]))) (fun x hx => by simpa using hlt x (by simp [hx]))
  have ha1 : DataW.Trod enc Tryz.prog W' 0 (fun b => decide (b < W.heap.size)) true 34 (.agg #[.int .i64 x1, .int .i64 y1]) d1 p1 :=
    WideElems.Trod_stays laid (by kernel_rfl) (of_decide_eq_true (by kernel_rfl)) h1k (fun x hx => hs.sameAt (hlt x (by simp [hx]))) (fun x hx => by simpa using hlt x (by simp [hx]))
  have ha2 : DataW.Trod enc Tryz.prog W' 0 (fun b => decide (b < W.heap.size)) true 34 (.agg #[.int .i64 x2, .int .i64 y2]) d2 p2 :=
    WideElems.Trod_stays laid (by kernel_rfl) (of_decide_eq_true (by kernel_rfl)) h2k (fun x hx => hs.sameAt (hlt x (by simp [hx]))) (fun x hx => by simpa using hlt x (by simp [hx]))
  exact ⟨_, rfl, _, _, _, [], p0 ++ p1 ++ p2, [], hW', trodAll_mk1 (shut_bool Tryz.underlying4 true), by have := trodAll_mk4 ha0 ha1 ha2 (shut_int (enc := enc) (P := Tryz.prog) (w := W') (base := 0) (spare := fun b => decide (b < W.heap.size)) (held := true) Tryz.underlying3 wr3); (try simp only [List.append_nil, List.nil_append, ← List.append_assoc] at this); exact this, rfl, hs.frame _, fun h => by cases h⟩

theorem sweepGaps_holds : Rows.SweepGapsSaid :=
  OpenClaim.holds_of_wide 5 Tryz.f5 rfl rfl rfl rfl rfl rfl rfl ⟨rfl, rfl, rfl, rfl, rfl⟩ rfl rfl rfl rfl rfl (by kernel_rfl) Tryz.func5 (by kernel_rfl)
    (of_decide_eq_true (by kernel_rfl)) (by unfold Func.isWrapper; rw [if_neg (of_decide_eq_false (by kernel_rfl))]; exact ⟨rfl, rfl⟩)
    (fun os started H enc _ => sweepGaps_lifted os started H enc)
end row
end Go.Proofs.YtekambdnmaompaaGreat
