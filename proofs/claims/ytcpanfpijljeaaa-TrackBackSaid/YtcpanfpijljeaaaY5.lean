/- TrackBack returns true for every plan and every two moves; its arguments read afterwards as they read before. No condition. -/
import Derived.Test.YtcpanfpijljeaaaRows
import Derived.Test.YtcpanfpijljeaaaX2
import Derived.Test.YtcpanfpijljeaaaY4
import Derived.Test.YtcpanfpijljeaaaW3
import Derived.Test.YtcpanfpijljeaaaV1
import Derived.WalkKit
import Derived.ProofKit
import Derived.Deep.OwnRows
import Derived.Deep.CondSized
import Derived.WideKeyArgs
import Derived.ReadAgain
namespace Go.Proofs.Ytcpanfpijljeaaa
set_option linter.unusedVariables false
set_option linter.unusedSimpArgs false
open Go.ChangeShapes Go.WideShapes Go.ChangeAt Go.RowKit Go.Deep

theorem Try.c40 : Try.prog.cellsOf 40 = 2 := by kernel_rfl
section
variable {H : Type} {enc : TypeId × Value → H} {w : World} {fuel : Nat} {cs : List Value} {x : DataW H × List MemPlace}
set_option maxRecDepth 100000 in
theorem read_M (h : DataW.trod enc Try.prog w 0 (fun _ => true) true fuel 40 cs = some x) (hl : InReach Try.prog 40 x.1) : ∃ z : E, CE z cs := by
  have hn := read_len Try.underlying40 h
  rw [Try.c40] at hn
  obtain ⟨n1, y1, h1, _⟩ := read_at Try.underlying40 h hl 0 rfl Try.c3
  obtain ⟨n2, y2, h2, _⟩ := read_at Try.underlying40 h hl 1 rfl Try.c4
  obtain ⟨a, ha, _, _⟩ := DataW.trod_int Try.underlying3 h1
  obtain ⟨b, hb, _⟩ := DataW.trod_bool Try.underlying4 h2
  match cs, hn with
  | [u, v], _ =>
    simp at ha hb
    subst ha; subst hb
    exact ⟨⟨a, b⟩, rfl⟩
end

/-- what the specification's Valid answers -/
def ValidIs : Prop := ∀ (A A2 : Option Addr) (c c2 : Nat) (p : Pl) (w : World), PlAt w w.heap.size A c A2 c2 p →
  Calls Try.prog 11 #[.agg #[.slice A p.nodes.length c, .slice A2 p.rails.length c2]] w fun e w' => (∃ b, e = .returned (.bool b) ∧ (b = true ↔ Vld p)) ∧ Below w.heap.size w w'
theorem valid_bool (hV : ValidIs) (A A2 : Option Addr) (c c2 : Nat) (p : Pl) : ∃ v : Bool, (v = true ↔ Vld p) ∧ ∀ w, PlAt w w.heap.size A c A2 c2 p → Calls Try.prog 11 #[.agg #[.slice A p.nodes.length c, .slice A2 p.rails.length c2]] w fun e w' => e = .returned (.bool v) ∧ Below w.heap.size w w' := by
  by_cases hv : Vld p
  · refine ⟨true, ⟨fun _ => hv, fun _ => rfl⟩, fun w hP => (hV A A2 c c2 p w hP).mono ?_⟩
    rintro e w' ⟨⟨b, rfl, h1⟩, hb⟩
    exact ⟨by rw [h1.2 hv], hb⟩
  · refine ⟨false, ⟨fun h => (by cases h), fun h => absurd h hv⟩, fun w hP => (hV A A2 c c2 p w hP).mono ?_⟩
    rintro e w' ⟨⟨b, rfl, h1⟩, hb⟩
    cases b
    · exact ⟨rfl, hb⟩
    · exact absurd (h1.1 rfl) hv

set_option maxRecDepth 100000 in
set_option maxHeartbeats 1600000 in
theorem trackBack_lifted (hVal : ValidIs) (os : Os) (started : os.Started) (H : Type) (enc : TypeId × Value → H) :
    ReturnsInHanded {} Try.checked os 5 .any (Rows.trackBackSpec.pre6 enc Try.prog Try.f5 Rows.trackBackRow.domain false) (Rows.trackBackSpec.post enc Try.prog Try.f5 false true false false) := by
  refine returnsInHanded_of_change_sized (C := Try.checked) (by kernel_rfl : ownKnob Try.prog.godebug = none) started (by kernel_rfl) Try.func5
    (ChangeSpec.witness6 (enc := enc) (C := Try.checked) false ⟨#[], #[.agg #[.slice none 0 0, .slice none 0 0], .agg #[.int .i64 0, .bool false], .agg #[.int .i64 0, .bool false]], []⟩ 8 (by kernel_rfl) (by kernel_rfl) (by kernel_rfl) (by kernel_rfl)) ?_
  intro W base args ds gs before hval0 hW _ hsz0 _
  have hsz : (DataW.weightsEach Try.prog (Try.f5.params.toList ++ Rows.trackBackSpec.plain.varTypes Try.prog) (ds ++ gs)).all (· ≤ reachBytes) = true := hsz0
  clear hsz0
  have hval : ∀ (j : Nat) t v, Try.f5.params[j]? = some t → args[j]? = some v → Value.okWide Try.prog W .any base t v := hval0
  have hW' := hW
  obtain ⟨p, q, hA0, hV, rfl, hfz, _⟩ := hW
  have hA : DataW.TrodAll enc Try.prog W 0 (fun _ => true) true Try.f5.params.toList args.toList ds p := hA0
  rw [Try.params5] at hA hval hsz
  obtain ⟨v0, v1, v2, d0, d1, d2, p0, p1, p2, rfl, rfl, rfl, h0, h1, h2⟩ := trodAll_three hA
  obtain ⟨rfl, rfl⟩ := trodVars_none hV
  obtain ⟨cs, rfl, hcs⟩ := okWide_struct Try.underlying25 (hval 0 25 v0 rfl rfl)
  obtain ⟨cs1, rfl, hcs1⟩ := okWide_struct Try.underlying40 (hval 1 40 v1 rfl rfl)
  obtain ⟨cs2, rfl, hcs2⟩ := okWide_struct Try.underlying40 (hval 2 40 v2 rfl rfl)
  have h0k := h0
  have h1k := h1
  have h2k := h2
  obtain ⟨fuel, hf⟩ := h0
  obtain ⟨fuel1, hf1⟩ := h1
  obtain ⟨fuel2, hf2⟩ := h2
  clear hA0 hval0 hA
  simp only [List.append_nil] at hW' hsz
  have hlt : ∀ x ∈ p0 ++ p1 ++ p2, x.block < W.heap.size := fun x hx => hW'.lt x hx
  obtain ⟨pl, A, c, A2, c2, hcs3, hP⟩ := read_Pl (enc := enc) (w := W) (x := (d0, p0)) hf (fun n hn => by
    have := List.all_eq_true.1 hsz n (DataW.weights_mem_each (j := 0) (t := 25) (d := d0) rfl rfl n hn)
    simpa using this)
  obtain ⟨m, hm⟩ := read_M (enc := enc) (w := W) (x := (d1, p1)) hf1 (fun n hn => by
    have := List.all_eq_true.1 hsz n (DataW.weights_mem_each (j := 1) (t := 40) (d := d1) rfl rfl n hn)
    simpa using this)
  obtain ⟨n, hn⟩ := read_M (enc := enc) (w := W) (x := (d2, p2)) hf2 (fun n hn => by
    have := List.all_eq_true.1 hsz n (DataW.weights_mem_each (j := 2) (t := 40) (d := d2) rfl rfl n hn)
    simpa using this)
  have hcs4 : cs = #[.slice A pl.nodes.length c, .slice A2 pl.rails.length c2] := by
    apply Array.toList_inj.1
    simpa [Value.cells] using hcs3
  have hm4 : cs1 = #[.int .i64 m.rail, .bool m.last] := by
    apply Array.toList_inj.1
    unfold CE at hm
    simpa [Value.cells] using hm
  have hn4 : cs2 = #[.int .i64 n.rail, .bool n.last] := by
    apply Array.toList_inj.1
    unfold CE at hn
    simpa [Value.cells] using hn
  subst hcs4; subst hm4; subst hn4
  refine (TrackBack_of A A2 c c2 pl m n W hP (valid_bool hVal A A2 c c2 pl) known_any).mono fun e W' ⟨he, hb⟩ => ?_
  subst he
  have hs : W.Since W.heap.size W' := ⟨hb.os, hb.tape, hb.output, hb.size, hb.block⟩
  have laid : laidOutB Try.prog = true := by kernel_rfl
  have hargs : DataW.Trod enc Try.prog W' 0 (fun b => decide (b < W.heap.size)) true 25 (.agg #[.slice A pl.nodes.length c, .slice A2 pl.rails.length c2]) d0 p0 :=
    WideElems.Trod_stays laid (by kernel_rfl) (of_decide_eq_true (by kernel_rfl)) h0k (fun x hx => hs.sameAt (hlt x (by simp [hx]))) (fun x hx => by simpa using hlt x (by simp [hx]))
  have hargs1 : DataW.Trod enc Try.prog W' 0 (fun b => decide (b < W.heap.size)) true 40 (.agg #[.int .i64 m.rail, .bool m.last]) d1 p1 :=
    WideElems.Trod_stays laid (by kernel_rfl) (of_decide_eq_true (by kernel_rfl)) h1k (fun x hx => hs.sameAt (hlt x (by simp [hx]))) (fun x hx => by simpa using hlt x (by simp [hx]))
  have hargs2 : DataW.Trod enc Try.prog W' 0 (fun b => decide (b < W.heap.size)) true 40 (.agg #[.int .i64 n.rail, .bool n.last]) d2 p2 :=
    WideElems.Trod_stays laid (by kernel_rfl) (of_decide_eq_true (by kernel_rfl)) h2k (fun x hx => hs.sameAt (hlt x (by simp [hx]))) (fun x hx => by simpa using hlt x (by simp [hx]))
  exact ⟨_, rfl, _, _, _, [], p0 ++ p1 ++ p2, [], hW', trodAll_mk1 (shut_bool Try.underlying4 true), by have := trodAll_mk3 hargs hargs1 hargs2; rw [← List.append_assoc] at this; exact this, rfl, hs.frame _, fun h => by cases h⟩

theorem trackBack_of (hVal : ValidIs) : Rows.TrackBackSaid :=
  OpenClaim.holds_of_wide 5 Try.f5 rfl rfl rfl rfl rfl rfl rfl ⟨rfl, rfl, rfl, rfl, rfl⟩ rfl rfl rfl rfl rfl (by kernel_rfl) Try.func5 (by kernel_rfl)
    (of_decide_eq_true (by kernel_rfl)) (by unfold Func.isWrapper; rw [if_neg (of_decide_eq_false (by kernel_rfl))]; exact ⟨rfl, rfl⟩)
    (fun os started H enc _ => trackBack_lifted hVal os started H enc)

theorem trackBack_holds : Rows.TrackBackSaid := trackBack_of fun A A2 c c2 p w hP => Valid_any A A2 c c2 p w hP
end Go.Proofs.Ytcpanfpijljeaaa
