/- The row of SweepFouls. -/
import Derived.Test.YtekambdnmaompaaGreatRows
import Derived.Test.YtekambdnmaompaaGreatT9
import Derived.Test.YtekambdnmaompaaGreatX2
import Derived.WalkKit
import Derived.ProofKit
import Derived.Deep.OwnRows
import Derived.Deep.CondSized
import Derived.WideKeyArgs
import Derived.ReadAgain
namespace Go.Proofs.YtekambdnmaompaaGreat
set_option linter.unusedVariables false
set_option linter.unusedSimpArgs false
open Go.RowKit

section row
open Go.ChangeShapes Go.WideShapes Go.ChangeAt Go.Deep
theorem Tryz.c46q : Tryz.prog.cellsOf 46 = 2 := by kernel_rfl
theorem Tryz.b46q : 1 ≤ Tryz.prog.bytesOf 46 := by rw [show Tryz.prog.bytesOf 46 = 16 by kernel_rfl]; omega
section
variable {H : Type} {enc : TypeId × Value → H} {w : World} {fuel : Nat} {cs : List Value} {x : DataW H × List MemPlace}
set_option maxRecDepth 100000 in
theorem read_Rq (h : DataW.trod enc Tryz.prog w 0 (fun _ => true) true fuel 46 cs = some x) (hl : InReach Tryz.prog 46 x.1) : ∃ z : S, CS z cs := by
  have hn := read_len Tryz.underlying46 h
  rw [Tryz.c46q] at hn
  obtain ⟨n1, y1, h1, _⟩ := read_at Tryz.underlying46 h hl 0 rfl Tryz.c3
  obtain ⟨n2, y2, h2, _⟩ := read_at Tryz.underlying46 h hl 1 rfl Tryz.c3
  obtain ⟨a, ha, _, _⟩ := DataW.trod_int Tryz.underlying3 h1
  obtain ⟨b, hb, _, _⟩ := DataW.trod_int Tryz.underlying3 h2
  match cs, hn with
  | [u, v], _ =>
    simp at ha hb
    subst ha; subst hb
    exact ⟨⟨a, b⟩, rfl⟩
theorem read_Csq (h : DataW.trod enc Tryz.prog w 0 (fun _ => true) true fuel 50 cs = some x) (hl : InReach Tryz.prog 50 x.1) :
    ∃ (A : Option Addr) (l : List S) (c : Nat), cs = [.slice A l.length c] ∧ Sl w w.heap.size 2 CS A l ∧ l.length ≤ c ∧ c ≤ 140737488351232 :=
  read_slice (C := CS) Tryz.underlying50 Tryz.c46q (by omega) Tryz.b46q h hl fun n cs' y h hl => read_Rq h hl
end

set_option maxRecDepth 100000 in
set_option maxHeartbeats 1600000 in
theorem sweepFouls_lifted (os : Os) (started : os.Started) (H : Type) (enc : TypeId × Value → H) :
    ReturnsInHanded {} Tryz.checked os 7 .any (Rows.sweepFoulsSpec.pre6 enc Tryz.prog Tryz.f7 Rows.sweepFoulsRow.domain false) (Rows.sweepFoulsSpec.post enc Tryz.prog Tryz.f7 false true false false) := by
  refine returnsInHanded_of_change_sized (C := Tryz.checked) (by kernel_rfl : ownKnob Tryz.prog.godebug = none) started (by kernel_rfl) Tryz.func7
    (ChangeSpec.witness6 (enc := enc) (C := Tryz.checked) false ⟨#[], #[.agg #[.slice none 0 0, .slice none 0 0], .slice none 0 0], []⟩ 8 (by kernel_rfl) (by kernel_rfl) (by kernel_rfl) (by kernel_rfl)) ?_
  intro W base args ds gs before hval0 hW _ hsz0 _
  have hsz : (DataW.weightsEach Tryz.prog (Tryz.f7.params.toList ++ Rows.sweepFoulsSpec.plain.varTypes Tryz.prog) (ds ++ gs)).all (· ≤ reachBytes) = true := hsz0
  clear hsz0
  have hval : ∀ (j : Nat) t v, Tryz.f7.params[j]? = some t → args[j]? = some v → Value.okWide Tryz.prog W .any base t v := hval0
  have hW' := hW
  obtain ⟨p, q, hA0, hV, rfl, hfz, _⟩ := hW
  have hA : DataW.TrodAll enc Tryz.prog W 0 (fun _ => true) true Tryz.f7.params.toList args.toList ds p := hA0
  rw [Tryz.params7] at hA hval hsz
  obtain ⟨v0, v1, d0, d1, p0, p1, rfl, rfl, rfl, h0, h1⟩ := trodAll_two hA
  obtain ⟨rfl, rfl⟩ := trodVars_none hV
  obtain ⟨cs0, rfl, hcs0⟩ := okWide_struct Tryz.underlying25 (hval 0 25 v0 rfl rfl)
  obtain ⟨B1, len1, cap1, rfl⟩ := okWide_slice Tryz.underlying50 (hval 1 50 v1 rfl rfl)
  have h0k := h0
  have h1k := h1
  obtain ⟨fuel0, hf0⟩ := h0
  obtain ⟨fuel1, hf1⟩ := h1
  clear hA0 hval0 hA
  simp only [List.append_nil] at hW' hsz
  have hlt : ∀ x ∈ p0 ++ p1, x.block < W.heap.size := fun x hx => hW'.lt x (by simpa using hx)
  obtain ⟨pl, A, c, A2, c2, hq0, hP⟩ := read_Pl (enc := enc) (w := W) (x := (d0, p0)) hf0 (fun n hn => by
    have := List.all_eq_true.1 hsz n (DataW.weights_mem_each (j := 0) (t := 25) (d := d0) rfl rfl n hn)
    simpa using this)
  obtain ⟨D1, l1, e1, hq1, hS1, hlc1, hcm1⟩ := read_Csq (enc := enc) (w := W) (x := (d1, p1)) hf1 (fun n hn => by
    have := List.all_eq_true.1 hsz n (DataW.weights_mem_each (j := 1) (t := 50) (d := d1) rfl rfl n hn)
    simpa using this)
  obtain rfl : cs0 = #[.slice A pl.nodes.length c, .slice A2 pl.rails.length c2] := by
    apply Array.toList_inj.1
    simpa [Value.cells] using hq0
  obtain ⟨rfl, rfl, rfl⟩ : B1 = D1 ∧ len1 = l1.length ∧ cap1 = e1 := by simpa [Value.cells] using hq1
  refine (SW.SweepFouls_any A A2 B1 c c2 cap1 pl l1 W hP hS1 (by omega)).mono fun e W' ⟨he, hb⟩ => ?_
  subst he
  have hs : W.Since W.heap.size W' := ⟨hb.os, hb.tape, hb.output, hb.size, hb.block⟩
  have laid : laidOutB Tryz.prog = true := by kernel_rfl
  have ha0 : DataW.Trod enc Tryz.prog W' 0 (fun b => decide (b < W.heap.size)) true 25 (.agg #[.slice A pl.nodes.length c, .slice A2 pl.rails.length c2]) d0 p0 :=
    WideElems.Trod_stays laid (by kernel_rfl) (of_decide_eq_true (by kernel_rfl)) h0k (fun x hx => hs.sameAt (hlt x (by simp [hx]))) (fun x hx => by simpa using hlt x (by simp [hx]))
  have ha1 : DataW.Trod enc Tryz.prog W' 0 (fun b => decide (b < W.heap.size)) true 50 (.slice B1 l1.length cap1) d1 p1 :=
    WideElems.Trod_stays laid (by kernel_rfl) (of_decide_eq_true (by kernel_rfl)) h1k (fun x hx => hs.sameAt (hlt x (by simp [hx]))) (fun x hx => by simpa using hlt x (by simp [hx]))
  exact ⟨_, rfl, _, _, _, [], p0 ++ p1, [], hW', trodAll_mk1 (shut_bool Tryz.underlying4 true), by have := trodAll_mk2 ha0 ha1; (try simp only [List.append_nil, List.nil_append, ← List.append_assoc] at this); exact this, rfl, hs.frame _, fun h => by cases h⟩

theorem sweepFouls_holds : Rows.SweepFoulsSaid :=
  OpenClaim.holds_of_wide 7 Tryz.f7 rfl rfl rfl rfl rfl rfl rfl ⟨rfl, rfl, rfl, rfl, rfl⟩ rfl rfl rfl rfl rfl (by kernel_rfl) Tryz.func7 (by kernel_rfl)
    (of_decide_eq_true (by kernel_rfl)) (by unfold Func.isWrapper; rw [if_neg (of_decide_eq_false (by kernel_rfl))]; exact ⟨rfl, rfl⟩)
    (fun os started H enc _ => sweepFouls_lifted os started H enc)
end row
end Go.Proofs.YtekambdnmaompaaGreat
