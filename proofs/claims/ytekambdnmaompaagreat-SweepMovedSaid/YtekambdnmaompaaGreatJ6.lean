/- Contracts: few, Example, touched. -/
import Derived.DeepKeys4
import Derived.Maps.Own
import Derived.Test.YtekambdnmaompaaGreatJ3
import Derived.Test.YtekambdnmaompaaGreatJ4
import Derived.Test.YtekambdnmaompaaGreatJ9
import Derived.Test.YtekambdnmaompaaGreatJS
import Derived.WideKeyMaps
namespace Go.Proofs.YtekambdnmaompaaGreat.SW
set_option linter.unusedVariables false
set_option linter.unusedSimpArgs false
open Go.RowKit
open Go.ChangeMaps (setBlock heap_setBlock_same heap_setBlock_other)

theorem laid34 : laidOutB Tryz.prog = true := by kernel_rfl
theorem row34 : (34 : TypeId) < Tryz.prog.types.size := of_decide_eq_true (by kernel_rfl)
theorem wide34 : (match Tryz.prog.underlying 34 with | some (.array _ _) | some (.struct _) => true | _ => false) = true := by rw [Tryz.underlying34]
set_option maxRecDepth 100000 in
theorem law34 : Maps.Keyed Tryz.prog 34 := Maps.Keyed.of_law (Go.deep_law_laid laid34 (m := 2) (by omega) row34 (by kernel_rfl) wide34)
theorem cells34 : Tryz.prog.cellsOf 34 = 2 := by kernel_rfl
theorem cells3k : Tryz.prog.cellsOf 3 = 1 := by kernel_rfl
theorem deep34 : Tryz.prog.keyType 34 = true := by kernel_rfl
theorem zero4b (w : World) : (zeroValue 4).run Tryz.prog w = .ok (.bool false) w := by kernel_rfl
def kv (q : Int × Int) : Value := .agg #[.int .i64 q.1, .int .i64 q.2]
def kOk (q : Int × Int) : Prop := (Lit.int .i64 q.1).wf = true ∧ (Lit.int .i64 q.2).wf = true
theorem key_ok {q : Int × Int} (h : kOk q) : ∃ l, keyOf Tryz.prog 34 (kv q) = some l := by
  have hf : (kv q).formed Tryz.prog 34 = true := by simp [kv, Value.formed, Tryz.underlying34, cells34]
  have hs : (34 : Nat) < Tryz.prog.types.size := row34
  obtain ⟨D, hD⟩ : ∃ D, Tryz.prog.types.size + 1 = D + 2 := ⟨Tryz.prog.types.size - 1, by omega⟩
  unfold keyOf
  rw [Tryz.underlying34]
  simp only
  rw [deep34, hf, hD]
  obtain ⟨h1, h2⟩ := h
  simp [Program.keyLits, Tryz.underlying34, Tryz.underlying3, cells34, cells3k, kv, Value.cells, h1, h2]
/-- block b is a map whose keys are ks, each of them true -/
def SetAt (w : World) (b : Nat) (ks : List (Int × Int)) : Prop :=
  ∃ es clock, w.heap[b]? = some (.map es clock) ∧ es.toList.map (fun e => (e.key, e.val)) = ks.map (fun q => (kv q, Value.bool true))
theorem SetAt.made (w : World) : SetAt (w.alloc (.map #[] 0)) w.heap.size [] := ⟨#[], 0, heap_alloc_new w _, by simp⟩
theorem SetAt.lt {w : World} {b : Nat} {ks : List (Int × Int)} (h : SetAt w b ks) : b < w.heap.size := by
  obtain ⟨_, _, hb, _⟩ := h; exact (Array.getElem?_eq_some_iff.1 hb).1
theorem SetAt.kept {w w' : World} {b : Nat} {ks : List (Int × Int)} (h : SetAt w b ks) (hb : w'.heap[b]? = w.heap[b]?) : SetAt w' b ks := by
  obtain ⟨es, c, h1, h2⟩ := h; exact ⟨es, c, hb.trans h1, h2⟩
theorem kv_inj {q r : Int × Int} (h : kv q = kv r) : q = r := by
  unfold kv at h
  injection h with h
  obtain ⟨a, b⟩ := q
  obtain ⟨c, d⟩ := r
  simp at h
  obtain ⟨rfl, rfl⟩ := h
  rfl
section
variable {w : World} {b : Nat} {ks : List (Int × Int)} {q : Int × Int}
theorem SetAt.mem (es : Array MapEntry) (hm : es.toList.map (fun e => (e.key, e.val)) = ks.map (fun q => (kv q, Value.bool true))) : ∀ e ∈ es.toList, ∃ r ∈ ks, e.key = kv r ∧ e.val = .bool true := fun e he => by
  have h1 : (e.key, e.val) ∈ ks.map (fun q => (kv q, Value.bool true)) := by rw [← hm]; exact List.mem_map.2 ⟨e, he, rfl⟩
  obtain ⟨r, hr, e1⟩ := List.mem_map.1 h1
  injection e1 with e1 e2
  exact ⟨r, hr, e1.symm, e2.symm⟩
theorem set_look (h : SetAt w b ks) (hk : ∀ r ∈ ks, kOk r) (hq : kOk q) : (Instr.lookup 171 (.map (some b)) (kv q) false).run Tryz.prog w = .ok (.bool (decide (q ∈ ks))) w := by
  obtain ⟨es, clock, hb, hm⟩ := h
  obtain ⟨l, hl⟩ := key_ok hq
  have hmem := SetAt.mem es hm
  rcases law34.find w hl es.toList (fun e he => by obtain ⟨r, hr, e1, _⟩ := hmem e he; rw [e1]; exact key_ok (hk r hr)) with ⟨h1, h2⟩ | ⟨j, e0, h1, h2, h3⟩
  · have hn : decide (q ∈ ks) = false := decide_eq_false fun hq2 => by
      have h4 : (kv q, Value.bool true) ∈ es.toList.map (fun e => (e.key, e.val)) := by rw [hm]; exact List.mem_map.2 ⟨q, hq2, rfl⟩
      obtain ⟨e, he, e1⟩ := List.mem_map.1 h4
      injection e1 with e1 e2
      exact h2 e he e1
    rw [hn]
    simp [Instr.lookup, run_underlying Tryz.underlying171, MapKept.run_getObj_map hb, law34.check w _ hl, h1, zero4b, Result.andThen]
  · have hm0 : e0 ∈ es.toList := List.mem_of_getElem? h2
    obtain ⟨r, hr, e1, e2⟩ := hmem e0 hm0
    have hqr : q = r := kv_inj (h3.symm.trans e1)
    have hn : decide (q ∈ ks) = true := decide_eq_true (by rw [hqr]; exact hr)
    rw [hn]
    simp [Instr.lookup, run_underlying Tryz.underlying171, MapKept.run_getObj_map hb, law34.check w _ hl, h1, e2, Result.andThen]
theorem set_add (h : SetAt w b ks) (hk : ∀ r ∈ ks, kOk r) (hq : kOk q) (hn : q ∉ ks) : ∃ w', (Instr.mapUpdate 171 (.map (some b)) (kv q) (.bool true)).run Tryz.prog w = .ok () w' ∧ SetAt w' b (ks ++ [q]) ∧ w.grownBy w' (some b) := by
  obtain ⟨es, clock, hb, hm⟩ := h
  obtain ⟨l, hl⟩ := key_ok hq
  have hmem := SetAt.mem es hm
  rcases law34.find w hl es.toList (fun e he => by obtain ⟨r, hr, e1, _⟩ := hmem e he; rw [e1]; exact key_ok (hk r hr)) with ⟨h1, h2⟩ | ⟨j, e0, h1, h2, h3⟩
  · refine ⟨setBlock w b (.map (es.push ⟨kv q, .bool true, clock⟩) (clock + 1)), ?_, ⟨_, _, heap_setBlock_same hb _, ?_⟩, ⟨rfl, rfl, rfl, by simp [setBlock], fun i _ hi => heap_setBlock_other hb _ (fun e => hi (by rw [e]))⟩⟩
    · simp [Instr.mapUpdate, run_underlying Tryz.underlying171, MapKept.run_getObj_map hb, law34.check w false hl, h1, MapKept.run_setObj_map _ hb, Result.andThen, setBlock]
    · rw [Array.toList_push, List.map_append, hm]; simp
  · have hm0 : e0 ∈ es.toList := List.mem_of_getElem? h2
    obtain ⟨r, hr, e1, e2⟩ := hmem e0 hm0
    exact absurd (by rw [kv_inj (h3.symm.trans e1)]; exact hr) hn
end
end Go.Proofs.YtekambdnmaompaaGreat.SW

namespace Go.Proofs.YtekambdnmaompaaGreat.SW
set_option linter.unusedVariables false
set_option linter.unusedSimpArgs false
open Go.RowKit

def fewB (p : Pl) : Bool := p.rails.all (fun r => decide (r.shape.length ≤ 40)) && (p.nodes.all (fun nd => decide (nd.ends.length ≤ 10)) && (decide (p.rails.length ≤ 12) && decide (p.nodes.length ≤ 16)))
theorem all_snoc_q {α : Type} {f : α → Bool} {l : List α} {i : Nat} (hi : i < l.length) : (l.take (i + 1)).all f = ((l.take i).all f && f l[i]) := by
  rw [List.take_succ_eq_append_getElem hi, List.all_append]
  simp
theorem not_all {α : Type} {f : α → Bool} {l : List α} {i : Nat} (hi : i < l.length) (h : f l[i] = false) : l.all f = false := by
  cases hl : l.all f with
  | false => rfl
  | true => rw [List.all_eq_true] at hl; rw [hl _ (List.getElem_mem hi)] at h; cases h
set_option maxRecDepth 100000 in
set_option maxHeartbeats 4000000 in
theorem few_any (A A2 : Option Addr) (c c2 : Nat) (p : Pl) (w : World) (hP : PlAt w w.heap.size A c A2 c2 p) :
    Calls Tryz.prog 15 #[.agg #[.slice A p.nodes.length c, .slice A2 p.rails.length c2]] w fun e w' => e = .returned (.bool (fewB p)) ∧ Below w.heap.size w w' := by
  have hrc := hP.rc; have hrm := hP.rm; have hnc := hP.nc; have hnm := hP.nm
  have HF := Lib.hid (show fewB p = (p.rails.all (fun r => decide (r.shape.length ≤ 40)) && (p.nodes.all (fun nd => decide (nd.ends.length ≤ 10)) && (decide (p.rails.length ≤ 12) && decide (p.nodes.length ≤ 16)))) from rfl)
  have hb1 := (Below.refl _ w).alloc (Nat.le_refl _) (.cells #[.slice A p.nodes.length c, .slice A2 p.rails.length c2] 25)
  have q1 := Rw.new w #[.slice A p.nodes.length c, .slice A2 p.rails.length c2] 25
  have hz1 : (w.alloc (.cells #[.slice A p.nodes.length c, .slice A2 p.rails.length c2] 25)).heap.size = w.heap.size + 1 := by simp
  obtain ⟨W1, hW1⟩ : ∃ z, w.alloc (.cells #[.slice A p.nodes.length c, .slice A2 p.rails.length c2] 25) = z := ⟨_, rfl⟩
  rw [hW1] at hb1 q1 hz1
  have e0 := q1.cell 0; have e1 := q1.cell 1
  have HB1 := Lib.hid hb1
  have hP1 := (hP.below hb1).more hb1.size
  have HPB := Lib.hid hP1
  obtain ⟨n, hn⟩ : ∃ z, p.rails.length = z := ⟨_, rfl⟩
  obtain ⟨m, hm⟩ : ∃ z, p.nodes.length = z := ⟨_, rfl⟩
  have HN := Lib.hid hn
  have HM := Lib.hid hm
  rw [hn] at hrc e1 hW1 ⊢
  rw [hm] at hnc e0 hW1 ⊢
  clear hb1 q1 hP hP1 hn hm
  go_enter Tryz.func15, Tryz.ntmps15
  go_wp2
  go_loopw [3] (fun s3 wr => wr = W1 ∧ ∃ i : Nat, i ≤ n ∧ s3 = .int .i64 (i : Int) ∧ (p.rails.take i).all (fun r => decide (r.shape.length ≤ 40)) = true) (fun s3 _ => n - (intOf s3).toNat)
  case atStart => exact ⟨rfl, 0, by omega, rfl, by simp⟩
  case round =>
    obtain ⟨rfl, i, hi, rfl, hall⟩ := hrel
    by_cases hlt : i < n
    · have hil : i < p.rails.length := by rw [HN.out]; exact hlt
      obtain ⟨b, off, A', c', eA, hb, _, hc1, hc2, _, _, k2, _, _⟩ := HPB.out.rail hil
      subst eA
      have HIL := Lib.hid hil
      have HAL := Lib.hid hall
      obtain ⟨q, hq⟩ : ∃ z, (p.rails[i]'hil).shape.length = z := ⟨_, rfl⟩
      have HQ := Lib.hid (show ∀ h : i < p.rails.length, decide ((p.rails[i]'h).shape.length ≤ 40) = decide (q ≤ 40) from fun h => by rw [hq])
      rw [hq] at hc1 k2
      have g1 : (i : Int) < (n : Int) := by omega
      have g0 : (0 : Int) ≤ (i : Int) := by omega
      clear hq hall
      by_cases h40 : (40 : Int) < (q : Int)
      · have HV := Lib.hid (show fewB p = false from by rw [HF.out, not_all (f := fun r : R => decide (r.shape.length ≤ 40)) HIL.out (by rw [HQ.out]; exact decide_eq_false (by omega))]; rfl)
        go_wp2
        go_ret
        exact ⟨by rw [HV.out]; rfl, HB1.out⟩
      · go_wp2
        go_roundw
        case rel => exact ⟨trivial, i + 1, by omega, by congr 1, by rw [all_snoc_q HIL.out, HAL.out, HQ.out]; simp; omega⟩
        case measure => simp [intOf] <;> omega
    · obtain rfl : i = n := by omega
      have HA1 := Lib.hid (show p.rails.all (fun r => decide (r.shape.length ≤ 40)) = true from by have := hall; rwa [List.take_of_length_le (by rw [HN.out]; omega)] at this)
      clear hall
      go_wp2
      go_loopw [4] (fun s4 wr2 => wr2 = wr ∧ ∃ j : Nat, j ≤ m ∧ s4 = .int .i64 (j : Int) ∧ (p.nodes.take j).all (fun nd => decide (nd.ends.length ≤ 10)) = true) (fun s4 _ => m - (intOf s4).toNat)
      case atStart => exact ⟨rfl, 0, by omega, rfl, by simp⟩
      case round =>
        obtain ⟨rfl, j, hj, rfl, hall⟩ := hrel
        by_cases hlt2 : j < m
        · have hjl : j < p.nodes.length := by rw [HM.out]; exact hlt2
          obtain ⟨b, off, A', c', eA, hb, _, hc1, hc2, _, _, _, k3, _⟩ := HPB.out.node hjl
          subst eA
          have HIL := Lib.hid hjl
          have HAL := Lib.hid hall
          obtain ⟨q, hq⟩ : ∃ z, (p.nodes[j]'hjl).ends.length = z := ⟨_, rfl⟩
          have HQ := Lib.hid (show ∀ h : j < p.nodes.length, decide ((p.nodes[j]'h).ends.length ≤ 10) = decide (q ≤ 10) from fun h => by rw [hq])
          rw [hq] at hc1 k3
          have g1 : (j : Int) < (m : Int) := by omega
          have g0 : (0 : Int) ≤ (j : Int) := by omega
          clear hq hall
          by_cases h10 : (10 : Int) < (q : Int)
          · have HV := Lib.hid (show fewB p = false from by rw [HF.out, not_all (f := fun nd : N => decide (nd.ends.length ≤ 10)) HIL.out (by rw [HQ.out]; exact decide_eq_false (by omega))]; simp)
            go_wp2
            go_ret
            exact ⟨by rw [HV.out]; rfl, HB1.out⟩
          · go_wp2
            go_roundw
            case rel => exact ⟨trivial, j + 1, by omega, by congr 1, by rw [all_snoc_q HIL.out, HAL.out, HQ.out]; simp; omega⟩
            case measure => simp [intOf] <;> omega
        · obtain rfl : j = m := by omega
          have HA2 := Lib.hid (show p.nodes.all (fun nd => decide (nd.ends.length ≤ 10)) = true from by have := hall; rwa [List.take_of_length_le (by rw [HM.out]; omega)] at this)
          clear hall
          by_cases h12 : (i : Int) ≤ 12
          · have HV := Lib.hid (show fewB p = decide ((j : Int) ≤ 16) from by rw [HF.out, HA1.out, HA2.out, HN.out, HM.out, Bool.true_and, Bool.true_and, decide_eq_true (show i ≤ 12 by omega), Bool.true_and]; exact decide_eq_decide.2 (by omega))
            go_wp2
            go_ret
            exact ⟨by rw [HV.out]; rfl, HB1.out⟩
          · have HV := Lib.hid (show fewB p = false from by rw [HF.out, HA1.out, HA2.out, HN.out, HM.out, Bool.true_and, Bool.true_and, decide_eq_false (show ¬ i ≤ 12 by omega), Bool.false_and])
            go_wp2
            go_ret
            exact ⟨by rw [HV.out]; rfl, HB1.out⟩
end Go.Proofs.YtekambdnmaompaaGreat.SW

namespace Go.Proofs.YtekambdnmaompaaGreat.SW
set_option linter.unusedVariables false
set_option linter.unusedSimpArgs false
open Go.RowKit

def exP : Pl := ⟨[⟨⟨0, 0⟩, 1, [⟨0, false⟩], 0⟩, ⟨⟨1000, 0⟩, 4, [⟨0, true⟩, ⟨1, false⟩, ⟨2, false⟩], 0⟩, ⟨⟨2000, 0⟩, 1, [⟨1, true⟩], 0⟩, ⟨⟨2000, 500⟩, 1, [⟨2, true⟩], 0⟩],
  [⟨0, 1, [], 8000, 0⟩, ⟨1, 2, [], 8000, 0⟩, ⟨1, 3, [⟨1600, 0⟩], 8000, 0⟩]⟩
theorem ex_sizes : sizesB exP = true := by decide
theorem ex_nodes : exP.nodes.all nodeB = true := by decide
theorem ex_rails : railsB exP = true := by decide +kernel
theorem ex_ends : okEnds exP := by
  refine ⟨fun i hi e he => ?_, ?_, rfl⟩
  · have hi' : i < 4 := hi
    rcases (show i = 0 ∨ i = 1 ∨ i = 2 ∨ i = 3 by omega) with rfl | rfl | rfl | rfl <;> simp [exP] at he <;> (try rcases he with rfl | rfl | rfl) <;> (try subst he) <;> exact ⟨by decide, by decide, by decide⟩
  · simp [flatE, exP]
theorem ex_valid : Vld exP := ⟨ex_sizes, ex_nodes, ex_rails, ex_ends⟩
theorem Sl.blk {α : Type} {C : α → List Value → Prop} {w : World} {B b size : Nat} {arr : Array Value} {t : TypeId} {l : List α} (h : w.heap[b]? = some (.cells arr t)) (hb : b < B)
    (hc : ∀ i x, l[i]? = some x → ∃ cs, C x cs ∧ ∀ j u, cs[j]? = some u → arr[i * size + j]? = some u) : Sl w B size C (some ⟨b, 0, none⟩) l := fun _ =>
  ⟨b, 0, rfl, hb, fun i x hx => by
    obtain ⟨cs, h1, h2⟩ := hc i x hx
    exact ⟨cs, h1, fun j u hu => by rw [cell_of_row _ _ _ _ _ _ h, Nat.zero_add]; exact h2 j u hu⟩⟩
theorem allocs_get : ∀ (os : List Obj) (w : World) (j : Nat) (o : Obj), os[j]? = some o → (os.foldl World.alloc w).heap[w.heap.size + j]? = some o ∧ w.heap.size + os.length = (os.foldl World.alloc w).heap.size
  | [], w, j, o, h => by simp at h
  | p :: os, w, 0, o, h => by
    obtain rfl : p = o := by simpa using h
    have key : ∀ (os : List Obj) (w : World) (k : Nat), k < w.heap.size → (os.foldl World.alloc w).heap[k]? = w.heap[k]? ∧ (os.foldl World.alloc w).heap.size = w.heap.size + os.length := fun os => by
      induction os with
      | nil => intro w k hk; exact ⟨rfl, rfl⟩
      | cons q os ih =>
        intro w k hk
        obtain ⟨h1, h2⟩ := ih (w.alloc q) k (by simp; omega)
        exact ⟨h1.trans (Below.heap_alloc w q k hk), by rw [List.foldl_cons, h2]; simp; omega⟩
    obtain ⟨h1, h2⟩ := key os (w.alloc p) w.heap.size (by simp)
    exact ⟨h1.trans (heap_alloc_new w p), by rw [List.foldl_cons, h2]; simp; omega⟩
  | p :: os, w, j + 1, o, h => by
    obtain ⟨h1, h2⟩ := allocs_get os (w.alloc p) j o (by simpa using h)
    rw [show (w.alloc p).heap.size = w.heap.size + 1 by simp] at h1 h2
    exact ⟨by rw [show w.heap.size + (j + 1) = w.heap.size + 1 + j by omega]; exact h1, by rw [List.foldl_cons, ← h2]; simp; omega⟩

def exO (N : Nat) : List Obj := [.cells #[.slice (some ⟨N + 1 + 1 + 1 + 1 + 1, 0, none⟩) 4 4, .slice (some ⟨N + 1 + 1 + 1 + 1 + 1 + 1 + 1, 0, none⟩) 3 3] 25, .cells #[.int .i64 0, .bool false] 107,
  .cells #[.int .i64 0, .bool true, .int .i64 1, .bool false, .int .i64 2, .bool false] 107, .cells #[.int .i64 1, .bool true] 107, .cells #[.int .i64 2, .bool true] 107,
  .cells #[.int .i64 0, .int .i64 0, .int .i64 1, .slice (some ⟨N + 1, 0, none⟩) 1 1, .int .i64 0, .int .i64 1000, .int .i64 0, .int .i64 4, .slice (some ⟨N + 1 + 1, 0, none⟩) 3 3, .int .i64 0,
    .int .i64 2000, .int .i64 0, .int .i64 1, .slice (some ⟨N + 1 + 1 + 1, 0, none⟩) 1 1, .int .i64 0, .int .i64 2000, .int .i64 500, .int .i64 1, .slice (some ⟨N + 1 + 1 + 1 + 1, 0, none⟩) 1 1, .int .i64 0] 87,
  .cells #[.int .i64 1600, .int .i64 0] 82,
  .cells #[.int .i64 0, .int .i64 1, .slice none 0 0, .int .i64 8000, .int .i64 0, .int .i64 1, .int .i64 2, .slice none 0 0, .int .i64 8000, .int .i64 0, .int .i64 1, .int .i64 3, .slice (some ⟨N + 1 + 1 + 1 + 1 + 1 + 1, 0, none⟩) 1 1, .int .i64 8000, .int .i64 0] 63]
theorem exO_plan (w : World) : PlAt ((exO w.heap.size).foldl World.alloc w) ((exO w.heap.size).foldl World.alloc w).heap.size (some ⟨w.heap.size + 1 + 1 + 1 + 1 + 1, 0, none⟩) 4 (some ⟨w.heap.size + 1 + 1 + 1 + 1 + 1 + 1 + 1, 0, none⟩) 3 exP := by
  have g := fun j o h => allocs_get (exO w.heap.size) w j o h
  have hz : w.heap.size + 8 = ((exO w.heap.size).foldl World.alloc w).heap.size := (g 0 _ rfl).2
  have h1 := (g 1 _ rfl).1; have h2 := (g 2 _ rfl).1; have h3 := (g 3 _ rfl).1; have h4 := (g 4 _ rfl).1
  have h5 := (g 5 _ rfl).1; have h6 := (g 6 _ rfl).1; have h7 := (g 7 _ rfl).1
  generalize (exO w.heap.size).foldl World.alloc w = W at *
  have e1 : Sl W W.heap.size 2 CE (some ⟨w.heap.size + 1, 0, none⟩) [⟨0, false⟩] := Sl.blk h1 (by omega) fun i x hx => by
    rcases i with _ | i
    · obtain rfl : _ = x := by simpa using hx
      exact ⟨_, rfl, fun j u hu => by rcases j with _ | _ | j <;> simp_all⟩
    · simp at hx
  have e2 : Sl W W.heap.size 2 CE (some ⟨w.heap.size + 1 + 1, 0, none⟩) [⟨0, true⟩, ⟨1, false⟩, ⟨2, false⟩] := Sl.blk h2 (by omega) fun i x hx => by
    rcases i with _ | _ | _ | i
    · obtain rfl : _ = x := by simpa using hx
      exact ⟨_, rfl, fun j u hu => by rcases j with _ | _ | j <;> simp_all⟩
    · obtain rfl : _ = x := by simpa using hx
      exact ⟨_, rfl, fun j u hu => by rcases j with _ | _ | j <;> simp_all⟩
    · obtain rfl : _ = x := by simpa using hx
      exact ⟨_, rfl, fun j u hu => by rcases j with _ | _ | j <;> simp_all⟩
    · simp at hx
  have e3 : Sl W W.heap.size 2 CE (some ⟨w.heap.size + 1 + 1 + 1, 0, none⟩) [⟨1, true⟩] := Sl.blk h3 (by omega) fun i x hx => by
    rcases i with _ | i
    · obtain rfl : _ = x := by simpa using hx
      exact ⟨_, rfl, fun j u hu => by rcases j with _ | _ | j <;> simp_all⟩
    · simp at hx
  have e4 : Sl W W.heap.size 2 CE (some ⟨w.heap.size + 1 + 1 + 1 + 1, 0, none⟩) [⟨2, true⟩] := Sl.blk h4 (by omega) fun i x hx => by
    rcases i with _ | i
    · obtain rfl : _ = x := by simpa using hx
      exact ⟨_, rfl, fun j u hu => by rcases j with _ | _ | j <;> simp_all⟩
    · simp at hx
  have e6 : Sl W W.heap.size 2 CS (some ⟨w.heap.size + 1 + 1 + 1 + 1 + 1 + 1, 0, none⟩) [⟨1600, 0⟩] := Sl.blk h6 (by omega) fun i x hx => by
    rcases i with _ | i
    · obtain rfl : _ = x := by simpa using hx
      exact ⟨_, rfl, fun j u hu => by rcases j with _ | _ | j <;> simp_all⟩
    · simp at hx
  refine ⟨Sl.blk h5 (by omega) fun i x hx => ?_, by decide, by omega, Sl.blk h7 (by omega) fun i x hx => ?_, by decide, by omega⟩
  · rcases i with _ | _ | _ | _ | i
    · obtain rfl : _ = x := by simpa [exP] using hx
      exact ⟨_, ⟨_, 1, rfl, e1, by simp, by omega⟩, fun j u hu => by rcases j with _ | _ | _ | _ | _ | j <;> simp_all⟩
    · obtain rfl : _ = x := by simpa [exP] using hx
      exact ⟨_, ⟨_, 3, rfl, e2, by simp, by omega⟩, fun j u hu => by rcases j with _ | _ | _ | _ | _ | j <;> simp_all⟩
    · obtain rfl : _ = x := by simpa [exP] using hx
      exact ⟨_, ⟨_, 1, rfl, e3, by simp, by omega⟩, fun j u hu => by rcases j with _ | _ | _ | _ | _ | j <;> simp_all⟩
    · obtain rfl : _ = x := by simpa [exP] using hx
      exact ⟨_, ⟨_, 1, rfl, e4, by simp, by omega⟩, fun j u hu => by rcases j with _ | _ | _ | _ | _ | j <;> simp_all⟩
    · simp [exP] at hx
  · rcases i with _ | _ | _ | i
    · obtain rfl : _ = x := by simpa [exP] using hx
      exact ⟨_, ⟨none, 0, rfl, Sl.nil, by simp, by omega⟩, fun j u hu => by rcases j with _ | _ | _ | _ | _ | j <;> simp_all⟩
    · obtain rfl : _ = x := by simpa [exP] using hx
      exact ⟨_, ⟨none, 0, rfl, Sl.nil, by simp, by omega⟩, fun j u hu => by rcases j with _ | _ | _ | _ | _ | j <;> simp_all⟩
    · obtain rfl : _ = x := by simpa [exP] using hx
      exact ⟨_, ⟨_, 1, rfl, e6, by simp, by omega⟩, fun j u hu => by rcases j with _ | _ | _ | _ | _ | j <;> simp_all⟩
    · simp [exP] at hx

def ExPost (w : World) (e : Ending) (w' : World) : Prop :=
  (∃ (A A2 : Option Addr), e = .returned (.agg #[.slice A 4 4, .slice A2 3 3]) ∧ PlAt w' w'.heap.size A 4 A2 3 exP) ∧ Below w.heap.size w w'
theorem exO_below (w : World) : Below w.heap.size w ((exO w.heap.size).foldl World.alloc w) := by
  simp only [exO, List.foldl_cons, List.foldl_nil]
  exact ((((((((Below.refl _ w).alloc (Nat.le_refl _) _).alloc (by simp) _).alloc (by simp; omega) _).alloc (by simp; omega) _).alloc (by simp; omega) _).alloc (by simp; omega) _).alloc (by simp; omega) _).alloc (by simp; omega) _
set_option maxRecDepth 100000 in
set_option maxHeartbeats 4000000 in
theorem Example_any (w : World) : Calls Tryz.prog 47 #[] w (ExPost w) := by
  have HP := Lib.hid (exO_plan w); have HB := Lib.hid (exO_below w)
  go_enter Tryz.func47, Tryz.ntmps47
  go_wp2
  exact bodyPost_ret (v := .agg #[.slice (some ⟨w.heap.size + 1 + 1 + 1 + 1 + 1, 0, none⟩) 4 4, .slice (some ⟨w.heap.size + 1 + 1 + 1 + 1 + 1 + 1 + 1, 0, none⟩) 3 3]) (by simp [results, Tryz.results47, go_sem]) rfl ⟨⟨_, _, rfl, HP.out⟩, HB.out⟩
end Go.Proofs.YtekambdnmaompaaGreat.SW

namespace Go.Proofs.YtekambdnmaompaaGreat.SW
set_option linter.unusedVariables false
set_option linter.unusedSimpArgs false
open Go.RowKit

def ckey (s : Swp) : Int × Int := (s.rail, s.seg)
def tstep (part : C3) (acc : List Swp) (s : Swp) : List Swp := if (decide (part.frm < s.en) && decide (s.bg < part.to)) && !decide (ckey s ∈ acc.map ckey) then acc ++ [s] else acc
def lnR (p : Pl) (r : Int) : List S := ((p.rails[r.toNat]?).map (lineOf p)).getD []
def alongP (p : Pl) (r : Int) : List Swp := alongL r.toNat (lnR p r)
def tpart (p : Pl) (acc : List Swp) (part : C3) : List Swp := (alongP p part.rail).foldl (tstep part) acc
/-- the strips that a car touches, each once, in the program's order -/
def touchedT (p : Pl) (parts : List C3) : List Swp := parts.foldl (tpart p) []
def lastEn (p : Pl) (r : Int) : Int := ((lenTo (lnR p r) ((lnR p r).length - 1) : Nat) : Int)
def coverB (p : Pl) (x : C3) : Bool := railIn p x.rail && (!decide (x.frm < 0) && (!decide (x.to ≤ x.frm) && !decide (lastEn p x.rail < x.to)))
def TouchOk (p : Pl) (parts : List C3) : Prop := parts.length ≤ 100 ∧ parts.all (coverB p) = true
theorem lnR_eq {p : Pl} {r : Nat} (h : r < p.rails.length) : lnR p (r : Int) = lineOf p p.rails[r] := by simp [lnR, h]
theorem tstep_len (part : C3) (acc : List Swp) (s : Swp) : (tstep part acc s).length ≤ acc.length + 1 := by
  unfold tstep; split <;> simp
theorem tfold_len (part : C3) : ∀ (l : List Swp) (acc : List Swp), (l.foldl (tstep part) acc).length ≤ acc.length + l.length
  | [], acc => by simp
  | s :: l, acc => by
    have h1 := tfold_len part l (tstep part acc s)
    have h2 := tstep_len part acc s
    rw [List.foldl_cons, List.length_cons]
    omega
theorem tstep_mem {part : C3} {acc : List Swp} {s t : Swp} (h : t ∈ tstep part acc s) : t ∈ acc ∨ t = s := by
  unfold tstep at h
  split at h
  · rcases List.mem_append.1 h with h | h
    · exact .inl h
    · exact .inr (List.mem_singleton.1 h)
  · exact .inl h
/-- what lies in memory while strips are gathered -/
def Aw (v : Value) (x : SwM) : Prop := ∀ a, x.A = some a → x.s.bends ≠ [] → v.ownBlock ≠ some a.block
theorem SwIn.lt {w : World} {x : SwM} (h : SwIn w x) {a : Addr} (ha : x.A = some a) (hne : x.s.bends ≠ []) : a.block < w.heap.size := by
  obtain ⟨b, o, e, hb, _⟩ := h.sl hne
  rw [ha] at e; cases e; exact hb
structure TI (base mb : Nat) (w : World) (v : Value) (xs : List SwM) : Prop where
  own : Own w base 98 13 fSw v xs
  sin : ∀ x ∈ xs, SwIn w x ∧ Aw v x
  set : SetAt w mb (xs.map fun x => ckey x.s)
  mlt : mb < base
theorem TI.below {base mb : Nat} {w w' : World} {v : Value} {xs : List SwM} (h : TI base mb w v xs) (hb : Below w.heap.size w w') : TI base mb w' v xs :=
  ⟨h.own.below hb (Nat.le_refl _), fun x hx => ⟨(h.sin x hx).1.below hb, (h.sin x hx).2⟩, h.set.kept (hb.block mb h.set.lt), h.mlt⟩
/-- cells lie as they lay, where neither the row nor the set is -/
structure KeepB (mb : Nat) (v : Value) (w w' : World) : Prop where
  sz : w.heap.size ≤ w'.heap.size
  bl : ∀ k, k < w.heap.size → k ≠ mb → v.ownBlock ≠ some k → w'.heap[k]? = w.heap[k]?
theorem SwIn.keepB {mb : Nat} {v : Value} {w w' : World} {x : SwM} (h : SwIn w x) (ha : Aw v x) (hk : KeepB mb v w w') (hm : ∀ o, w.heap[mb]? = some o → o.isCells = false) : SwIn w' x := by
  refine ⟨h.ok, ?_, h.le⟩
  by_cases hne : x.s.bends = []
  · rw [hne]; exact Sl.nil
  · refine Sl.keepA h.sl hk.sz (fun a q u hA hq hc => ?_)
    obtain ⟨o, ho, hoc⟩ := cells_of_cell hc
    have hlt : q.block < w.heap.size := (Array.getElem?_eq_some_iff.1 ho).1
    refine (World.cell?_of_block (hk.bl q.block hlt (fun e => ?_) (by rw [hq]; exact ha a hA hne))).trans hc
    rw [e] at ho
    rw [hm o ho] at hoc
    cases hoc
theorem SetAt.nocells {w : World} {b : Nat} {ks : List (Int × Int)} (h : SetAt w b ks) : ∀ o, w.heap[b]? = some o → o.isCells = false := fun o ho => by
  obtain ⟨es, c, h1, _⟩ := h
  rw [h1] at ho; cases ho; rfl
/-- a strip comes to the set and to the row -/
theorem TI.push {base mb : Nat} {w w1 w3 : World} {v v' : Value} {xs : List SwM} {x : SwM} {o : Obj} (h : TI base mb w v xs) (hx : SwIn w x ∧ Aw v x)
    (hs : SetAt w1 mb ((xs.map fun x => ckey x.s) ++ [ckey x.s])) (hg1 : w.grownBy w1 (some mb)) (hg : (w1.alloc o).grownBy w3 v.ownBlock)
    (ho : Own w3 base 98 13 fSw v' (xs ++ [x])) (hw : v'.ownBlock = v.ownBlock ∨ v'.ownBlock = some (w1.alloc o).heap.size) :
    TI base mb w3 v' (xs ++ [x]) ∧ KeepB mb v w w3 ∧ (∀ y : SwM, SwIn w y → Aw v y → SwIn w3 y ∧ Aw v' y) ∧ (∀ k, k < w.heap.size → v.ownBlock ≠ some k → v'.ownBlock ≠ some k) := by
  have z1 := hg1.size
  have z2 : (w1.alloc o).heap.size = w1.heap.size + 1 := by simp
  have z3 := hg.size
  have hk : KeepB mb v w w3 := ⟨by omega, fun k hk hm hv => (hg.block k (by omega) (fun e => hv e.symm)).trans ((Below.heap_alloc _ _ _ (by omega)).trans (hg1.block k hk (fun e => hm (Option.some.inj e))))⟩
  have hvk : ∀ k, k < w.heap.size → v.ownBlock ≠ some k → v'.ownBlock ≠ some k := fun k hk1 hk2 e => by
    rcases hw with h1 | h1
    · exact hk2 (h1.symm.trans e)
    · rw [h1] at e; have := Option.some.inj e; omega
  have hy : ∀ y : SwM, SwIn w y → Aw v y → SwIn w3 y ∧ Aw v' y := fun y hy ha =>
    ⟨hy.keepB ha hk h.set.nocells, fun a hA hne => hvk _ (hy.lt hA hne) (ha a hA hne)⟩
  refine ⟨⟨ho, fun y hyx => ?_, ?_, h.mlt⟩, hk, hy, hvk⟩
  · rcases List.mem_append.1 hyx with h1 | h1
    · exact hy y (h.sin y h1).1 (h.sin y h1).2
    · rw [List.mem_singleton.1 h1]; exact hy x hx.1 hx.2
  · rw [List.map_append, List.map_cons, List.map_nil]
    refine hs.kept ((hg.block mb (by have := hs.lt; omega) fun e => ?_).trans (Below.heap_alloc _ _ _ hs.lt))
    have := (h.own.lt mb e.symm).1
    have := h.mlt
    omega
theorem KeepB.below {mb B : Nat} {v : Value} {w w' : World} {base : Nat} {xs : List SwM} (h : KeepB mb v w w') (hg1 : w'.os = w.os) (hg2 : w'.tape = w.tape) (hg3 : w'.output = w.output) (ho : Own w base 98 13 fSw v xs) (hm : B ≤ mb) (hB : B ≤ base) (hz : B ≤ w.heap.size) : Below B w w' :=
  ⟨hg1, hg2, hg3, h.sz, fun k hk => h.bl k (by omega) (by omega) fun e => by have := (ho.lt k e).1; omega⟩
end Go.Proofs.YtekambdnmaompaaGreat.SW

namespace Go.Proofs.YtekambdnmaompaaGreat.SW
set_option linter.unusedVariables false
set_option linter.unusedSimpArgs false
open Go.RowKit

theorem alongP_eq {p : Pl} {r : Nat} {L : List S} (h : RlOk p r L) : alongP p (r : Int) = alongL r L := by
  unfold alongP; rw [lnR_eq h.hr, h.eL]; rfl
theorem alongL_last {r : Nat} {L : List S} (h : 2 ≤ L.length) {k : Nat} (hk : k + 2 = L.length) : (stripAt r L k).en = ((lenTo L (L.length - 1) : Nat) : Int) := by
  unfold stripAt
  simp only
  rw [show k + 1 = L.length - 1 by omega]
theorem take_fold {p : Pl} {parts : List C3} {i : Nat} {part : C3} (h : parts[i]? = some part) : touchedT p (parts.take (i + 1)) = tpart p (touchedT p (parts.take i)) part := by
  obtain ⟨hi, e⟩ := List.getElem?_eq_some_iff.1 h
  unfold touchedT
  rw [List.take_succ_eq_append_getElem hi, List.foldl_append, e]
  rfl
theorem touched_len (p : Pl) (hV : Vld p) : ∀ (parts : List C3), parts.all (coverB p) = true → (touchedT p parts).length ≤ 41 * parts.length := by
  have key : ∀ (parts : List C3) (acc : List Swp), parts.all (coverB p) = true → (parts.foldl (tpart p) acc).length ≤ acc.length + 41 * parts.length := fun parts => by
    induction parts with
    | nil => intro acc _; simp
    | cons x r ih =>
      intro acc h
      rw [List.all_cons, Bool.and_eq_true] at h
      have h1 := ih (tpart p acc x) h.2
      have h2 := tfold_len x (alongP p x.rail) acc
      have h3 : (alongP p x.rail).length ≤ 41 := by
        have hr := h.1
        unfold coverB at hr
        have hr1 := of_decide_eq_true (Bool.and_eq_true_iff.1 hr).1
        obtain ⟨n, hn⟩ := Int.eq_ofNat_of_zero_le hr1.1
        have hnl : n < p.rails.length := by omega
        have hL := Vld.rl hV hnl
        rw [hn, alongP_eq hL, alongL_len]
        have := hL.le
        omega
      rw [List.foldl_cons, List.length_cons]
      unfold tpart at h1 h2 ⊢
      omega
  intro parts h
  have := key parts [] h
  simpa [touchedT] using this
theorem tfold_mem (part : C3) : ∀ (l acc : List Swp) (s : Swp), s ∈ l.foldl (tstep part) acc → s ∈ acc ∨ s ∈ l
  | [], acc, s, h => .inl h
  | t :: l, acc, s, h => by
    rw [List.foldl_cons] at h
    rcases tfold_mem part l _ s h with h | h
    · rcases tstep_mem h with h | h
      · exact .inl h
      · exact .inr (by rw [h]; simp)
    · exact .inr (by simp [h])
theorem cover_rl {p : Pl} (hV : Vld p) {x : C3} (h : coverB p x = true) : ∃ r : Nat, x.rail = (r : Int) ∧ ∃ hr : r < p.rails.length, RlOk p r (lineOf p (p.rails[r]'hr)) ∧ alongP p x.rail = alongL r (lineOf p (p.rails[r]'hr)) := by
  unfold coverB at h
  have hr1 := of_decide_eq_true (Bool.and_eq_true_iff.1 h).1
  obtain ⟨n, hn⟩ := Int.eq_ofNat_of_zero_le hr1.1
  have hnl : n < p.rails.length := by omega
  have hL := Vld.rl hV hnl
  exact ⟨n, hn, hnl, hL, by rw [hn, alongP_eq hL]⟩
theorem along_kok {p : Pl} {r : Nat} {L : List S} (h : RlOk p r L) (hn : p.rails.length ≤ 9223372036854775807) {s : Swp} (hs : s ∈ alongL r L) : kOk (ckey s) := by
  obtain ⟨k, hk, e⟩ := List.mem_map.1 hs
  have hk2 := List.mem_range.1 hk
  have h2 := h.hr
  have h3 := h.le
  rw [← e]
  unfold kOk ckey stripAt
  constructor <;> (simp [Lit.wf, IntKind.min, IntKind.max, IntKind.signed, IntKind.bits]; omega)
theorem touched_kok (p : Pl) (hV : Vld p) (hn : p.rails.length ≤ 9223372036854775807) (parts : List C3) (h : parts.all (coverB p) = true) : ∀ s ∈ touchedT p parts, kOk (ckey s) := by
  have key : ∀ (parts : List C3) (acc : List Swp), parts.all (coverB p) = true → (∀ s ∈ acc, kOk (ckey s)) → ∀ s ∈ parts.foldl (tpart p) acc, kOk (ckey s) := fun parts => by
    induction parts with
    | nil => intro acc _ ha; exact ha
    | cons x r ih =>
      intro acc hh ha
      rw [List.all_cons, Bool.and_eq_true] at hh
      rw [List.foldl_cons]
      refine ih _ hh.2 fun s hs => ?_
      obtain ⟨n, _, hr, hL, e⟩ := cover_rl hV hh.1
      rcases tfold_mem x _ _ _ hs with h1 | h1
      · exact ha s h1
      · rw [e] at h1
        exact along_kok hL hn h1
  exact key parts [] h (by simp)
theorem fold_next {α β : Type} {f : β → α → β} {l : List α} {j : Nat} {s : α} (h : l[j]? = some s) (a : β) : (l.take (j + 1)).foldl f a = f ((l.take j).foldl f a) s := by
  obtain ⟨hi, e⟩ := List.getElem?_eq_some_iff.1 h
  rw [List.take_succ_eq_append_getElem hi, List.foldl_append, e]
  rfl
/-- a part of a rail, in its box -/
def PB (pb : Nat) (x : C3) (wx : World) : Prop := Rw wx pb 79 #[.int .i64 x.rail, .int .i64 x.frm, .int .i64 x.to]
theorem RwKeep {w w' : World} {g mb : Nat} {t : TypeId} {cs : Array Value} {v : Value} (h : Rw w g t cs) (hk : KeepB mb v w w') (hm : g ≠ mb) (hv : v.ownBlock ≠ some g) : Rw w' g t cs := (hk.bl g h.lt hm hv).trans h
set_option maxRecDepth 100000 in
set_option maxHeartbeats 16000000 in
theorem touched_any (A A2 : Option Addr) (c c2 : Nat) (p : Pl) (AP : Option Addr) (cp n : Nat) (parts : List C3) (w : World) (hP : PlAt w w.heap.size A c A2 c2 p) (hV : Vld p) (hS : Sl w w.heap.size 3 CC AP parts) (hn : parts.length = n) :
    Calls Tryz.prog 75 #[.agg #[.slice A p.nodes.length c, .slice A2 p.rails.length c2], .slice AP n cp] w fun e w' =>
      ((TouchOk p parts ∧ ∃ v xs, e = .returned (.tuple #[v, .bool true]) ∧ xs.map (·.s) = touchedT p parts ∧ Own w' w.heap.size 98 13 fSw v xs ∧ ∀ x ∈ xs, SwIn w' x) ∨ (¬ TouchOk p parts ∧ e = .returned (.tuple #[.slice none 0 0, .bool false]))) ∧ Below w.heap.size w w' := by
  have hrm := hP.rm; have hrc := hP.rc
  obtain ⟨i98, hi98, hz0, hz1, hz2⟩ := info_parts info98
  have hb1 := (Below.refl _ w).alloc (Nat.le_refl _) (.cells #[.slice A p.nodes.length c, .slice A2 p.rails.length c2] 25)
  have q1 := Rw.new w #[.slice A p.nodes.length c, .slice A2 p.rails.length c2] 25
  have hzz : (w.alloc (.cells #[.slice A p.nodes.length c, .slice A2 p.rails.length c2] 25)).heap.size = w.heap.size + 1 := by simp
  obtain ⟨W1, hW1⟩ : ∃ z, w.alloc (.cells #[.slice A p.nodes.length c, .slice A2 p.rails.length c2] 25) = z := ⟨_, rfl⟩
  rw [hW1] at hb1 q1 hzz
  have HB1 := Lib.hid hb1
  have HZ1 := Lib.hid hzz
  have HR := Lib.hid (show ∀ wx, Below W1.heap.size W1 wx → Rw wx w.heap.size 25 #[.slice A p.nodes.length c, .slice A2 p.rails.length c2] from fun wx h => q1.below h (by omega))
  have HPB := Lib.hid (show ∀ wx, Below W1.heap.size W1 wx → PlAt wx wx.heap.size A c A2 c2 p from fun wx h => ((hP.below hb1).below (h.mono hb1.size)).more (Nat.le_trans hb1.size h.size))
  have HSP := Lib.hid (show ∀ wx, Below W1.heap.size W1 wx → ∀ i part, parts[i]? = some part → ∃ b off, AP = some ⟨b, off, none⟩ ∧ wx.cell? ⟨b, off + i * 3, none⟩ = some (.int .i64 part.rail) ∧ wx.cell? ⟨b, off + i * 3 + 1, none⟩ = some (.int .i64 part.frm) ∧ wx.cell? ⟨b, off + i * 3 + 2, none⟩ = some (.int .i64 part.to) from fun wx hx i part hp => by
    obtain ⟨hi, e⟩ := List.getElem?_eq_some_iff.1 hp
    obtain ⟨b, off, cs, eA, hb, hcc, hc⟩ := hS.at_ hi
    unfold CC at hcc
    subst hcc
    rw [e] at hc
    have hbb := hb1.trans (hx.mono hb1.size)
    exact ⟨b, off, eA, (hbb.cell (p := ⟨b, off + i * 3, none⟩) hb).trans (hc 0 _ rfl), (hbb.cell (p := ⟨b, off + i * 3 + 1, none⟩) hb).trans (hc 1 _ rfl), (hbb.cell (p := ⟨b, off + i * 3 + 2, none⟩) hb).trans (hc 2 _ rfl)⟩)
  have HV := Lib.hid hV
  have HN := Lib.hid hn
  have HNR := Lib.hid (show p.rails.length ≤ 9223372036854775807 from by omega)
  have e0 := (HR.out _ (Below.refl _ _)).cell 0; have e1 := (HR.out _ (Below.refl _ _)).cell 1
  clear hb1 q1 hP hS hn hV
  by_cases h100 : (100 : Int) < (n : Int)
  · have HNO := Lib.hid (show ¬ TouchOk p parts from fun h => by have := h.1; have := HN.out; omega)
    go_enter Tryz.func75, Tryz.ntmps75
    go_wp2
    go_ret2
    exact ⟨.inr ⟨HNO.out, rfl⟩, HB1.out⟩
  have hset0 : SetAt (W1.alloc (.map #[] 0)) W1.heap.size [] := SetAt.made W1
  have hbm := (Below.refl W1.heap.size W1).alloc (Nat.le_refl _) (.map #[] 0)
  have hzm : (W1.alloc (.map #[] 0)).heap.size = W1.heap.size + 1 := by simp
  have HS0 := Lib.hid (And.intro hset0 (And.intro hbm hzm))
  have hmk : (Instr.makeMap 171 none).run Tryz.prog W1 = .ok (.map (some W1.heap.size)) (W1.alloc (.map #[] 0)) := rfl
  have HBAD := Lib.hid (show ∀ i part, parts[i]? = some part → coverB p part = false → ¬ TouchOk p parts from fun i part hp hc h => by
    have h2 := h.2
    rw [List.all_eq_true] at h2
    rw [h2 part (List.mem_of_getElem? hp)] at hc
    cases hc)
  have hn100 : n ≤ 100 := by omega
  clear hset0 hbm hzm
  go_enter Tryz.func75, Tryz.ntmps75
  go_wp2
  go_loopw [7, 19] (fun s7 s19 wr => ∃ (i : Nat) (xs : List SwM), i ≤ n ∧ s19 = .int .i64 (i : Int) ∧ TI (W1.heap.size + 1) W1.heap.size wr s7 xs ∧ xs.map (·.s) = touchedT p (parts.take i) ∧ (parts.take i).all (coverB p) = true ∧ Below W1.heap.size W1 wr) (fun _ s19 _ => n - (intOf s19).toNat)
  case atStart =>
    refine ⟨0, [], by omega, rfl, ⟨Own.nil _ _ _ _ _, (fun x hx => by cases hx), ?_, by omega⟩, by simp [touchedT], by simp, HS0.out.2.1⟩
    exact HS0.out.1
  case round =>
    obtain ⟨i, xs, hi, rfl, hti, hxs, hall, hb⟩ := hrel
    have HTI := Lib.hid hti; have HXS := Lib.hid hxs; have HALL := Lib.hid hall; have HB := Lib.hid hb
    clear hti hxs hall hmk
    by_cases hin : i < n
    · obtain ⟨part, hpart⟩ : ∃ z, parts[i]? = some z := ⟨_, List.getElem?_eq_getElem (by have := HN.out; omega)⟩
      obtain ⟨b, off, eA, k0, k1, k2⟩ := HSP.out wr hb i part hpart
      subst eA
      have HPT := Lib.hid hpart
      have d0 := (HR.out _ hb).cell 0; have d1 := (HR.out _ hb).cell 1
      have g1 : (i : Int) < (n : Int) := by omega
      have g0 : (0 : Int) ≤ (i : Int) := by omega
      have hb2 := (Below.refl wr.heap.size wr).alloc (Nat.le_refl _) (.cells #[.int .i64 part.rail, .int .i64 part.frm, .int .i64 part.to] 79)
      have hpb := Rw.new wr #[.int .i64 part.rail, .int .i64 part.frm, .int .i64 part.to] 79
      have hz2 : (wr.alloc (.cells #[.int .i64 part.rail, .int .i64 part.frm, .int .i64 part.to] 79)).heap.size = wr.heap.size + 1 := by simp
      have hbz := hb.size
      obtain ⟨W2, hW2⟩ : ∃ z, wr.alloc (.cells #[.int .i64 part.rail, .int .i64 part.frm, .int .i64 part.to] 79) = z := ⟨_, rfl⟩
      rw [hW2] at hb2 hpb hz2
      have hb12 := hb.trans (hb2.mono hbz)
      have HB2 := Lib.hid hb12
      have HB22 := Lib.hid hb2
      have HTI2 := Lib.hid (HTI.out.below hb2)
      have HPBX := Lib.hid (show ∀ wx, Below W2.heap.size W2 wx → PB wr.heap.size part wx from fun wx h => hpb.below h (by omega))
      have HNP := Lib.hid (show u7.ownBlock ≠ some wr.heap.size ∧ wr.heap.size ≠ W1.heap.size ∧ W2.heap.size = wr.heap.size + 1 from ⟨fun e => by have := (HTI.out.own.lt _ e).2; omega, by have := HTI.out.set.lt; omega, hz2⟩)
      have f0 := (HR.out _ hb12).cell 0; have f1 := (HR.out _ hb12).cell 1
      have p0 := hpb.cell 0; have p1 := hpb.cell 1; have p2 := hpb.cell 2
      have hh := hasRail2_any A A2 c c2 p part.rail W2 (HPB.out _ hb12)
      have HHR := Lib.hid hh
      clear hb hb2 hpb hb12 hpart hh hbz
      go_wp2_with fail
      refine (HHR.out).mono ?_
      rintro e w3 ⟨rfl, hb3⟩
      have HB3 := Lib.hid hb3
      have hb13 := HB2.out.trans (hb3.mono HB2.out.size)
      have HB13 := Lib.hid hb13
      have r3 := HPBX.out _ hb3
      have p0 := r3.cell 0; have p1 := r3.cell 1; have p2 := r3.cell 2
      have f0 := (HR.out _ hb13).cell 0; have f1 := (HR.out _ hb13).cell 1
      clear hb3 hb13 r3 d0 d1 hW2 k0 k1 k2
      cases hri : railIn p part.rail with
      | false =>
        have HNO := Lib.hid (HBAD.out i part HPT.out (by unfold coverB; rw [hri]; rfl))
        clear hri
        go_wp2
        go_ret2
        exact ⟨.inr ⟨HNO.out, rfl⟩, HB1.out.trans (HB13.out.mono HB1.out.size)⟩
      | true =>
        have HRI := Lib.hid hri
        clear hri
        by_cases hf0 : part.frm < 0
        · have HNO := Lib.hid (HBAD.out i part HPT.out (by unfold coverB; rw [HRI.out]; simp [hf0]))
          go_wp2
          go_ret2
          exact ⟨.inr ⟨HNO.out, rfl⟩, HB1.out.trans (HB13.out.mono HB1.out.size)⟩
        · by_cases hft : part.to ≤ part.frm
          · have HNO := Lib.hid (HBAD.out i part HPT.out (by unfold coverB; rw [HRI.out]; simp [hft]))
            go_wp2
            go_ret2
            exact ⟨.inr ⟨HNO.out, rfl⟩, HB1.out.trans (HB13.out.mono HB1.out.size)⟩
          · have h3 := of_decide_eq_true HRI.out
            obtain ⟨r, hr⟩ := Int.eq_ofNat_of_zero_le h3.1
            have hrl : r < p.rails.length := by omega
            obtain ⟨L, hLL⟩ : ∃ z, lineOf p (p.rails[r]'hrl) = z := ⟨_, rfl⟩
            have hL := Vld.rl HV.out hrl
            rw [hLL] at hL
            have hal := along_any A A2 c c2 p r w3 (HPB.out _ HB13.out) hL.hr hL.h1 hL.h2 hL.hs (by rw [hL.eL]; exact hL.hR) (by rw [hL.eL]; exact hL.hok)
            rw [hL.eL] at hal
            have HAL := Lib.hid hal
            have HL := Lib.hid hL
            have HRR := Lib.hid hr
            rw [hr] at p0
            clear hal hL hLL h3
            go_wp2_with fail
            refine (HAL.out).mono ?_
            rintro e w4 ⟨vr, rs, rfl, hrm, hro, hri, hb4⟩
            have hb14 := HB13.out.trans (hb4.mono HB13.out.size)
            have HB14 := Lib.hid hb14
            have hb24 := HB3.out.trans (hb4.mono HB3.out.size)
            have HB24 := Lib.hid hb24
            have r4 := HPBX.out _ hb24
            have p0 := r4.cell 0; have p1 := r4.cell 1; have p2 := r4.cell 2
            rw [HRR.out] at p0
            have hrl3 : rs.length = L.length - 1 := by
              have := congrArg List.length hrm
              rw [List.length_map, alongL_len] at this
              exact this
            obtain ⟨m, hm⟩ : ∃ m, L.length = m + 2 := ⟨L.length - 2, by have := HL.out.le; omega⟩
            obtain ⟨Ar, cr, rfl, hcr1, hcr2, _⟩ := hro.form
            obtain ⟨b2, off2, _, eA2, -⟩ := (hro.sl fSw_len rfl).at_ (i := 0) (by omega)
            subst eA2
            obtain ⟨nr, hnr⟩ : ∃ z, rs.length = z := ⟨_, rfl⟩
            rw [hnr] at hro hcr1 ⊢
            have HNR2 := Lib.hid (show nr = m + 1 ∧ rs.length = nr ∧ L.length = m + 2 ∧ nr ≤ 41 from by have := HL.out.le; exact ⟨by omega, hnr, hm, by omega⟩)
            have HRS := Lib.hid (show ∀ wx, Own wx w3.heap.size 98 13 fSw (.slice (some ⟨b2, off2, none⟩) nr cr) rs → ∀ (j : Nat) (x : SwM), rs[j]? = some x → ∀ q u, (fSw x)[q]? = some u → wx.cell? ⟨b2, off2 + j * 13 + q, none⟩ = some u from fun wx h j x hx q u hq => by
              obtain ⟨hj, e⟩ := List.getElem?_eq_some_iff.1 hx
              obtain ⟨b3, off3, cs, eA3, _, hcc, hc⟩ := (h.sl fSw_len (by rw [HNR2.out.2.1])).at_ hj
              cases eA3
              rw [e] at hcc
              subst hcc
              exact hc q u hq)
            have HRM := Lib.hid (show ∀ (j : Nat) (x : SwM), rs[j]? = some x → (alongL r L)[j]? = some x.s from fun j x hx => by
              rw [← hrm, List.getElem?_map, hx]; rfl)
            have hxl := HRS.out _ hro m _ (List.getElem?_eq_getElem (by omega))
            have hle : ((rs[m]'(by omega)).s).en = ((lenTo L (L.length - 1) : Nat) : Int) := by
              have h1 := HRM.out m _ (List.getElem?_eq_getElem (by omega))
              obtain ⟨hq, e⟩ := List.getElem?_eq_some_iff.1 h1
              rw [← e, alongL_at]
              exact alongL_last (by omega) (by omega)
            have c7 := hxl 7 _ rfl
            rw [hle] at c7
            obtain ⟨le, hle2⟩ : ∃ z, ((lenTo L (L.length - 1) : Nat) : Int) = z := ⟨_, rfl⟩
            rw [hle2] at c7
            have HLE := Lib.hid (show lastEn p part.rail = le from by
              rw [HRR.out, ← hle2]; unfold lastEn; rw [lnR_eq HL.out.hr, HL.out.eL])
            have HRO := Lib.hid hro
            have HRI2 := Lib.hid hri
            have HRF := Lib.hid hf0
            have HRT := Lib.hid hft
            have hw : IntKind.i64.wrap ((nr : Int) - 1) = (m : Int) := by have := HNR2.out; rw [IntKind.wrap_i64]; omega
            have gm1 : (m : Int) < (nr : Int) := by have := HNR2.out; omega
            have gm0 : (0 : Int) ≤ (m : Int) := by omega
            have HB44 := Lib.hid hb4
            clear hb14 hb24 r4 hrm hrl3 hm hnr hro hri hb4 hxl hle hle2 hcr1 hcr2 hf0 hft
            by_cases hbig : le < part.to
            · have HNO := Lib.hid (HBAD.out i part HPT.out (by unfold coverB; rw [HLE.out]; simp [hbig]))
              go_wp2
              go_quiet (fail)
              go_wp2
              go_ret2
              exact ⟨.inr ⟨HNO.out, rfl⟩, HB1.out.trans ((bDrewN HB14.out _).mono HB1.out.size)⟩
            · have HBG := Lib.hid hbig
              obtain ⟨wo, hwo⟩ : ∃ z, wr.heap.size = z := ⟨_, rfl⟩
              rw [hwo] at p0 p1 p2 HPBX HNP ⊢
              go_wp2
              go_quiet (fail)
              go_wp2
              clear hw gm1 gm0 c7 hbig hwo
              go_loopw [7, 56] (fun s7 s56 wr => ∃ (j : Nat) (ys : List SwM), j ≤ nr ∧ s56 = .int .i64 (j : Int) ∧ TI (W1.heap.size + 1) W1.heap.size wr s7 ys ∧ ys.map (·.s) = ((alongL r L).take j).foldl (tstep part) (touchedT p (parts.take i)) ∧ Own wr w3.heap.size 98 13 fSw (.slice (some ⟨b2, off2, none⟩) nr cr) rs ∧ (∀ x ∈ rs, SwIn wr x ∧ Aw s7 x) ∧ PB wo part wr ∧ s7.ownBlock ≠ some wo ∧ s7.ownBlock ≠ some b2 ∧ Below W1.heap.size W1 wr) (fun _ s56 _ => nr - (intOf s56).toNat)
              case atStart =>
                have z1 := HNP.out.2.2
                have z2 := HB3.out.size
                refine ⟨0, xs, by omega, rfl, HTI2.out.below (bDrewN HB24.out _), by simpa using HXS.out, HRO.out.drewN _, fun x hx => ⟨(HRI2.out x hx).1.below (bDrewN (Below.refl _ _) _), fun a ha _ e => ?_⟩, HPBX.out _ (bDrewN HB24.out _), HNP.out.1, fun e => ?_, bDrewN HB14.out _⟩
                · have h1 := (HTI2.out.own.lt _ e).2
                  have h2 := (HRI2.out x hx).2 a ha
                  omega
                · have h1 := (HTI2.out.own.lt _ e).2
                  have h2 := (HRO.out.lt b2 rfl).1
                  omega
              case round =>
                obtain ⟨j, ys, hj, rfl, hti, hys, hro, hrs, hpb, hn1, hn2, hb⟩ := hrel
                have HTJ := Lib.hid hti; have HYS := Lib.hid hys; have HBJ := Lib.hid hb; have HRJ := Lib.hid hro; have HSJ := Lib.hid hrs; have HPJ := Lib.hid hpb; have HN1 := Lib.hid hn1; have HN2 := Lib.hid hn2
                have p0 := hpb.cell 0; have p1 := hpb.cell 1; have p2 := hpb.cell 2
                rw [HRR.out] at p0
                clear hti hys hb hro hrs hn1 hn2
                by_cases hjn : j < nr
                · obtain ⟨x, hx⟩ : ∃ z, rs[j]? = some z := ⟨_, List.getElem?_eq_getElem (by have := HNR2.out; omega)⟩
                  have HJN := Lib.hid hjn
                  have hj41 : j ≤ 41 := by have := HNR2.out; omega
                  have hxl := HRS.out _ HRJ.out j x hx
                  have d0 : wr.cell? ⟨b2, off2 + j * 13, none⟩ = some (.int .i64 x.s.rail) := hxl 0 _ rfl
                  have d1 := hxl 1 _ rfl
                  have d2 := hxl 2 _ rfl
                  have d3 := hxl 3 _ rfl
                  have d4 := hxl 4 _ rfl
                  have d5 := hxl 5 _ rfl
                  have d6 := hxl 6 _ rfl
                  have d7 := hxl 7 _ rfl
                  have d8 := hxl 8 _ rfl
                  have d9 := hxl 9 _ rfl
                  have d10 := hxl 10 _ rfl
                  have d11 := hxl 11 _ rfl
                  have d12 := hxl 12 _ rfl
                  have hak := HRM.out j x hx
                  have HAK := Lib.hid hak
                  have HX := Lib.hid (HSJ.out x (List.mem_of_getElem? hx))
                  have g1 : (j : Int) < (nr : Int) := by omega
                  have g0 : (0 : Int) ≤ (j : Int) := by omega
                  have hb5 := (Below.refl wr.heap.size wr).alloc (Nat.le_refl _) (.cells #[.int .i64 x.s.rail, .int .i64 x.s.seg, .int .i64 x.s.a.x, .int .i64 x.s.a.y, .int .i64 x.s.b.x, .int .i64 x.s.b.y, .int .i64 x.s.bg, .int .i64 x.s.en, .slice x.A x.s.bends.length x.c, .int .i64 (min x.s.a.x x.s.b.x), .int .i64 (min x.s.a.y x.s.b.y), .int .i64 (max x.s.a.x x.s.b.x), .int .i64 (max x.s.a.y x.s.b.y)] 98)
                  have q5 := Rw.new wr #[.int .i64 x.s.rail, .int .i64 x.s.seg, .int .i64 x.s.a.x, .int .i64 x.s.a.y, .int .i64 x.s.b.x, .int .i64 x.s.b.y, .int .i64 x.s.bg, .int .i64 x.s.en, .slice x.A x.s.bends.length x.c, .int .i64 (min x.s.a.x x.s.b.x), .int .i64 (min x.s.a.y x.s.b.y), .int .i64 (max x.s.a.x x.s.b.x), .int .i64 (max x.s.a.y x.s.b.y)] 98
                  have hz5 : (wr.alloc (.cells #[.int .i64 x.s.rail, .int .i64 x.s.seg, .int .i64 x.s.a.x, .int .i64 x.s.a.y, .int .i64 x.s.b.x, .int .i64 x.s.b.y, .int .i64 x.s.bg, .int .i64 x.s.en, .slice x.A x.s.bends.length x.c, .int .i64 (min x.s.a.x x.s.b.x), .int .i64 (min x.s.a.y x.s.b.y), .int .i64 (max x.s.a.x x.s.b.x), .int .i64 (max x.s.a.y x.s.b.y)] 98)).heap.size = wr.heap.size + 1 := by simp
                  obtain ⟨W5, hW5⟩ : ∃ z, wr.alloc (.cells #[.int .i64 x.s.rail, .int .i64 x.s.seg, .int .i64 x.s.a.x, .int .i64 x.s.a.y, .int .i64 x.s.b.x, .int .i64 x.s.b.y, .int .i64 x.s.bg, .int .i64 x.s.en, .slice x.A x.s.bends.length x.c, .int .i64 (min x.s.a.x x.s.b.x), .int .i64 (min x.s.a.y x.s.b.y), .int .i64 (max x.s.a.x x.s.b.x), .int .i64 (max x.s.a.y x.s.b.y)] 98) = z := ⟨_, rfl⟩
                  rw [hW5] at hb5 q5 hz5
                  have HB5 := Lib.hid hb5
                  have HQ5 := Lib.hid q5
                  have HZ5 := Lib.hid hz5
                  have r5 : PB wo part W5 := hpb.below hb5 hpb.lt
                  have HR5 := Lib.hid r5
                  have b0 := r5.cell 0; have b1 := r5.cell 1; have b2' := r5.cell 2
                  rw [HRR.out] at b0
                  have x0 := q5.cell 0; have x1 := q5.cell 1; have x6 := q5.cell 6; have x7 := q5.cell 7
                  have hkok : ∀ s ∈ alongL r L, kOk (ckey s) := fun s hs => along_kok HL.out HNR.out hs
                  have HKO := Lib.hid hkok
                  have hkx : kOk (ckey x.s) := hkok _ (List.mem_of_getElem? hak)
                  have HKX := Lib.hid hkx
                  have ht5 := HTJ.out.below hb5
                  have HT5 := Lib.hid ht5
                  have HKS := Lib.hid (show ∀ r ∈ ys.map (fun y => ckey y.s), kOk r from fun r hr => by
                    obtain ⟨y, hy, rfl⟩ := List.mem_map.1 hr
                    have h1 : y.s ∈ ys.map (·.s) := List.mem_map.2 ⟨y, hy, rfl⟩
                    rw [HYS.out] at h1
                    rcases tfold_mem part _ _ _ h1 with h1 | h1
                    · exact touched_kok p HV.out HNR.out _ HALL.out _ h1
                    · exact HKO.out _ (List.mem_of_mem_take h1))
                  have hlook := set_look ht5.set HKS.out hkx
                  clear hb5 q5 r5 ht5 hkok hkx hxl hpb hz5 hak hx
                  have hmm : (ys.map (·.s)).map ckey = ys.map (fun y => ckey y.s) := by simp [Function.comp_def]
                  by_cases hc1 : part.frm < x.s.en
                  · by_cases hc2 : x.s.bg < part.to
                    · by_cases hc3 : ckey x.s ∈ ys.map (fun y => ckey y.s)
                      · have hlook2 : (Instr.lookup 171 (.map (some (w.heap.size + 1))) (.agg #[.int .i64 x.s.rail, .int .i64 x.s.seg]) false).run Tryz.prog W5 = .ok (.bool true) W5 := by rw [decide_eq_true hc3] at hlook; rw [← HZ1.out]; exact hlook
                        have HST := Lib.hid (show tstep part (ys.map (·.s)) x.s = ys.map (·.s) from by unfold tstep; rw [hmm, decide_eq_true hc3]; simp)
                        clear hlook hc3
                        go_wp2
                        go_roundw
                        case rel => exact ⟨j + 1, ys, by have := HJN.out; omega, by go_num, HT5.out, by rw [fold_next HAK.out, ← HYS.out]; exact HST.out.symm, HRJ.out.below HB5.out (Nat.le_refl _), fun y hy => ⟨(HSJ.out y hy).1.below HB5.out, (HSJ.out y hy).2⟩, HR5.out, HN1.out, HN2.out, HBJ.out.trans (HB5.out.mono HBJ.out.size)⟩
                        case measure => have := HJN.out; simp [intOf]; omega
                      · have hlook2 : (Instr.lookup 171 (.map (some (w.heap.size + 1))) (.agg #[.int .i64 x.s.rail, .int .i64 x.s.seg]) false).run Tryz.prog W5 = .ok (.bool false) W5 := by rw [decide_eq_false hc3] at hlook; rw [← HZ1.out]; exact hlook
                        have HST := Lib.hid (show tstep part (ys.map (·.s)) x.s = ys.map (·.s) ++ [x.s] from by unfold tstep; rw [hmm, decide_eq_false hc3]; simp [hc1, hc2])
                        obtain ⟨w6, hup, hs6, hg6⟩ := set_add HT5.out.set HKS.out HKX.out hc3
                        have HS6 := Lib.hid hs6
                        have HG6 := Lib.hid hg6
                        have hup2 : (Instr.mapUpdate 171 (.map (some (w.heap.size + 1))) (.agg #[.int .i64 x.s.rail, .int .i64 x.s.seg]) (.bool true)).run Tryz.prog W5 = .ok () w6 := by rw [← HZ1.out]; exact hup
                        have hgb : ∀ k, k < W5.heap.size → k ≠ W1.heap.size → w6.heap[k]? = W5.heap[k]? := fun k h1 h2 => hg6.block k h1 (fun e => h2 (Option.some.inj e))
                        have hw1 := HTJ.out.set.lt
                        have q6 : Rw w6 wr.heap.size 98 #[.int .i64 x.s.rail, .int .i64 x.s.seg, .int .i64 x.s.a.x, .int .i64 x.s.a.y, .int .i64 x.s.b.x, .int .i64 x.s.b.y, .int .i64 x.s.bg, .int .i64 x.s.en, .slice x.A x.s.bends.length x.c, .int .i64 (min x.s.a.x x.s.b.x), .int .i64 (min x.s.a.y x.s.b.y), .int .i64 (max x.s.a.x x.s.b.x), .int .i64 (max x.s.a.y x.s.b.y)] := (hgb _ HQ5.out.lt (by omega)).trans HQ5.out
                        have HGB := Lib.hid hgb
                        have x0' := q6.cell 0; have x1' := q6.cell 1; have x2' := q6.cell 2; have x3' := q6.cell 3; have x4' := q6.cell 4; have x5' := q6.cell 5; have x6' := q6.cell 6; have x7' := q6.cell 7; have x8' := q6.cell 8; have x9' := q6.cell 9; have x10' := q6.cell 10; have x11' := q6.cell 11; have x12' := q6.cell 12
                        have HO6 := Lib.hid (show Own w6 (W1.heap.size + 1) 98 13 fSw u7 ys from HT5.out.own.kept hg6 (.inr fun e => by have := (HT5.out.own.lt _ e).1; omega))
                        have hlen : ys.length ≤ 4141 := by
                          have h1 := congrArg List.length HYS.out
                          rw [List.length_map] at h1
                          have h2 := tfold_len part ((alongL r L).take j) (touchedT p (parts.take i))
                          have h3 := touched_len p HV.out (parts.take i) HALL.out
                          have h4 := List.length_take_le j (alongL r L)
                          have h5 := HNR2.out
                          have h6 := HJN.out
                          rw [List.length_take] at h3
                          omega
                        obtain ⟨Av, cv, rfl, _, _, _⟩ := HO6.out.form
                        have HL1 := Lib.hid (show ys.length + [x].length ≤ maxLen ∧ (ys.length + [x].length) * 120 ≤ 140737488355328 from by unfold maxLen; simp only [List.length_cons, List.length_nil]; omega)
                        obtain ⟨ny, hny⟩ : ∃ z, ys.length = z := ⟨_, rfl⟩
                        have hz6 := hg6.size
                        have HZ6 := Lib.hid (show wr.heap.size + 1 ≤ w6.heap.size ∧ W1.heap.size < wr.heap.size from by have := HZ5.out; exact ⟨by omega, hw1⟩)
                        rw [hny] at HO6 HTJ HT5 HSJ HX HN1 HN2 ⊢
                        obtain ⟨i9, hi9, y0, y1, y2⟩ := info_parts info98
                        clear hlook hc3 hup hs6 hg6 hgb hw1 q6 hny hz6 hlen
                        go_wp2_with (at_builtin; go_must (refine wpList_app _ rfl (.tmp 82) (.tmp 84) _ rfl (W1.heap.size + 1) 98 i9 _ 13 120 Tryz.underlying95 hi9 y0 y1 y2 rfl (by omega) fSw_len fSw_one (.slice Av ny cv) ys rfl (HO6.out.alloc _) _ _ [x] 1 rfl (Sl.new _ _ x _ rfl) HL1.out.1 HL1.out.2 (by have := HZ6.out; simp; omega) (fun _ => .inr ⟨_, rfl⟩) ?_)
                                     intro v2 w7 o2 gr2 at2 ne2
                                     go_must (have HP := Lib.hid (And.intro (TI.push HT5.out ⟨HX.out.1.below HB5.out, HX.out.2⟩ HS6.out HG6.out gr2 o2 at2) gr2))
                                     clear o2 gr2 at2 ne2)
                        go_roundw
                        case rel =>
                          obtain ⟨⟨ht7, hk7, hy7, hv7⟩, gr2⟩ := HP.out
                          have hg6 := HG6.out
                          have hro5 := HRJ.out.below HB5.out (Nat.le_refl _)
                          have hl1 := (hro5.lt b2 rfl)
                          have hl2 := HTI2.out.set.lt
                          have hl3 := HB3.out.size
                          refine ⟨j + 1, ys ++ [x], by have := HJN.out; omega, by go_num, ht7, ?_, ?_, fun y hy => hy7 y ((HSJ.out y hy).1.below HB5.out) (HSJ.out y hy).2, RwKeep HR5.out hk7 HNP.out.2.1 HN1.out, hv7 _ HR5.out.lt HN1.out, hv7 _ hl1.2 HN2.out, ?_⟩
                          · rw [fold_next HAK.out, ← HYS.out, HST.out]; simp
                          · refine hro5.of_blocks fun k hk => ?_
                            have hk' : b2 = k := Option.some.inj hk
                            subst hk'
                            exact hk7.bl _ hl1.2 (by omega) HN2.out
                          · exact HBJ.out.trans ((HB5.out.mono HBJ.out.size).trans (KeepB.below (B := W1.heap.size) hk7 (gr2.os.trans hg6.os) (gr2.tape.trans hg6.tape) (gr2.output.trans hg6.output) HT5.out.own (Nat.le_refl _) (by omega) (by have := HB5.out.size; have := HBJ.out.size; omega)))
                        case measure => have := HJN.out; simp [intOf]; omega
                    · have HST := Lib.hid (show tstep part (ys.map (·.s)) x.s = ys.map (·.s) from by unfold tstep; rw [if_neg (by simp [hc2])])
                      clear hlook
                      go_wp2
                      go_roundw
                      case rel => exact ⟨j + 1, ys, by have := HJN.out; omega, by go_num, HT5.out, by rw [fold_next HAK.out, ← HYS.out]; exact HST.out.symm, HRJ.out.below HB5.out (Nat.le_refl _), fun y hy => ⟨(HSJ.out y hy).1.below HB5.out, (HSJ.out y hy).2⟩, HR5.out, HN1.out, HN2.out, HBJ.out.trans (HB5.out.mono HBJ.out.size)⟩
                      case measure => have := HJN.out; simp [intOf]; omega
                  · have HST := Lib.hid (show tstep part (ys.map (·.s)) x.s = ys.map (·.s) from by unfold tstep; rw [if_neg (by simp [hc1])])
                    clear hlook
                    go_wp2
                    go_roundw
                    case rel => exact ⟨j + 1, ys, by have := HJN.out; omega, by go_num, HT5.out, by rw [fold_next HAK.out, ← HYS.out]; exact HST.out.symm, HRJ.out.below HB5.out (Nat.le_refl _), fun y hy => ⟨(HSJ.out y hy).1.below HB5.out, (HSJ.out y hy).2⟩, HR5.out, HN1.out, HN2.out, HBJ.out.trans (HB5.out.mono HBJ.out.size)⟩
                    case measure => have := HJN.out; simp [intOf]; omega
                · obtain rfl : j = nr := by omega
                  clear hpb p0 p1 p2
                  go_wp2
                  go_roundw
                  case rel =>
                    refine ⟨i + 1, ys, by omega, by go_num, HTJ.out, ?_, ?_, HBJ.out⟩
                    · rw [HYS.out, List.take_of_length_le (l := alongL r L) (by rw [alongL_len]; have := HNR2.out; omega), take_fold HPT.out]
                      unfold tpart
                      rw [HRR.out, alongP_eq HL.out]
                    · obtain ⟨hi2, e2⟩ := List.getElem?_eq_some_iff.1 HPT.out
                      rw [List.take_succ_eq_append_getElem hi2, List.all_append, HALL.out, e2]
                      simp [coverB, HRI.out, HRF.out, HRT.out, HLE.out, HBG.out]
                      try omega
                  case measure => simp [intOf]; omega
    · obtain rfl : i = n := by omega
      have HFIN := Lib.hid (show TouchOk p parts ∧ xs.map (·.s) = touchedT p parts from by
        have h1 := HALL.out; have h2 := HXS.out
        rw [List.take_of_length_le (by have := HN.out; omega)] at h1 h2
        exact ⟨⟨by have := HN.out; omega, h1⟩, h2⟩)
      clear hb
      go_wp2
      go_ret2
      exact ⟨.inl ⟨HFIN.out.1, _, xs, rfl, HFIN.out.2, HTI.out.own.lower (by have := HB1.out.size; omega), fun x hx => (HTI.out.sin x hx).1⟩, HB1.out.trans (HB.out.mono HB1.out.size)⟩
end Go.Proofs.YtekambdnmaompaaGreat.SW
