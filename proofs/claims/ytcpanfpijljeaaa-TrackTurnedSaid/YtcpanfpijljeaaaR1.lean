/- Words: the frames of the search's two loops. -/
import Derived.Test.YtcpanfpijljeaaaQ4
import Derived.Test.YtcpanfpijljeaaaQ6
import Derived.Test.YtcpanfpijljeaaaQ7
import Derived.Test.YtcpanfpijljeaaaG5
import Derived.Deep.LoopGhost
namespace Go.Proofs.Ytcpanfpijljeaaa
set_option linter.unusedVariables false
set_option linter.unusedSimpArgs false
open Go.RowKit

theorem inf108 : (Try.prog.info? 108).map (fun i => (i.zero, i.size, i.bytes)) = some (some (.agg #[.int .i64 0, .int .i64 0]), 2, 16) := by kernel_rfl
theorem meth_take (a : Addr) (w : World) : (method 291 116 (.pointer (some a)) "tramline/track.take").run Try.prog w = .ok (132, .pointer (some a)) w := by kernel_rfl
theorem meth_put (a : Addr) (w : World) : (method 291 116 (.pointer (some a)) "tramline/track.put").run Try.prog w = .ok (130, .pointer (some a)) w := by kernel_rfl
theorem nila_take (a : Addr) (w : World) : (nilAhead 291 116 (.pointer (some a)) "tramline/track.take").run Try.prog w = .ok (some false) w := by kernel_rfl
theorem nila_put (a : Addr) (w : World) : (nilAhead 291 116 (.pointer (some a)) "tramline/track.put").run Try.prog w = .ok (some false) w := by kernel_rfl

theorem befL_bd {p : Pl} {k y : Nat} : ∀ z ∈ befL p k y, ∃ t : Nat, z = t ∧ t < k := by
  intro z hz
  unfold befL at hz
  obtain ⟨x, hx, hz⟩ := List.mem_flatMap.1 hz
  obtain ⟨_, _, rfl⟩ := List.mem_map.1 hz
  exact ⟨x, rfl, List.mem_range.1 hx⟩

def CostsPost (M : Nat) (res : List C2) (w : World) (e : Ending) (w' : World) : Prop :=
  (∃ cb, e = .returned (.slice (some ⟨cb, 0, none⟩) M M) ∧ CRow w' cb res ∧ w.heap.size ≤ cb) ∧ Below w.heap.size w w'

def negRow (M k : Nat) : List C2 := List.replicate k (-1, 0) ++ List.replicate (M - k) (0, 0)
theorem negRow_len {M k : Nat} (h : k ≤ M) : (negRow M k).length = M := by simp [negRow]; omega
theorem negRow_set {M k : Nat} (h : k < M) : (negRow M k).set k (-1, ((negRow M k)[k]'(by rw [negRow_len (by omega)]; exact h)).2) = negRow M (k + 1) := by
  apply List.ext_getElem
  · rw [List.length_set, negRow_len (by omega), negRow_len (by omega)]
  · intro i h1 h2
    rw [List.length_set, negRow_len (by omega)] at h1
    rw [List.getElem_set]
    by_cases hi : k = i
    · subst hi
      rw [if_pos rfl]
      simp [negRow]
    · rw [if_neg hi]
      simp only [negRow, List.getElem_append, List.length_replicate, List.getElem_replicate]
      by_cases hk : i < k
      · simp [hk, show i < k + 1 by omega]
      · simp [hk, show ¬ i < k + 1 by omega]
theorem negRow_all (M : Nat) : negRow M M = List.replicate M (-1, 0) := by simp [negRow]
theorem negRow_zero (M : Nat) : negRow M 0 = List.replicate M (0, 0) := by simp [negRow]

theorem cmpC_eq (a b : C2) : cmpC a b = cmp4 a.1 a.2 b.1 b.2 := rfl
theorem costAt_at {cs : List C2} {x : Nat} (h : x < cs.length) : costAt cs (x : Int) = cs[x] := by simp [costAt, List.getD, h]
/-- a new pile of one item: the item, then the pile -/
theorem pile_new (W : World) (S : Nat) (x : V3) (hS : W.heap.size = S) :
    Pile ((W.alloc (.cells #[.int .i64 x.l, .int .i64 x.m, .int .i64 x.v] 118)).alloc (.cells #[.slice (some ⟨S, 0, none⟩) 1 1, vless] 123)) S (S + 1) vless [x] S 1 := by
  subst hS
  refine ⟨by omega, Nat.le_refl _, by omega, ?_, ⟨_, (Below.heap_alloc _ _ _ (by simp)).trans (heap_alloc_new W _), rfl, rfl⟩, Nat.le_refl _, by simp [maxLen]⟩
  have := heap_alloc_new (W.alloc (.cells #[.int .i64 x.l, .int .i64 x.m, .int .i64 x.v] 118)) (.cells #[.slice (some ⟨W.heap.size, 0, none⟩) 1 1, vless] 123)
  rw [show (W.alloc (.cells #[.int .i64 x.l, .int .i64 x.m, .int .i64 x.v] 118)).heap.size = W.heap.size + 1 by simp] at this
  exact this
/-- the bodies of the loops of a code, outer ones first -/
def loopsIn : Code → List Code
  | .loop c => c :: loopsIn c
  | .seq a b => loopsIn a ++ loopsIn b
  | .block _ c => loopsIn c
  | .scope c => loopsIn c
  | .cond _ a b => loopsIn a ++ loopsIn b
  | _ => []

set_option maxRecDepth 100000 in
/-- the frame of the loop over those that come before -/
def FRI (g kb M S pb cc : Nat) (to : Int) (A : Option Addr) (n c : Nat) (i : Int) (u : Nat → Value) : Act := ⟨#[.pointer (some ⟨g, 0, none⟩), .int .i64 to, .slice (some ⟨kb, 0, none⟩) M M, u 3, u 4, u 5, u 6, .slice (some ⟨S, 0, none⟩) M M, u 8, .iface 116 (.pointer (some ⟨pb, 0, none⟩)), u 10, u 11, .pointer (some ⟨cc, 0, none⟩), u 13, u 14, u 15, u 16, u 17, u 18, u 19, u 20, u 21, u 22, u 23, u 24, u 25, u 26, u 27, u 28, u 29, u 30, u 31, u 32, u 33, u 34, u 35, u 36, u 37, u 38, u 39, u 40, u 41, u 42, u 43, u 44, u 45, u 46, u 47, u 48, u 49, u 50, u 51, u 52, u 53, u 54, u 55, u 56, u 57, u 58, u 59, u 60, u 61, u 62, u 63, u 64, u 65, u 66, u 67, u 68, u 69, u 70, u 71, u 72, u 73, u 74, u 75, u 76, u 77, u 78, u 79, u 80, u 81, u 82, u 83, u 84, u 85, u 86, .slice A n c, .int .i64 (n : Int), .int .i64 i, u 90, u 91, u 92, u 93, u 94, u 95, u 96, u 97, u 98, u 99, u 100, u 101, u 102, u 103, u 104, u 105, u 106, u 107, u 108, u 109, u 110, u 111, u 112, u 113, u 114, u 115, u 116, u 117, u 118, u 119, u 120, u 121, u 122, u 123, u 124], []⟩
set_option maxRecDepth 100000 in
/-- the frame of the search's loop -/
def FRO (g kb M S pb : Nat) (to : Int) (u : Nat → Value) : Act := ⟨#[.pointer (some ⟨g, 0, none⟩), .int .i64 to, .slice (some ⟨kb, 0, none⟩) M M, u 3, u 4, u 5, u 6, .slice (some ⟨S, 0, none⟩) M M, u 8, .iface 116 (.pointer (some ⟨pb, 0, none⟩)), u 10, u 11, u 12, u 13, u 14, u 15, u 16, u 17, u 18, u 19, u 20, u 21, u 22, u 23, u 24, u 25, u 26, u 27, u 28, u 29, u 30, u 31, u 32, u 33, u 34, u 35, u 36, u 37, u 38, u 39, u 40, u 41, u 42, u 43, u 44, u 45, u 46, u 47, u 48, u 49, u 50, u 51, u 52, u 53, u 54, u 55, u 56, u 57, u 58, u 59, u 60, u 61, u 62, u 63, u 64, u 65, u 66, u 67, u 68, u 69, u 70, u 71, u 72, u 73, u 74, u 75, u 76, u 77, u 78, u 79, u 80, u 81, u 82, u 83, u 84, u 85, u 86, u 87, u 88, u 89, u 90, u 91, u 92, u 93, u 94, u 95, u 96, u 97, u 98, u 99, u 100, u 101, u 102, u 103, u 104, u 105, u 106, u 107, u 108, u 109, u 110, u 111, u 112, u 113, u 114, u 115, u 116, u 117, u 118, u 119, u 120, u 121, u 122, u 123, u 124], []⟩

/-- at the head of the search's loop -/
structure CSt (w : World) (S M : Nat) (ln : Int → Int) (bef : Nat → List Int) (cl : List Bool) (res : List C2) (k : Nat) (wr : World) : Prop where
  ex : ∃ cs it gi ci, search ln bef cl k cs it = some res ∧ cs.length = M ∧ (∀ y ∈ it, OkV M y) ∧ Pile wr (S + 1) (S + 1 + 1) vless it gi ci ∧ CRow wr S cs
  be : Below S w wr
/-- at the head of the loop over those that come before -/
structure ISt (w : World) (S : Nat) (cl : List Bool) (c1 c2 : Int) (L : List Int) (cs0 : List C2) (r0 : List V3) (cc j : Nat) (wr : World) : Prop where
  ex : ∃ gi ci, Pile wr (S + 1) (S + 1 + 1) vless ((L.take j).foldl (relax cl (c1, c2)) (cs0, r0)).2 gi ci ∧ gi ≠ cc ∧ CRow wr S ((L.take j).foldl (relax cl (c1, c2)) (cs0, r0)).1
  cc : wr.heap[cc]? = some (.cells #[.int .i64 c1, .int .i64 c2] 108)
  be : Below S w wr
def InR (w : World) (g kb M S cc : Nat) (to : Int) (A : Option Addr) (c : Nat) (cl : List Bool) (c1 c2 : Int) (L : List Int) (cs0 : List C2) (r0 : List V3) (j : Nat) (a : Act) (wr : World) : Prop :=
  a = FRI g kb M S (S + 1 + 1) cc to A L.length c (j : Int) (fun i => a.tmps.getD i undef) ∧ ISt w S cl c1 c2 L cs0 r0 cc j wr
def OutR (w : World) (g kb M S : Nat) (to : Int) (ln : Int → Int) (bef : Nat → List Int) (cl : List Bool) (res : List C2) (k : Nat) (a : Act) (wr : World) : Prop :=
  a = FRO g kb M S (S + 1 + 1) to (fun i => a.tmps.getD i undef) ∧ CSt w S M ln bef cl res k wr
end Go.Proofs.Ytcpanfpijljeaaa
