/- The costs of all moves, and the example. -/
import Derived.BigQuiet
import Derived.BigRegion
import Derived.Deep.Light
import Derived.Deep.LoopGhost
import Derived.Deep.QuietTactic
import Derived.Deep.RegionHeld3
import Derived.Test.YtcpanfpijljeaaaGreatG5
import Derived.Test.YtcpanfpijljeaaaGreatQ4
import Derived.Test.YtcpanfpijljeaaaGreatQ6
import Derived.Test.YtcpanfpijljeaaaGreatQ7
namespace Go.Proofs.YtcpanfpijljeaaaGreat
set_option linter.unusedVariables false
set_option linter.unusedSimpArgs false
open Go.RowKit

theorem inf108 : (Tryz.prog.info? 118).map (fun i => (i.zero, i.size, i.bytes)) = some (some (.agg #[.int .i64 0, .int .i64 0]), 2, 16) := by kernel_rfl
theorem meth_take (a : Addr) (w : World) : (method 333 134 (.pointer (some a)) "tramline/track.take").run Tryz.prog w = .ok (158, .pointer (some a)) w := by kernel_rfl
theorem meth_put (a : Addr) (w : World) : (method 333 134 (.pointer (some a)) "tramline/track.put").run Tryz.prog w = .ok (156, .pointer (some a)) w := by kernel_rfl
theorem nila_take (a : Addr) (w : World) : (nilAhead 333 134 (.pointer (some a)) "tramline/track.take").run Tryz.prog w = .ok (some false) w := by kernel_rfl
theorem nila_put (a : Addr) (w : World) : (nilAhead 333 134 (.pointer (some a)) "tramline/track.put").run Tryz.prog w = .ok (some false) w := by kernel_rfl

theorem befL_bd {p : Pl} {k y : Nat} : ∀ z ∈ befL p k y, ∃ t : Nat, z = t ∧ t < k := by
  intro z hz
  unfold befL at hz
  obtain ⟨x, hx, hz⟩ := List.mem_flatMap.1 hz
  obtain ⟨_, _, rfl⟩ := List.mem_map.1 hz
  exact ⟨x, rfl, List.mem_range.1 hx⟩

def CostsPost (M : Nat) (res : List C2) (w : World) (e : Ending) (w' : World) : Prop :=
  (∃ cb, e = .returned (.slice (some ⟨cb, 0, none⟩) M M) ∧ CRow w' cb res ∧ w.heap.size ≤ cb) ∧ Below w.heap.size w w'

def negRow (M k : Nat) : List C2 := List.replicate k (-1, 0) ++ List.replicate (M - k) (0, 0)
theorem negRow_len {M k : Nat} (h : k ≤ M) : (negRow M k).length = M := by simp [negRow]; omega
theorem negRow_set {M k : Nat} (h : k < M) : (negRow M k).set k (-1, ((negRow M k)[k]'(by rw [negRow_len (by omega)]; exact h)).2) = negRow M (k + 1) := by
  apply List.ext_getElem
  · rw [List.length_set, negRow_len (by omega), negRow_len (by omega)]
  · intro i h1 h2
    rw [List.length_set, negRow_len (by omega)] at h1
    rw [List.getElem_set]
    by_cases hi : k = i
    · subst hi
      rw [if_pos rfl]
      simp [negRow]
    · rw [if_neg hi]
      simp only [negRow, List.getElem_append, List.length_replicate, List.getElem_replicate]
      by_cases hk : i < k
      · simp [hk, show i < k + 1 by omega]
      · simp [hk, show ¬ i < k + 1 by omega]
theorem negRow_all (M : Nat) : negRow M M = List.replicate M (-1, 0) := by simp [negRow]
theorem negRow_zero (M : Nat) : negRow M 0 = List.replicate M (0, 0) := by simp [negRow]

theorem cmpC_eq (a b : C2) : cmpC a b = cmp4 a.1 a.2 b.1 b.2 := rfl
theorem costAt_at {cs : List C2} {x : Nat} (h : x < cs.length) : costAt cs (x : Int) = cs[x] := by simp [costAt, List.getD, h]
/-- a new pile of one item: the item, then the pile -/
theorem pile_new (W : World) (S : Nat) (x : V3) (hS : W.heap.size = S) :
    Pile ((W.alloc (.cells #[.int .i64 x.l, .int .i64 x.m, .int .i64 x.v] 136)).alloc (.cells #[.slice (some ⟨S, 0, none⟩) 1 1, vless] 141)) S (S + 1) vless [x] S 1 := by
  subst hS
  refine ⟨by omega, Nat.le_refl _, by omega, ?_, ⟨_, (Below.heap_alloc _ _ _ (by simp)).trans (heap_alloc_new W _), rfl, rfl⟩, Nat.le_refl _, by simp [maxLen]⟩
  have := heap_alloc_new (W.alloc (.cells #[.int .i64 x.l, .int .i64 x.m, .int .i64 x.v] 136)) (.cells #[.slice (some ⟨W.heap.size, 0, none⟩) 1 1, vless] 141)
  rw [show (W.alloc (.cells #[.int .i64 x.l, .int .i64 x.m, .int .i64 x.v] 136)).heap.size = W.heap.size + 1 by simp] at this
  exact this
/-- the bodies of the loops of a code, outer ones first -/
def loopsIn : Code → List Code
  | .loop c => c :: loopsIn c
  | .seq a b => loopsIn a ++ loopsIn b
  | .block _ c => loopsIn c
  | .scope c => loopsIn c
  | .cond _ a b => loopsIn a ++ loopsIn b
  | _ => []

set_option maxRecDepth 100000 in
/-- the frame of the loop over those that come before -/
def FRI (g kb M S pb cc : Nat) (to : Int) (A : Option Addr) (n c : Nat) (i : Int) (u : Nat → Value) : Act := ⟨#[.pointer (some ⟨g, 0, none⟩), .int .i64 to, .slice (some ⟨kb, 0, none⟩) M M, u 3, u 4, u 5, u 6, .slice (some ⟨S, 0, none⟩) M M, u 8, .iface 134 (.pointer (some ⟨pb, 0, none⟩)), u 10, u 11, .pointer (some ⟨cc, 0, none⟩), u 13, u 14, u 15, u 16, u 17, u 18, u 19, u 20, u 21, u 22, u 23, u 24, u 25, u 26, u 27, u 28, u 29, u 30, u 31, u 32, u 33, u 34, u 35, u 36, u 37, u 38, u 39, u 40, u 41, u 42, u 43, u 44, u 45, u 46, u 47, u 48, u 49, u 50, u 51, u 52, u 53, u 54, u 55, u 56, u 57, u 58, u 59, u 60, u 61, u 62, u 63, u 64, u 65, u 66, u 67, u 68, u 69, u 70, u 71, u 72, u 73, u 74, u 75, u 76, u 77, u 78, u 79, u 80, u 81, u 82, u 83, u 84, u 85, u 86, .slice A n c, .int .i64 (n : Int), .int .i64 i, u 90, u 91, u 92, u 93, u 94, u 95, u 96, u 97, u 98, u 99, u 100, u 101, u 102, u 103, u 104, u 105, u 106, u 107, u 108, u 109, u 110, u 111, u 112, u 113, u 114, u 115, u 116, u 117, u 118, u 119, u 120, u 121, u 122, u 123, u 124], []⟩
set_option maxRecDepth 100000 in
/-- the frame of the search's loop -/
def FRO (g kb M S pb : Nat) (to : Int) (u : Nat → Value) : Act := ⟨#[.pointer (some ⟨g, 0, none⟩), .int .i64 to, .slice (some ⟨kb, 0, none⟩) M M, u 3, u 4, u 5, u 6, .slice (some ⟨S, 0, none⟩) M M, u 8, .iface 134 (.pointer (some ⟨pb, 0, none⟩)), u 10, u 11, u 12, u 13, u 14, u 15, u 16, u 17, u 18, u 19, u 20, u 21, u 22, u 23, u 24, u 25, u 26, u 27, u 28, u 29, u 30, u 31, u 32, u 33, u 34, u 35, u 36, u 37, u 38, u 39, u 40, u 41, u 42, u 43, u 44, u 45, u 46, u 47, u 48, u 49, u 50, u 51, u 52, u 53, u 54, u 55, u 56, u 57, u 58, u 59, u 60, u 61, u 62, u 63, u 64, u 65, u 66, u 67, u 68, u 69, u 70, u 71, u 72, u 73, u 74, u 75, u 76, u 77, u 78, u 79, u 80, u 81, u 82, u 83, u 84, u 85, u 86, u 87, u 88, u 89, u 90, u 91, u 92, u 93, u 94, u 95, u 96, u 97, u 98, u 99, u 100, u 101, u 102, u 103, u 104, u 105, u 106, u 107, u 108, u 109, u 110, u 111, u 112, u 113, u 114, u 115, u 116, u 117, u 118, u 119, u 120, u 121, u 122, u 123, u 124], []⟩

/-- at the head of the search's loop -/
structure CSt (w : World) (S M : Nat) (ln : Int → Int) (bef : Nat → List Int) (cl : List Bool) (res : List C2) (k : Nat) (wr : World) : Prop where
  ex : ∃ cs it gi ci, search ln bef cl k cs it = some res ∧ cs.length = M ∧ (∀ y ∈ it, OkV M y) ∧ Pile wr (S + 1) (S + 1 + 1) vless it gi ci ∧ CRow wr S cs
  be : Below S w wr
/-- at the head of the loop over those that come before -/
structure ISt (w : World) (S : Nat) (cl : List Bool) (c1 c2 : Int) (L : List Int) (cs0 : List C2) (r0 : List V3) (cc j : Nat) (wr : World) : Prop where
  ex : ∃ gi ci, Pile wr (S + 1) (S + 1 + 1) vless ((L.take j).foldl (relax cl (c1, c2)) (cs0, r0)).2 gi ci ∧ gi ≠ cc ∧ CRow wr S ((L.take j).foldl (relax cl (c1, c2)) (cs0, r0)).1
  cc : wr.heap[cc]? = some (.cells #[.int .i64 c1, .int .i64 c2] 118)
  be : Below S w wr
def InR (w : World) (g kb M S cc : Nat) (to : Int) (A : Option Addr) (c : Nat) (cl : List Bool) (c1 c2 : Int) (L : List Int) (cs0 : List C2) (r0 : List V3) (j : Nat) (a : Act) (wr : World) : Prop :=
  a = FRI g kb M S (S + 1 + 1) cc to A L.length c (j : Int) (fun i => a.tmps.getD i undef) ∧ ISt w S cl c1 c2 L cs0 r0 cc j wr
def OutR (w : World) (g kb M S : Nat) (to : Int) (ln : Int → Int) (bef : Nat → List Int) (cl : List Bool) (res : List C2) (k : Nat) (a : Act) (wr : World) : Prop :=
  a = FRO g kb M S (S + 1 + 1) to (fun i => a.tmps.getD i undef) ∧ CSt w S M ln bef cl res k wr
end Go.Proofs.YtcpanfpijljeaaaGreat

namespace Go.Proofs.YtcpanfpijljeaaaGreat
set_option linter.unusedVariables false
set_option linter.unusedSimpArgs false
open Go.RowKit

set_option maxRecDepth 100000 in
set_option maxHeartbeats 2000000 in
theorem in_low {w wr : World} {g kb M S cc to : Nat} {b3 o3 c : Nat} {cl : List Bool} {z1 z2 : Int} {L : List Int} {cs0 : List C2} {r0 : List V3} {s : List C2 × List V3} {g3 c3 j b : Nat} {x1 x2 : Int}
    (u : Nat → Value) (K : Act → World → Prop) (Q : Exit → Act → World → Prop)
    (hK : ∀ a' w', InR w g kb M S cc (to : Int) (some ⟨b3, o3, none⟩) c cl z1 z2 L cs0 r0 (j + 1) a' w' → K a' w')
    (hj : j < L.length) (hLl : L.length ≤ 1600) (hbM : b < M) (hM : M ≤ 800) (q3 : wr.cell? ⟨b3, o3 + j, none⟩ = some (.int .i64 (b : Int)))
    (kc : wr.cell? ⟨kb, b, none⟩ = some (.bool false)) (hkb : kb < wr.heap.size) (hp : Pile wr (S + 1) (S + 1 + 1) vless s.2 g3 c3) (hg3 : g3 ≠ cc) (hr : CRow wr S s.1) (hbl : b < s.1.length)
    (hk : wr.heap[cc]? = some (.cells #[.int .i64 z1, .int .i64 z2] 118)) (hbe : Below S w wr) (hSw : S = w.heap.size) (hcc : S + 1 + 1 < cc) (hs2 : s.2.length ≤ 1001600)
    (f0 : wr.cell? ⟨S, b * 2, none⟩ = some (.int .i64 x1)) (f1 : wr.cell? ⟨S, b * 2 + 1, none⟩ = some (.int .i64 x2)) (ht : (L.take (j + 1)).foldl (relax cl (z1, z2)) (cs0, r0) = (s.1.set b (z1, z2), putL s.2 ⟨z1, z2, (b : Int)⟩)) (hd : decide (x1 < 0) = true) :
    Code.wp Tryz.prog (((Tryz.f57.body.map loopsIn).getD []).getD 2 .skip) (Exit.then K Q) (FRI g kb M S (S + 1 + 1) cc (to : Int) (some ⟨b3, o3, none⟩) L.length c (j : Int) u) wr := by
  have f2 := hr.fro (b * 2); have f3 := hr.fro (b * 2 + 1)
  have k0 : wr.cell? ⟨cc, 0, none⟩ = some (.int .i64 z1) := cell_of_row _ _ 0 _ _ _ hk
  have k1 : wr.cell? ⟨cc, 1, none⟩ = some (.int .i64 z2) := cell_of_row _ _ 1 _ _ _ hk
  have hcl3 : cc < wr.heap.size := (Array.getElem?_eq_some_iff.1 hk).1
  have hgb3 := hp.gl
  have hgl3 := hp.glt
  have hpl3 := hp.plt
  have hS1 : S < wr.heap.size := by omega
  have hSz : S ≤ w.heap.size := by omega
  have HP := Lib.hid hp; have HR := Lib.hid hr; have HK := Lib.hid hk; have HBE := Lib.hid hbe; have HT := Lib.hid ht
  have b0 : (0 : Int) ≤ (b : Int) := by omega
  have b1 : (b : Int) < (M : Int) := by omega
  have j0 : (0 : Int) ≤ (j : Int) := by omega
  have j1 : (j : Int) < (L.length : Int) := by omega
  have j2 : (j : Int) + 1 ≤ 1601 := by omega
  have HJ := Lib.hid (show ((j + 1 : Nat) : Int) = (j : Int) + 1 by omega)
  have HSW := Lib.hid hSw
  clear hp hr hk hbe ht hSw
  have hm2 := meth_put; have hm4 := nila_put
  conv => arg 2; whnf
  simp only [FRI]
  go_wp2
  go_quiet (fail)
  obtain ⟨nC, rfl⟩ : ∃ n, n = nq := ⟨_, rfl⟩
  go_wp2_with fail
  refine (put_any (base := S + 1) (pb := S + 1 + 1) (g := g3) (c := c3) (l := s.2) ?hp1 ?hp2 (by omega) ⟨z1, z2, (b : Int)⟩).mono ?_
  case hp1 => exact ((HP.out.drewN nC).other (p := ⟨S, b * 2, none⟩) _ (by simp; omega) (by simp; omega)).other (p := ⟨S, b * 2 + 1, none⟩) _ (by simp; omega) (by simp; omega)
  case hp2 => simp [World.setCell]; omega
  rintro e w7 ⟨rfl, ⟨g7, c7, hp7, hg7⟩, hf7⟩
  have HP7 := Lib.hid hp7
  have HR7 := Lib.hid (((show CRow (wr.drewN nC) S s.1 from HR.out).set (i := b) hbl (z1, z2)).fp hf7 (by omega) (by omega))
  have HC7 := Lib.hid ((hf7.block cc (by simp [World.setCell]; omega) (by omega) (by omega)).trans ((Below.heap_setCell _ _ _ _ (by simp; omega)).trans ((Below.heap_setCell _ _ _ _ (by simp; omega)).trans (HK.out))))
  have HB7 := Lib.hid ((((bDrewN HBE.out nC).setCell (p := ⟨S, b * 2, none⟩) (Nat.le_refl _) (.int .i64 z1)).setCell (p := ⟨S, b * 2 + 1, none⟩) (Nat.le_refl _) (.int .i64 z2)).trans (hf7.toBelow (B := S) (by omega) (by omega) (by simp [World.setCell]; omega)))
  have hg7' : g7 ≠ cc := by
    rcases hg7 with e | e
    · rw [e]; exact hg3
    · simp [World.setCell] at e; omega
  clear hp7 hf7 hg7
  go_wp2
  exact ⟨by rw [HJ.out]; rfl, ⟨⟨g7, c7, by rw [HT.out]; exact HP7.out, hg7', by rw [HT.out]; exact HR7.out⟩, HC7.out, HB7.out⟩⟩
end Go.Proofs.YtcpanfpijljeaaaGreat

namespace Go.Proofs.YtcpanfpijljeaaaGreat
set_option linter.unusedVariables false
set_option linter.unusedSimpArgs false
open Go.RowKit

set_option maxRecDepth 100000 in
set_option maxHeartbeats 2000000 in
theorem in_less {w wr : World} {g kb M S cc to : Nat} {b3 o3 c : Nat} {cl : List Bool} {z1 z2 : Int} {L : List Int} {cs0 : List C2} {r0 : List V3} {s : List C2 × List V3} {g3 c3 j b : Nat} {x1 x2 : Int}
    (u : Nat → Value) (K : Act → World → Prop) (Q : Exit → Act → World → Prop)
    (hK : ∀ a' w', InR w g kb M S cc (to : Int) (some ⟨b3, o3, none⟩) c cl z1 z2 L cs0 r0 (j + 1) a' w' → K a' w')
    (hj : j < L.length) (hLl : L.length ≤ 1600) (hbM : b < M) (hM : M ≤ 800) (q3 : wr.cell? ⟨b3, o3 + j, none⟩ = some (.int .i64 (b : Int)))
    (kc : wr.cell? ⟨kb, b, none⟩ = some (.bool false)) (hkb : kb < wr.heap.size) (hp : Pile wr (S + 1) (S + 1 + 1) vless s.2 g3 c3) (hg3 : g3 ≠ cc) (hr : CRow wr S s.1) (hbl : b < s.1.length)
    (hk : wr.heap[cc]? = some (.cells #[.int .i64 z1, .int .i64 z2] 118)) (hbe : Below S w wr) (hSw : S = w.heap.size) (hcc : S + 1 + 1 < cc) (hs2 : s.2.length ≤ 1001600)
    (f0 : wr.cell? ⟨S, b * 2, none⟩ = some (.int .i64 x1)) (f1 : wr.cell? ⟨S, b * 2 + 1, none⟩ = some (.int .i64 x2)) (ht : (L.take (j + 1)).foldl (relax cl (z1, z2)) (cs0, r0) = (s.1.set b (z1, z2), putL s.2 ⟨z1, z2, (b : Int)⟩)) (hd : decide (x1 < 0) = false) {zz : Int} (hzz : cmp4 z1 z2 x1 x2 = zz) (hz : decide (zz < 0) = true) :
    Code.wp Tryz.prog (((Tryz.f57.body.map loopsIn).getD []).getD 2 .skip) (Exit.then K Q) (FRI g kb M S (S + 1 + 1) cc (to : Int) (some ⟨b3, o3, none⟩) L.length c (j : Int) u) wr := by
  have f2 := hr.fro (b * 2); have f3 := hr.fro (b * 2 + 1)
  have k0 : wr.cell? ⟨cc, 0, none⟩ = some (.int .i64 z1) := cell_of_row _ _ 0 _ _ _ hk
  have k1 : wr.cell? ⟨cc, 1, none⟩ = some (.int .i64 z2) := cell_of_row _ _ 1 _ _ _ hk
  have hcl3 : cc < wr.heap.size := (Array.getElem?_eq_some_iff.1 hk).1
  have hgb3 := hp.gl
  have hgl3 := hp.glt
  have hpl3 := hp.plt
  have hS1 : S < wr.heap.size := by omega
  have hSz : S ≤ w.heap.size := by omega
  have HP := Lib.hid hp; have HR := Lib.hid hr; have HK := Lib.hid hk; have HBE := Lib.hid hbe; have HT := Lib.hid ht
  have b0 : (0 : Int) ≤ (b : Int) := by omega
  have b1 : (b : Int) < (M : Int) := by omega
  have j0 : (0 : Int) ≤ (j : Int) := by omega
  have j1 : (j : Int) < (L.length : Int) := by omega
  have j2 : (j : Int) + 1 ≤ 1601 := by omega
  have HJ := Lib.hid (show ((j + 1 : Nat) : Int) = (j : Int) + 1 by omega)
  have HSW := Lib.hid hSw
  clear hp hr hk hbe ht hSw
  have HZZ := Lib.hid hzz
  clear hzz
  have hm2 := meth_put; have hm4 := nila_put
  conv => arg 2; whnf
  simp only [FRI]
  go_wp2
  go_region_held3 (fun w' => w'.cell? ⟨kb, b, none⟩ = some (.bool false) ∧ w'.cell? ⟨S, b * 2, none⟩ = some (.int .i64 x1) ∧ w'.cell? ⟨S, b * 2 + 1, none⟩ = some (.int .i64 x2) ∧
      w'.cell? ⟨cc, 0, none⟩ = some (.int .i64 z1) ∧ w'.cell? ⟨cc, 1, none⟩ = some (.int .i64 z2))
    (first | (go_keep; done) | exact ⟨(hb5.cell (p := ⟨kb, b, none⟩) hkb).trans kc, (hb5.cell (p := ⟨S, b * 2, none⟩) hS1).trans f0, (hb5.cell (p := ⟨S, b * 2 + 1, none⟩) hS1).trans f1, (hb5.cell (p := ⟨cc, 0, none⟩) hcl3).trans k0, (hb5.cell (p := ⟨cc, 1, none⟩) hcl3).trans k1⟩)
    ((go_at_call 82; refine (cc_any z1 z2 x1 x2 _).mono ?_; rw [HZZ.out]; rintro e w5 ⟨rfl, hb5⟩))
  have HBE5 := Lib.hid (HBE.out.trans ((Below.refl S wr).drew.trans (hb5.mono (by simp; omega))))
  have HP5 := Lib.hid (HP.out.drew.below hb5 hpl3 hgl3)
  have HR5 := Lib.hid (CRow.below (w := wr.drew) HR.out hb5 hS1)
  have HK5 := Lib.hid ((hb5.block cc hcl3).trans HK.out)
  have hz5 : wr.heap.size ≤ w5.heap.size := hb5.size
  have f0' := (hb5.cell (p := ⟨S, b * 2, none⟩) hS1).trans f0
  have f1' := (hb5.cell (p := ⟨S, b * 2 + 1, none⟩) hS1).trans f1
  have f2' := HR5.out.fro (b * 2); have f3' := HR5.out.fro (b * 2 + 1)
  have k0' : w5.cell? ⟨cc, 0, none⟩ = some (.int .i64 z1) := cell_of_row _ _ 0 _ _ _ HK5.out
  have k1' : w5.cell? ⟨cc, 1, none⟩ = some (.int .i64 z2) := cell_of_row _ _ 1 _ _ _ HK5.out
  clear hb5
  go_wp2_with fail
  refine (put_any (base := S + 1) (pb := S + 1 + 1) (g := g3) (c := c3) (l := s.2) ?hp1 ?hp2 (by omega) ⟨z1, z2, (b : Int)⟩).mono ?_
  case hp1 => exact ((HP5.out).other (p := ⟨S, b * 2, none⟩) _ (by simp; omega) (by simp; omega)).other (p := ⟨S, b * 2 + 1, none⟩) _ (by simp; omega) (by simp; omega)
  case hp2 => simp [World.setCell]; omega
  rintro e w7 ⟨rfl, ⟨g7, c7, hp7, hg7⟩, hf7⟩
  have HP7 := Lib.hid hp7
  have HR7 := Lib.hid (((HR5.out).set (i := b) hbl (z1, z2)).fp hf7 (by omega) (by omega))
  have HC7 := Lib.hid ((hf7.block cc (by simp [World.setCell]; omega) (by omega) (by omega)).trans ((Below.heap_setCell _ _ _ _ (by simp; omega)).trans ((Below.heap_setCell _ _ _ _ (by simp; omega)).trans (HK5.out))))
  have HB7 := Lib.hid ((((HBE5.out).setCell (p := ⟨S, b * 2, none⟩) (Nat.le_refl _) (.int .i64 z1)).setCell (p := ⟨S, b * 2 + 1, none⟩) (Nat.le_refl _) (.int .i64 z2)).trans (hf7.toBelow (B := S) (by omega) (by omega) (by simp [World.setCell]; omega)))
  have hg7' : g7 ≠ cc := by
    rcases hg7 with e | e
    · rw [e]; exact hg3
    · simp [World.setCell] at e; omega
  clear hp7 hf7 hg7
  go_wp2
  exact ⟨by rw [HJ.out]; rfl, ⟨⟨g7, c7, by rw [HT.out]; exact HP7.out, hg7', by rw [HT.out]; exact HR7.out⟩, HC7.out, HB7.out⟩⟩
set_option maxRecDepth 100000 in
set_option maxHeartbeats 2000000 in
theorem in_not {w wr : World} {g kb M S cc to : Nat} {b3 o3 c : Nat} {cl : List Bool} {z1 z2 : Int} {L : List Int} {cs0 : List C2} {r0 : List V3} {s : List C2 × List V3} {g3 c3 j b : Nat} {x1 x2 : Int}
    (u : Nat → Value) (K : Act → World → Prop) (Q : Exit → Act → World → Prop)
    (hK : ∀ a' w', InR w g kb M S cc (to : Int) (some ⟨b3, o3, none⟩) c cl z1 z2 L cs0 r0 (j + 1) a' w' → K a' w')
    (hj : j < L.length) (hLl : L.length ≤ 1600) (hbM : b < M) (hM : M ≤ 800) (q3 : wr.cell? ⟨b3, o3 + j, none⟩ = some (.int .i64 (b : Int)))
    (kc : wr.cell? ⟨kb, b, none⟩ = some (.bool false)) (hkb : kb < wr.heap.size) (hp : Pile wr (S + 1) (S + 1 + 1) vless s.2 g3 c3) (hg3 : g3 ≠ cc) (hr : CRow wr S s.1) (hbl : b < s.1.length)
    (hk : wr.heap[cc]? = some (.cells #[.int .i64 z1, .int .i64 z2] 118)) (hbe : Below S w wr) (hSw : S = w.heap.size) (hcc : S + 1 + 1 < cc) (hs2 : s.2.length ≤ 1001600)
    (f0 : wr.cell? ⟨S, b * 2, none⟩ = some (.int .i64 x1)) (f1 : wr.cell? ⟨S, b * 2 + 1, none⟩ = some (.int .i64 x2)) (ht : (L.take (j + 1)).foldl (relax cl (z1, z2)) (cs0, r0) = s) (hd : decide (x1 < 0) = false) {zz : Int} (hzz : cmp4 z1 z2 x1 x2 = zz) (hz : decide (zz < 0) = false) :
    Code.wp Tryz.prog (((Tryz.f57.body.map loopsIn).getD []).getD 2 .skip) (Exit.then K Q) (FRI g kb M S (S + 1 + 1) cc (to : Int) (some ⟨b3, o3, none⟩) L.length c (j : Int) u) wr := by
  have f2 := hr.fro (b * 2); have f3 := hr.fro (b * 2 + 1)
  have k0 : wr.cell? ⟨cc, 0, none⟩ = some (.int .i64 z1) := cell_of_row _ _ 0 _ _ _ hk
  have k1 : wr.cell? ⟨cc, 1, none⟩ = some (.int .i64 z2) := cell_of_row _ _ 1 _ _ _ hk
  have hcl3 : cc < wr.heap.size := (Array.getElem?_eq_some_iff.1 hk).1
  have hgb3 := hp.gl
  have hgl3 := hp.glt
  have hpl3 := hp.plt
  have hS1 : S < wr.heap.size := by omega
  have hSz : S ≤ w.heap.size := by omega
  have HP := Lib.hid hp; have HR := Lib.hid hr; have HK := Lib.hid hk; have HBE := Lib.hid hbe; have HT := Lib.hid ht
  have b0 : (0 : Int) ≤ (b : Int) := by omega
  have b1 : (b : Int) < (M : Int) := by omega
  have j0 : (0 : Int) ≤ (j : Int) := by omega
  have j1 : (j : Int) < (L.length : Int) := by omega
  have j2 : (j : Int) + 1 ≤ 1601 := by omega
  have HJ := Lib.hid (show ((j + 1 : Nat) : Int) = (j : Int) + 1 by omega)
  have HSW := Lib.hid hSw
  clear hp hr hk hbe ht hSw
  have HZZ := Lib.hid hzz
  clear hzz
  conv => arg 2; whnf
  simp only [FRI]
  go_wp2
  go_region_held3 (fun w' => w'.cell? ⟨kb, b, none⟩ = some (.bool false) ∧ w'.cell? ⟨S, b * 2, none⟩ = some (.int .i64 x1) ∧ w'.cell? ⟨S, b * 2 + 1, none⟩ = some (.int .i64 x2) ∧
      w'.cell? ⟨cc, 0, none⟩ = some (.int .i64 z1) ∧ w'.cell? ⟨cc, 1, none⟩ = some (.int .i64 z2))
    (first | (go_keep; done) | exact ⟨(hb5.cell (p := ⟨kb, b, none⟩) hkb).trans kc, (hb5.cell (p := ⟨S, b * 2, none⟩) hS1).trans f0, (hb5.cell (p := ⟨S, b * 2 + 1, none⟩) hS1).trans f1, (hb5.cell (p := ⟨cc, 0, none⟩) hcl3).trans k0, (hb5.cell (p := ⟨cc, 1, none⟩) hcl3).trans k1⟩)
    ((go_at_call 82; refine (cc_any z1 z2 x1 x2 _).mono ?_; rw [HZZ.out]; rintro e w5 ⟨rfl, hb5⟩))
  have HBE5 := Lib.hid (HBE.out.trans ((Below.refl S wr).drew.trans (hb5.mono (by simp; omega))))
  have HP5 := Lib.hid (HP.out.drew.below hb5 hpl3 hgl3)
  have HR5 := Lib.hid (CRow.below (w := wr.drew) HR.out hb5 hS1)
  have HK5 := Lib.hid ((hb5.block cc hcl3).trans HK.out)
  have hz5 : wr.heap.size ≤ w5.heap.size := hb5.size
  clear hb5
  go_wp2
  exact ⟨by rw [HJ.out]; rfl, ⟨⟨g3, c3, by rw [HT.out]; exact HP5.out, hg3, by rw [HT.out]; exact HR5.out⟩, HK5.out, HBE5.out⟩⟩
end Go.Proofs.YtcpanfpijljeaaaGreat

namespace Go.Proofs.YtcpanfpijljeaaaGreat
set_option linter.unusedVariables false
set_option linter.unusedSimpArgs false
open Go.RowKit

set_option maxRecDepth 100000 in
set_option maxHeartbeats 2000000 in
theorem in_shut {w wr : World} {g kb M S cc to : Nat} {b3 o3 c : Nat} {cl : List Bool} {z1 z2 : Int} {L : List Int} {cs0 : List C2} {r0 : List V3} {s : List C2 × List V3} {g3 c3 j b : Nat} {x1 x2 : Int}
    (u : Nat → Value) (K : Act → World → Prop) (Q : Exit → Act → World → Prop)
    (hK : ∀ a' w', InR w g kb M S cc (to : Int) (some ⟨b3, o3, none⟩) c cl z1 z2 L cs0 r0 (j + 1) a' w' → K a' w')
    (hj : j < L.length) (hLl : L.length ≤ 1600) (hbM : b < M) (hM : M ≤ 800) (q3 : wr.cell? ⟨b3, o3 + j, none⟩ = some (.int .i64 (b : Int)))
    (kc : wr.cell? ⟨kb, b, none⟩ = some (.bool true)) (hkb : kb < wr.heap.size) (hp : Pile wr (S + 1) (S + 1 + 1) vless s.2 g3 c3) (hg3 : g3 ≠ cc) (hr : CRow wr S s.1) (hbl : b < s.1.length)
    (hk : wr.heap[cc]? = some (.cells #[.int .i64 z1, .int .i64 z2] 118)) (hbe : Below S w wr) (hSw : S = w.heap.size) (hcc : S + 1 + 1 < cc) (hs2 : s.2.length ≤ 1001600)
    (f0 : wr.cell? ⟨S, b * 2, none⟩ = some (.int .i64 x1)) (f1 : wr.cell? ⟨S, b * 2 + 1, none⟩ = some (.int .i64 x2)) (ht : (L.take (j + 1)).foldl (relax cl (z1, z2)) (cs0, r0) = s) :
    Code.wp Tryz.prog (((Tryz.f57.body.map loopsIn).getD []).getD 2 .skip) (Exit.then K Q) (FRI g kb M S (S + 1 + 1) cc (to : Int) (some ⟨b3, o3, none⟩) L.length c (j : Int) u) wr := by
  have f2 := hr.fro (b * 2); have f3 := hr.fro (b * 2 + 1)
  have k0 : wr.cell? ⟨cc, 0, none⟩ = some (.int .i64 z1) := cell_of_row _ _ 0 _ _ _ hk
  have k1 : wr.cell? ⟨cc, 1, none⟩ = some (.int .i64 z2) := cell_of_row _ _ 1 _ _ _ hk
  have hcl3 : cc < wr.heap.size := (Array.getElem?_eq_some_iff.1 hk).1
  have hgb3 := hp.gl
  have hgl3 := hp.glt
  have hpl3 := hp.plt
  have hS1 : S < wr.heap.size := by omega
  have hSz : S ≤ w.heap.size := by omega
  have HP := Lib.hid hp; have HR := Lib.hid hr; have HK := Lib.hid hk; have HBE := Lib.hid hbe; have HT := Lib.hid ht
  have b0 : (0 : Int) ≤ (b : Int) := by omega
  have b1 : (b : Int) < (M : Int) := by omega
  have j0 : (0 : Int) ≤ (j : Int) := by omega
  have j1 : (j : Int) < (L.length : Int) := by omega
  have j2 : (j : Int) + 1 ≤ 1601 := by omega
  have HJ := Lib.hid (show ((j + 1 : Nat) : Int) = (j : Int) + 1 by omega)
  have HSW := Lib.hid hSw
  clear hp hr hk hbe ht hSw
  conv => arg 2; whnf
  simp only [FRI]
  go_wp2
  go_quiet (fail)
  obtain ⟨nC, rfl⟩ : ∃ n, n = nq := ⟨_, rfl⟩
  go_wp2
  exact ⟨by rw [HJ.out]; rfl, ⟨⟨g3, c3, by rw [HT.out]; exact HP.out.drewN _, hg3, by rw [HT.out]; exact HR.out⟩, HK.out, bDrewN HBE.out _⟩⟩
end Go.Proofs.YtcpanfpijljeaaaGreat
/- The loop over those that come before, whole. -/
namespace Go.Proofs.YtcpanfpijljeaaaGreat
open Go.RowKit

set_option maxRecDepth 100000 in
set_option maxHeartbeats 2000000 in
theorem in_exit {w wr : World} {g kb M S cc to : Nat} {A : Option Addr} {c : Nat} {cl : List Bool} {z1 z2 : Int} {L : List Int} {cs0 : List C2} {r0 : List V3}
    (u : Nat → Value) (K : Act → World → Prop) (Q : Exit → Act → World → Prop)
    (hQ : ∀ a' w', InR w g kb M S cc (to : Int) A c cl z1 z2 L cs0 r0 L.length a' w' → Q (.exit 4) a' w') (hst : ISt w S cl z1 z2 L cs0 r0 cc L.length wr) :
    Code.wp Tryz.prog (((Tryz.f57.body.map loopsIn).getD []).getD 2 .skip) (Exit.then K Q) (FRI g kb M S (S + 1 + 1) cc (to : Int) A L.length c (L.length : Int) u) wr := by
  have HS := Lib.hid hst
  clear hst
  conv => arg 2; whnf
  simp only [FRI]
  go_wp2
  exact ⟨rfl, HS.out⟩

set_option maxRecDepth 100000 in
set_option maxHeartbeats 2000000 in
theorem inner_loop {w W : World} {B g kb M S cc to : Nat} {A : Option Addr} {c : Nat} {cl : List Bool} {z1 z2 : Int} {L : List Int} {cs0 : List C2} {r0 : List V3}
    (u : Nat → Value) (Q : Exit → Act → World → Prop)
    (hQ : ∀ a' w', InR w g kb M S cc (to : Int) A c cl z1 z2 L cs0 r0 L.length a' w' → Q (.exit 4) a' w') (hst : ISt w S cl z1 z2 L cs0 r0 cc 0 W)
    (hA : Sl w B 1 CI A L) (hBS : B ≤ S) (hLb : ∀ z ∈ L, ∃ t : Nat, z = t ∧ t < M) (hLl : L.length ≤ 1600) (hM : M ≤ 800) (hkb : BRow w kb cl) (hcl : cl.length = M) (hcs : cs0.length = M)
    (hri : ∀ y ∈ r0, OkV M y) (hrl : r0.length ≤ 1000000) (hSw : S = w.heap.size) (hcc : S + 1 + 1 < cc) (h0 : 0 ≤ z1) (h1 : 0 ≤ z2) :
    (Code.loop (((Tryz.f57.body.map loopsIn).getD []).getD 2 .skip)).wp Tryz.prog Q (FRI g kb M S (S + 1 + 1) cc (to : Int) A L.length c 0 u) W := by
  refine wp_loop_ghost (fun n a w' => ∃ j, n + j = L.length ∧ InR w g kb M S cc (to : Int) A c cl z1 z2 L cs0 r0 j a w') L.length ⟨0, rfl, rfl, hst⟩ ?_
  rintro n a wr ⟨j, hn, ha, hI⟩
  obtain ⟨u, rfl⟩ : ∃ u, a = FRI g kb M S (S + 1 + 1) cc (to : Int) A L.length c (j : Int) u := ⟨_, ha⟩
  by_cases hlt : j < L.length
  · obtain ⟨b3, o3, rfl, g3', q3⟩ := int_at hA hlt
    obtain ⟨b, hb, hbM⟩ := hLb L[j] (List.getElem_mem hlt)
    rw [hb] at q3
    obtain ⟨⟨g3, c3, hp, hg3, hr⟩, hk, hbe⟩ := hI
    have q4 := (hbe.cell (p := ⟨b3, o3 + j, none⟩) (by simp; omega)).trans q3
    obtain ⟨n1, n2, n3⟩ := relaxes_ok (M := M) (cl := cl) (c := (z1, z2)) h0 h1 (L.take j) (cs0, r0) hcs hri fun z hz => hLb z (List.mem_of_mem_take hz)
    have hT := foldl_take (relax cl (z1, z2)) (cs0, r0) L hlt
    rw [hb] at hT
    have hl := List.length_take_le j L
    generalize (L.take j).foldl (relax cl (z1, z2)) (cs0, r0) = s at *
    have hs2 : s.2.length ≤ 1001600 := by simp only at n3; omega
    have hbl : b < s.1.length := by omega
    obtain ⟨f0, f1⟩ := hr.cell hbl
    have hbc : b < cl.length := by omega
    have kc := (hbe.cell (p := ⟨kb, b, none⟩) (by have := hkb.lt; simp; omega)).trans (hkb.cell hbc)
    have hkb' : kb < wr.heap.size := by have := hkb.lt; have := hbe.size; omega
    have HA := costAt_at hbl
    have HSH : shutAt cl (b : Int) = cl[b] := by simp [shutAt, List.getD, hbc]
    have hK : ∀ a' w', InR w g kb M S cc (to : Int) (some ⟨b3, o3, none⟩) c cl z1 z2 L cs0 r0 (j + 1) a' w' → ∃ n', n' < n ∧ ∃ j, n' + j = L.length ∧ InR w g kb M S cc (to : Int) (some ⟨b3, o3, none⟩) c cl z1 z2 L cs0 r0 j a' w' :=
      fun a' w' h => ⟨n - 1, by omega, j + 1, by omega, h⟩
    cases hcb : cl[b]
    · rw [hcb] at kc
      by_cases hd : s.1[b].1 < 0
      · have hx : relax cl (z1, z2) s (b : Int) = (s.1.set b (z1, z2), putL s.2 ⟨z1, z2, (b : Int)⟩) := by
          unfold relax; rw [HSH, hcb, HA, if_pos ⟨rfl, .inl hd⟩]; simp
        exact in_low u _ Q hK hlt hLl hbM hM q4 kc hkb' hp hg3 hr hbl hk hbe hSw hcc hs2 f0 f1 (hT.trans hx) (by simpa using hd)
      · by_cases hz : cmp4 z1 z2 s.1[b].1 s.1[b].2 < 0
        · have hx : relax cl (z1, z2) s (b : Int) = (s.1.set b (z1, z2), putL s.2 ⟨z1, z2, (b : Int)⟩) := by
            unfold relax; rw [HSH, hcb, HA, if_pos ⟨rfl, .inr (by rw [cmpC_eq]; exact hz)⟩]; simp
          exact in_less u _ Q hK hlt hLl hbM hM q4 kc hkb' hp hg3 hr hbl hk hbe hSw hcc hs2 f0 f1 (hT.trans hx) (by simpa using hd) rfl (by simpa using hz)
        · have hx : relax cl (z1, z2) s (b : Int) = s := by
            unfold relax; rw [HSH, hcb, HA, if_neg]
            rintro ⟨_, h | h⟩
            · exact hd h
            · exact hz (by rw [cmpC_eq] at h; exact h)
          exact in_not u _ Q hK hlt hLl hbM hM q4 kc hkb' hp hg3 hr hbl hk hbe hSw hcc hs2 f0 f1 (hT.trans hx) (by simpa using hd) rfl (by simpa using hz)
    · rw [hcb] at kc
      have hx : relax cl (z1, z2) s (b : Int) = s := by
        unfold relax; rw [HSH, hcb, if_neg]; rintro ⟨h, _⟩; cases h
      exact in_shut u _ Q hK hlt hLl hbM hM q4 kc hkb' hp hg3 hr hbl hk hbe hSw hcc hs2 f0 f1 (hT.trans hx)
  · have hjl := hI
    obtain rfl : j = L.length := by omega
    exact in_exit u _ Q hQ hI
theorem inner_loop' {w W : World} {B g kb M S cc to : Nat} {A : Option Addr} {c : Nat} {cl : List Bool} {z1 z2 : Int} {L : List Int} {cs0 : List C2} {r0 : List V3}
    (a : Act) (Q : Exit → Act → World → Prop) (ha : a = FRI g kb M S (S + 1 + 1) cc (to : Int) A L.length c 0 (fun i => a.tmps.getD i undef))
    (hQ : ∀ a' w', InR w g kb M S cc (to : Int) A c cl z1 z2 L cs0 r0 L.length a' w' → Q (.exit 4) a' w') (hst : ISt w S cl z1 z2 L cs0 r0 cc 0 W)
    (hA : Sl w B 1 CI A L) (hBS : B ≤ S) (hLb : ∀ z ∈ L, ∃ t : Nat, z = t ∧ t < M) (hLl : L.length ≤ 1600) (hM : M ≤ 800) (hkb : BRow w kb cl) (hcl : cl.length = M) (hcs : cs0.length = M)
    (hri : ∀ y ∈ r0, OkV M y) (hrl : r0.length ≤ 1000000) (hSw : S = w.heap.size) (hcc : S + 1 + 1 < cc) (h0 : 0 ≤ z1) (h1 : 0 ≤ z2) :
    (Code.loop (((Tryz.f57.body.map loopsIn).getD []).getD 2 .skip)).wp Tryz.prog Q a W := by
  rw [ha]
  exact inner_loop _ Q hQ hst hA hBS hLb hLl hM hkb hcl hcs hri hrl hSw hcc h0 h1
end Go.Proofs.YtcpanfpijljeaaaGreat

namespace Go.Proofs.YtcpanfpijljeaaaGreat
set_option linter.unusedVariables false
set_option linter.unusedSimpArgs false
open Go.RowKit

set_option maxRecDepth 100000 in
set_option maxHeartbeats 4000000 in
theorem out_step {w wr : World} {B g kb M R S to gi ci v k q lb bb cb : Nat} {Ab : Option Addr} {d1 d2 y : Int} {r : List V3} {ln : Int → Int} {bef : Nat → List Int} {cl : List Bool} {cs res : List C2} {L : List Int}
    (u : Nat → Value) (K : Act → World → Prop) (Q : Exit → Act → World → Prop)
    (hK : ∀ a' w', OutR w g kb M S (to : Int) ln bef cl res k a' w' → K a' w')
    (hp : Pile wr (S + 1) (S + 1 + 1) vless (⟨d1, d2, (v : Int)⟩ :: r) gi ci) (hr : CRow wr S cs) (hbe : Below S w wr) (hSw : S = w.heap.size)
    (hl6 : r.length ≤ 1000000) (hcs : cs.length = M) (hit : ∀ y ∈ (⟨d1, d2, (v : Int)⟩ : V3) :: r, OkV M y) (hvM : v < M) (hM : M ≤ 800) (hMR : 2 * R = M)
    (hvc : v < cs.length) (hd1 : cs[v].1 = d1) (hd2 : cs[v].2 = d2) (hx0 : 0 ≤ d1) (hx1 : 0 ≤ d2)
    (hBS : B ≤ S) (hgB : g < B) (hlB : lb < B) (hbB : bb < B)
    (k2 : w.cell? ⟨g, 2, none⟩ = some (.slice (some ⟨lb, 0, none⟩) R R)) (k5 : w.cell? ⟨g, 5, none⟩ = some (.slice (some ⟨bb, 0, none⟩) M M))
    (hq : v / 2 = q) (z0 : w.cell? ⟨lb, q, none⟩ = some (.int .i64 y)) (hy0 : 0 ≤ y) (m0 : w.cell? ⟨bb, v, none⟩ = some (.slice Ab L.length cb)) (m1 : L.length ≤ cb) (m2 : cb ≤ maxLen) (hA : Sl w B 1 CI Ab L)
    (hLb : ∀ z ∈ L, ∃ t : Nat, z = t ∧ t < M) (hLl : L.length ≤ 1600) (hkb : BRow w kb cl) (hcl : cl.length = M) (ho1 : d1 + y ≤ 1000000000000000) (ho2 : d2 + 1 ≤ 1000000000000000)
    (hs : search ln bef cl k (L.foldl (relax cl (d1 + y, d2 + 1)) (cs, restL ⟨d1, d2, (v : Int)⟩ r)).1 (L.foldl (relax cl (d1 + y, d2 + 1)) (cs, restL ⟨d1, d2, (v : Int)⟩ r)).2 = some res) :
    Code.wp Tryz.prog (((Tryz.f57.body.map loopsIn).getD []).getD 1 .skip) (Exit.then K Q) (FRO g kb M S (S + 1 + 1) (to : Int) u) wr := by
  have hgi := hp.gl
  have hSz : S ≤ w.heap.size := by omega
  have HP := Lib.hid hp; have HR := Lib.hid hr; have HB := Lib.hid hbe; have HC := Lib.hid hcs; have HI := Lib.hid hit; have HSE := Lib.hid hs
  have HD1 := Lib.hid hd1; have HD2 := Lib.hid hd2; have HSW := Lib.hid hSw; have HA := Lib.hid hA; have HLB := Lib.hid hLb; have HKB := Lib.hid hkb; have HCL := Lib.hid hcl
  have hvR : q < R := by omega
  have e1 : (v : Int) / 2 = (q : Int) := by omega
  have e2 : (v : Int).tdiv 2 = (q : Int) := by rw [Int.tdiv_eq_ediv_of_nonneg (by omega)]; omega
  have e3 : IntKind.i64.wrap (q : Int) = (q : Int) := by rw [IntKind.wrap_i64]; omega
  have e4 : IntKind.i64.wrap (d1 + y) = d1 + y := by rw [IntKind.wrap_i64]; omega
  have e5 : IntKind.i64.wrap (d2 + 1) = d2 + 1 := by rw [IntKind.wrap_i64]; omega
  have e6 : (0 : Int) ≤ (q : Int) := by omega
  have e7 : (q : Int) < (R : Int) := by omega
  have hz10 : 0 ≤ d1 + y := by omega
  have hz20 : 0 ≤ d2 + 1 := by omega
  clear hp hr hbe hSw hcs hit hd1 hd2 hs hA hLb hkb hcl hMR hq
  have hm1 := meth_take; have hm3 := nila_take
  conv => arg 2; whnf
  simp only [FRO]
  go_wp2_with fail
  refine (take_any HP.out hl6).mono ?_
  rintro e w2 ⟨rfl, hp2, hf2⟩
  have HP2 := Lib.hid hp2
  have hcr2 := HR.out.fp hf2 (by omega) (by omega)
  have HB2 := Lib.hid (HB.out.trans (hf2.toBelow (B := S) (by omega) (by omega) (by have := HB.out.size; omega)))
  have HC2 := Lib.hid hcr2
  obtain ⟨q0, q1⟩ := hcr2.cell hvc
  rw [HD1.out] at q0
  rw [HD2.out] at q1
  have hS2 : S + 1 + 1 < w2.heap.size := hp2.plt
  have hgi2 : gi < w2.heap.size := hp2.glt
  have cell2 : ∀ (b i : Nat) (u : Value), b < S → w.cell? ⟨b, i, none⟩ = some u → w2.cell? ⟨b, i, none⟩ = some u := fun b i u hb hc => (HB2.out.cell (p := ⟨b, i, none⟩) hb).trans hc
  have n2 := cell2 g 2 _ (by omega) k2
  have n5 := cell2 g 5 _ (by omega) k5
  have nz := cell2 lb q _ (by omega) z0
  have nm := cell2 bb v _ (by omega) m0
  have iS0 : S < w2.heap.size := by omega
  have iS1 : S < w2.heap.size + 1 := by omega
  have iS2 : S < w2.heap.size + 1 + 1 := by omega
  have v0 : (0 : Int) ≤ (v : Int) := by omega
  have v1 : (v : Int) < (M : Int) := by omega
  have ig0 : g < w2.heap.size := by omega
  have ig1 : g < w2.heap.size + 1 := by omega
  have ig2 : g < w2.heap.size + 1 + 1 := by omega
  have il0 : lb < w2.heap.size := by omega
  have il1 : lb < w2.heap.size + 1 := by omega
  have il2 : lb < w2.heap.size + 1 + 1 := by omega
  have ib0 : bb < w2.heap.size := by omega
  have ib1 : bb < w2.heap.size + 1 := by omega
  have ib2 : bb < w2.heap.size + 1 + 1 := by omega
  clear hp2 hf2 hcr2 hm1 hm3 cell2 k2 k5 z0 m0
  go_wp2
  go_quiet (fail)
  obtain ⟨nA, rfl⟩ : ∃ n, n = nq := ⟨_, rfl⟩
  go_wp2
  refine wp_region_noPanic ?_
  go_region
  refine NoPanic.normal ?_
  go_wp2
  go_quiet (fail)
  obtain ⟨nB, rfl⟩ : ∃ n, n = nq := ⟨_, rfl⟩
  go_wp2
  clear e1 e2 e3 e4 e5 e6 e7 n2 n5 nz nm q0 q1
  have hk : ((((w2.alloc (.cells #[.int .i64 d1, .int .i64 d2, .int .i64 (v : Int)] 136)).drewN (nA + 1)).alloc (.cells #[.int .i64 (d1 + y), .int .i64 (d2 + 1)] 118)).drewN nB).heap[w2.heap.size + 1]? = some (.cells #[.int .i64 (d1 + y), .int .i64 (d2 + 1)] 118) := by
    have := heap_alloc_new ((w2.alloc (.cells #[.int .i64 d1, .int .i64 d2, .int .i64 (v : Int)] 136)).drewN (nA + 1)) (.cells #[.int .i64 (d1 + y), .int .i64 (d2 + 1)] 118)
    rw [show ((w2.alloc (.cells #[.int .i64 d1, .int .i64 d2, .int .i64 (v : Int)] 136)).drewN (nA + 1)).heap.size = w2.heap.size + 1 by simp] at this
    exact this
  have hst : ISt w S cl (d1 + y) (d2 + 1) L cs (restL ⟨d1, d2, (v : Int)⟩ r) (w2.heap.size + 1) 0 ((((w2.alloc (.cells #[.int .i64 d1, .int .i64 d2, .int .i64 (v : Int)] 136)).drewN (nA + 1)).alloc (.cells #[.int .i64 (d1 + y), .int .i64 (d2 + 1)] 118)).drewN nB) :=
    ⟨⟨gi, ci, (((HP2.out.alloc _).drewN _).alloc _).drewN _, by omega, CRow.alloc (w := (w2.alloc (.cells #[.int .i64 d1, .int .i64 d2, .int .i64 (v : Int)] 136)).drewN (nA + 1)) (HC2.out.alloc _) _⟩, hk, bDrewN ((bDrewN (HB2.out.alloc (by omega) _) _).alloc (by simp; omega) _) _⟩
  have HST := Lib.hid hst
  clear hst hk
  refine inner_loop' (w := w) (B := B) (g := g) (kb := kb) (M := M) (S := S) (cc := w2.heap.size + 1) (to := to) (A := Ab) (c := cb) (cl := cl) (z1 := d1 + y) (z2 := d2 + 1) (L := L) (cs0 := cs) (r0 := restL ⟨d1, d2, (v : Int)⟩ r) _ _ rfl ?_ HST.out HA.out hBS HLB.out hLl hM HKB.out HCL.out HC.out (fun y hy => HI.out y (mem_restL hy)) (by rw [restL_len]; exact hl6) HSW.out (by omega) hz10 hz20
  rintro a' w' ⟨ha, ⟨g3, c3, hp3, hg3, hr3⟩, hk3, hb3⟩
  obtain ⟨u, rfl⟩ : ∃ u, a' = FRI g kb M S (S + 1 + 1) (w2.heap.size + 1) (to : Int) Ab L.length cb (L.length : Int) u := ⟨_, ha⟩
  rw [List.take_length] at hp3 hr3
  obtain ⟨n1, n2, n3⟩ := relaxes_ok (M := M) (cl := cl) (c := (d1 + y, d2 + 1)) hz10 hz20 L (cs, restL ⟨d1, d2, (v : Int)⟩ r) HC.out (fun y hy => HI.out y (mem_restL hy)) HLB.out
  have HX := Lib.hid (show CSt w S M ln bef cl res k w' from ⟨⟨_, _, g3, c3, HSE.out, n1, n2, hp3, hr3⟩, hb3⟩)
  clear hp3 hr3 hk3 hb3 n1 n2 n3 ha
  exact hK _ _ ⟨rfl, HX.out⟩
end Go.Proofs.YtcpanfpijljeaaaGreat

namespace Go.Proofs.YtcpanfpijljeaaaGreat
set_option linter.unusedVariables false
set_option linter.unusedSimpArgs false
open Go.RowKit

set_option maxRecDepth 100000 in
set_option maxHeartbeats 2000000 in
theorem out_nil {w wr : World} {g kb M S to gi ci : Nat} {res : List C2} (u : Nat → Value) (K : Act → World → Prop) (Q : Exit → Act → World → Prop)
    (hQ : ∀ a' w', a'.defers = [] ∧ a'.tmps.getD 6 undef = .slice (some ⟨S, 0, none⟩) M M → CRow w' S res → Below S w w' → Q .ret a' w')
    (hp : Pile wr (S + 1) (S + 1 + 1) vless [] gi ci) (hr : CRow wr S res) (hbe : Below S w wr) (hSw : S = w.heap.size) :
    Code.wp Tryz.prog (((Tryz.f57.body.map loopsIn).getD []).getD 1 .skip) (Exit.then K Q) (FRO g kb M S (S + 1 + 1) (to : Int) u) wr := by
  have HP := Lib.hid hp; have HR := Lib.hid hr; have HB := Lib.hid hbe
  have HS := Lib.hid (show S ≤ wr.heap.size by have := hbe.size; omega)
  clear hp hr hbe hSw
  have hm1 := meth_take; have hm3 := nila_take
  conv => arg 2; whnf
  simp only [FRO]
  go_wp2_with fail
  refine (take_nil HP.out).mono ?_
  rintro e w2 ⟨rfl, hb2⟩
  have HB2 := Lib.hid hb2
  clear hb2
  go_wp2
  refine hQ _ _ ⟨rfl, rfl⟩ ?_ ?_
  · exact (HR.out.below HB2.out HR.out.lt).alloc _
  · exact (HB.out.trans (HB2.out.mono HS.out)).alloc (Nat.le_trans HS.out HB2.out.size) _

set_option maxRecDepth 100000 in
set_option maxHeartbeats 2000000 in
theorem out_skip {w wr : World} {g kb M S to gi ci v k : Nat} {xl xm d1 d2 : Int} {r : List V3} {ln : Int → Int} {bef : Nat → List Int} {cl : List Bool} {cs res : List C2} (u : Nat → Value) (K : Act → World → Prop) (Q : Exit → Act → World → Prop)
    (hK : ∀ a' w', OutR w g kb M S (to : Int) ln bef cl res k a' w' → K a' w')
    (hp : Pile wr (S + 1) (S + 1 + 1) vless (⟨xl, xm, (v : Int)⟩ :: r) gi ci) (hr : CRow wr S cs) (hbe : Below S w wr) (hSw : S = w.heap.size)
    (hl6 : r.length ≤ 1000000) (hcs : cs.length = M) (hit : ∀ y ∈ (⟨xl, xm, (v : Int)⟩ : V3) :: r, OkV M y) (hvM : v < M) (hM : M ≤ 800)
    (hvc : v < cs.length) (hd1 : cs[v].1 = d1) (hd2 : cs[v].2 = d2) (hs : search ln bef cl k cs (restL ⟨xl, xm, (v : Int)⟩ r) = some res)
    (hne : (d1 = xl ∧ ¬ d2 = xm) ∨ ¬ d1 = xl) :
    Code.wp Tryz.prog (((Tryz.f57.body.map loopsIn).getD []).getD 1 .skip) (Exit.then K Q) (FRO g kb M S (S + 1 + 1) (to : Int) u) wr := by
  have hgi := hp.gl
  have hSz : S ≤ w.heap.size := by omega
  have HP := Lib.hid hp; have HR := Lib.hid hr; have HB := Lib.hid hbe; have HC := Lib.hid hcs; have HI := Lib.hid hit; have HSE := Lib.hid hs
  have HD1 := Lib.hid hd1; have HD2 := Lib.hid hd2; have HNE := Lib.hid hne
  clear hp hr hbe hSw hcs hit hd1 hd2 hs hne
  have hm1 := meth_take; have hm3 := nila_take
  conv => arg 2; whnf
  simp only [FRO]
  go_wp2_with fail
  refine (take_any HP.out hl6).mono ?_
  rintro e w2 ⟨rfl, hp2, hf2⟩
  have HP2 := Lib.hid hp2
  have hcr2 := HR.out.fp hf2 (by omega) (by omega)
  have HB2 := Lib.hid (HB.out.trans (hf2.toBelow (B := S) (by omega) (by omega) (by have := HB.out.size; omega)))
  have HC2 := Lib.hid hcr2
  obtain ⟨q0, q1⟩ := hcr2.cell hvc
  rw [HD1.out] at q0
  rw [HD2.out] at q1
  have hS2 : S + 1 + 1 < w2.heap.size := hp2.plt
  have iS0 : S < w2.heap.size := by omega
  have iS1 : S < w2.heap.size + 1 := by omega
  have v0 : (0 : Int) ≤ (v : Int) := by omega
  have v1 : (v : Int) < (M : Int) := by omega
  clear hp2 hf2 hcr2 hm1 hm3
  rcases HNE.out with ⟨h1, h2⟩ | h1
  · subst h1
    have h3 : (xm == d2) = false := by simp; exact fun e => h2 e.symm
    have h4 : (xm != d2) = true := by simp; exact fun e => h2 e.symm
    have h5 : ¬ xm = d2 := fun e => h2 e.symm
    clear h2
    go_wp2
    go_quiet (fail)
    obtain ⟨nA, rfl⟩ : ∃ n, n = nq := ⟨_, rfl⟩
    go_wp2
    exact ⟨rfl, ⟨⟨cs, _, gi, ci, HSE.out, HC.out, fun y hy => HI.out y (mem_restL hy), (HP2.out.alloc _).drewN _, HC2.out.alloc _⟩, bDrewN (HB2.out.alloc (by omega) _) _⟩⟩
  · have h3 : (xl == d1) = false := by simp; exact fun e => h1 e.symm
    have h4 : (xl != d1) = true := by simp; exact fun e => h1 e.symm
    have h5 : ¬ xl = d1 := fun e => h1 e.symm
    clear h1
    go_wp2
    go_quiet (fail)
    obtain ⟨nA, rfl⟩ : ∃ n, n = nq := ⟨_, rfl⟩
    go_wp2
    exact ⟨rfl, ⟨⟨cs, _, gi, ci, HSE.out, HC.out, fun y hy => HI.out y (mem_restL hy), (HP2.out.alloc _).drewN _, HC2.out.alloc _⟩, bDrewN (HB2.out.alloc (by omega) _) _⟩⟩
end Go.Proofs.YtcpanfpijljeaaaGreat
/- Contract: costs: for each move, what it costs to get from it to a move. -/
namespace Go.Proofs.YtcpanfpijljeaaaGreat
open Go.RowKit

set_option maxRecDepth 100000 in
set_option maxHeartbeats 2000000 in
theorem outer_loop {w W : World} {B g kb M S to : Nat} {p : Pl} {cl : List Bool} {res : List C2} (a : Act) (Q : Exit → Act → World → Prop)
    (ha : a = FRO g kb M S (S + 1 + 1) (to : Int) (fun i => a.tmps.getD i undef))
    (hQ : ∀ a' w', a'.defers = [] ∧ a'.tmps.getD 6 undef = .slice (some ⟨S, 0, none⟩) M M → CRow w' S res → Below S w w' → Q .ret a' w')
    (n : Nat) (hst : CSt w S M (lenAt p) (befL p M) cl res n W) (h : Nw w B g p) (hM : 2 * p.rails.length = M) (hBS : B ≤ S) (hkb : BRow w kb cl) (hcl : cl.length = M) (hSw : S = w.heap.size) :
    (Code.loop (((Tryz.f57.body.map loopsIn).getD []).getD 1 .skip)).wp Tryz.prog Q a W := by
  have hsz := h.sizes
  have hgB := h.gB
  obtain ⟨A1, c1, A2, c2, lb, sb, nb, bb, hN, x1, x2, x3, x4, x5, x6⟩ := h.net
  obtain ⟨_, _, k2, _, k4, k5⟩ := hN.cell
  have hV := h.v
  rw [hM] at k4 k5 x6
  refine wp_loop_ghost (fun n a w' => OutR w g kb M S (to : Int) (lenAt p) (befL p M) cl res n a w') n ⟨ha, hst⟩ ?_
  rintro k a wr ⟨ha, ⟨cs, it, gi, ci, hse, hcs, hit, hpi, hrw⟩, hbe⟩
  obtain ⟨u, rfl⟩ : ∃ u, a = FRO g kb M S (S + 1 + 1) (to : Int) u := ⟨_, ha⟩
  cases k with
  | zero => exact absurd hse (by simp [search])
  | succ k =>
  have hK : ∀ a' w', OutR w g kb M S (to : Int) (lenAt p) (befL p M) cl res k a' w' → ∃ n', n' < k + 1 ∧ OutR w g kb M S (to : Int) (lenAt p) (befL p M) cl res n' a' w' := fun a' w' h => ⟨k, by omega, h⟩
  cases it with
  | nil =>
    obtain rfl : cs = res := Option.some.inj hse
    exact out_nil u _ Q hQ hpi hrw hbe hSw
  | cons x r =>
    have hl6 : r.length ≤ 1000000 := by
      rw [search] at hse
      split at hse
      · cases hse
      · omega
    obtain ⟨xl, xm, xv⟩ := x
    obtain ⟨⟨v, hv, hvM⟩, hx0, hx1⟩ := hit ⟨xl, xm, xv⟩ (by simp)
    simp only at hv hx0 hx1
    subst hv
    have hvc : v < cs.length := by omega
    have hca := costAt_at hvc
    rw [search, if_neg (by omega)] at hse
    by_cases heq : (xl, xm) = costAt cs (v : Int)
    · rw [if_pos heq] at hse
      rw [hca] at heq
      have hd1 : cs[v].1 = xl := by rw [← heq]
      have hd2 : cs[v].2 = xm := by rw [← heq]
      have hvR : v / 2 < p.rails.length := by omega
      have nz := x3.cell (i := v / 2) (by rw [lens_len]; exact hvR)
      rw [lens_get hvR] at nz
      have hb1 := lenAt_bd hV ((v / 2 : Nat) : Int)
      obtain ⟨Ab, cb, m0, m1, m2, m3⟩ := x6.2 v hvM
      have hLl : (befL p M v).length ≤ 1600 := by have := befL_len p v M; omega
      simp only [Int.toNat_natCast] at hse
      rw [show ((v : Int) / 2) = ((v / 2 : Nat) : Int) by omega] at hse
      split at hse
      · cases hse
      · exact out_step u _ Q hK hpi hrw hbe hSw hl6 hcs hit hvM (by omega) hM hvc hd1 hd2 hx0 hx1 hBS hgB x1 x6.1 k2 k5 rfl nz hb1.1 m0 m1 m2 m3 befL_bd hLl hkb hcl (by omega) (by omega) hse
    · rw [if_neg heq] at hse
      rw [hca] at heq
      refine out_skip u _ Q hK hpi hrw hbe hSw hl6 hcs hit hvM (by omega) hvc rfl rfl hse ?_
      by_cases h1 : cs[v].1 = xl
      · exact .inl ⟨h1, fun h2 => heq (by rw [← h1, ← h2])⟩
      · exact .inr h1

set_option maxRecDepth 100000 in
set_option maxHeartbeats 8000000 in
theorem costs_any (B g kb to n : Nat) (cl : List Bool) (res : List C2) (p : Pl) (w : World) (h : Nw w B g p) (hB : B ≤ w.heap.size) (hto : to < 2 * p.rails.length) (hcl : cl.length = 2 * p.rails.length) (hk : BRow w kb cl)
    (hs : costsL (lenAt p) (befL p (2 * p.rails.length)) cl (2 * p.rails.length) to n = some res) :
    Calls Tryz.prog 57 #[.pointer (some ⟨g, 0, none⟩), .int .i64 (to : Int), .slice (some ⟨kb, 0, none⟩) (2 * p.rails.length) (2 * p.rails.length)] w (CostsPost (2 * p.rails.length) res w) := by
  have hsz := h.sizes
  have hgB := h.gB
  obtain ⟨A1, c1, A2, c2, lb, sb, nb, bb, hN, x1, x2, x3, x4, x5, x6⟩ := h.net
  obtain ⟨_, _, k2, _, k4, k5⟩ := hN.cell
  have hkl := hk.lt
  obtain ⟨R, hR⟩ : ∃ R, p.rails.length = R := ⟨_, rfl⟩
  obtain ⟨M, hM⟩ : ∃ M, 2 * R = M := ⟨_, rfl⟩
  rw [hR] at k2 k4 k5 hto hcl hsz x6 hs ⊢
  rw [hM] at k4 k5 hto hcl x6 hs ⊢
  have HX3 := Lib.hid x3; have HX6 := Lib.hid x6; have HV := Lib.hid h.v; have HK := Lib.hid hk
  have HCL := Lib.hid hcl
  have HRR := Lib.hid hR; have HMM := Lib.hid hM
  have hM800 : M ≤ 800 := by omega
  have hM2 : (M : Int) ≤ 800 := by omega
  have hcell : w.cell? ⟨kb, to, none⟩ = some (.bool (cl.getD to false)) := by
    rw [hk.cell (by omega)]; simp [List.getD, show to < cl.length by omega]
  obtain ⟨i0, hi, hz0, hz1, hz2⟩ := info_parts inf108
  have hmk : ∀ W : World, (Instr.makeSlice 115 (.int .i64 (M : Int)) (.int .i64 (M : Int))).run Tryz.prog W = .ok (.slice (some ⟨W.heap.size, 0, none⟩) M M) (W.alloc (.cells (madeCells #[.int .i64 0, .int .i64 0] (M * 2)) 118)) := fun W => by
    have := run_mk (P := Tryz.prog) 115 118 i0 _ 2 Tryz.underlying115 hi hz0 hz1 (M : Int) (M : Int) M M rfl rfl (by omega) (by rw [hz2]; omega) (by omega) W
    rw [this]; rfl
  have HS := Lib.hid hs
  have HNW := Lib.hid h
  clear h hN x3 x4 x5 x6 hk hs hcl hR hM
  have hgl : g < w.heap.size := by omega
  have hgl1 : g < w.heap.size + 1 := by omega
  have hkl1 : kb < w.heap.size + 1 := by omega
  have t0 : (0 : Int) ≤ (to : Int) := by omega
  have t1 : (to : Int) < (M : Int) := by omega
  have HC0 := Lib.hid (CRow.made w M)
  go_enter Tryz.func57, Tryz.ntmps57
  go_wp2
  go_loopw [23] (fun i wr => ∃ k : Nat, k ≤ M ∧ i = .int .i64 (k : Int) ∧ CRow wr w.heap.size (negRow M k) ∧ wr.heap.size = w.heap.size + 1 ∧ Below w.heap.size w wr) (fun i _ => M - (intOf i).toNat)
  case atStart => exact ⟨0, by omega, rfl, by rw [negRow_zero]; exact HC0.out, by simp, (Below.refl _ w).alloc (Nat.le_refl _) _⟩
  case round =>
    obtain ⟨k, hkM, rfl, hrow, hsz1, hbe⟩ := hrel
    have HROW := Lib.hid hrow; have HSZ := Lib.hid hsz1; have HBE := Lib.hid hbe
    clear hrow hsz1
    by_cases hlt : k < M
    · obtain ⟨y0, y1⟩ := HROW.out.cell (i := k) (by rw [negRow_len hkM]; exact hlt)
      have y2 := HROW.out.fro (k * 2)
      have j0 : (0 : Int) ≤ (k : Int) := by omega
      have j1 : (k : Int) < (M : Int) := by omega
      clear hbe
      go_wp2
      go_roundw
      case rel => exact ⟨k + 1, by omega, by go_num, by rw [← negRow_set hlt]; exact HROW.out.set1 (by rw [negRow_len hkM]; exact hlt) (-1), by have := HSZ.out; simpa [World.setCell] using this, HBE.out.setCell (p := ⟨w.heap.size, k * 2, none⟩) (Nat.le_refl _) _⟩
      case measure => simp [intOf]; omega
    · obtain rfl : M = k := by omega
      obtain ⟨hcw, _⟩ := bcell hbe
      have hsz1 := HSZ.out
      have hc1 : wr.cell? ⟨kb, to, none⟩ = some (.bool (cl.getD to false)) := (hcw kb to hkl).trans hcell
      have hrow := HROW.out
      rw [negRow_all] at hrow
      have HROW2 := Lib.hid hrow
      clear hbe hcell hrow hcw
      cases hb : cl.getD to false
      · have HS2 := Lib.hid (show search (lenAt p) (befL p M) cl n ((List.replicate M (-1, 0)).set to (0, 0)) [⟨0, 0, to⟩] = some res by
          have := HS.out; unfold costsL at this; rwa [hb, if_neg (by simp)] at this)
        rw [hb] at hc1
        obtain ⟨y0, y1⟩ := HROW2.out.cell (i := to) (by simp; omega)
        rw [List.getElem_replicate] at y0 y1
        have y2 := HROW2.out.fro (to * 2); have y3 := HROW2.out.fro (to * 2 + 1)
        have HR3 := Lib.hid (((HROW2.out.set (i := to) (by simp; omega) (0, 0)).alloc (.cells #[.int .i64 0, .int .i64 0, .int .i64 (to : Int)] 136)).alloc (.cells #[.slice (some ⟨w.heap.size + 1, 0, none⟩) 1 1, vless] 141))
        have HB3 := Lib.hid ((((HBE.out.setCell (p := ⟨w.heap.size, to * 2, none⟩) (Nat.le_refl _) (.int .i64 0)).setCell (p := ⟨w.heap.size, to * 2 + 1, none⟩) (Nat.le_refl _) (.int .i64 0)).alloc (by simp [World.setCell, hsz1]) (.cells #[.int .i64 0, .int .i64 0, .int .i64 (to : Int)] 136)).alloc (by simp [World.setCell, hsz1]; omega) (.cells #[.slice (some ⟨w.heap.size + 1, 0, none⟩) 1 1, vless] 141))
        have HP3 := Lib.hid (pile_new ((wr.setCell ⟨w.heap.size, to * 2, none⟩ (.int .i64 0)).setCell ⟨w.heap.size, to * 2 + 1, none⟩ (.int .i64 0)) (w.heap.size + 1) ⟨0, 0, to⟩ (by simp [World.setCell, hsz1]))
        clear hb
        go_wp2
        clear hsz1 hc1 y0 y1 y2 y3
        refine outer_loop (w := w) (B := B) (g := g) (kb := kb) (M := M) (S := w.heap.size) (to := to) (p := p) (cl := cl) (res := res) _ _ rfl ?_ n ⟨⟨_, _, _, _, HS2.out, by simp, by intro y hy; simp at hy; subst hy; exact ⟨⟨to, rfl, hto⟩, by simp, by simp⟩, HP3.out, HR3.out⟩, HB3.out⟩ HNW.out (by rw [HRR.out]; exact HMM.out) hB HK.out HCL.out rfl
        rintro a' w' ⟨h1, h2⟩ h3 h4
        exact bodyPost_ret (v := .slice (some ⟨w.heap.size, 0, none⟩) M M) (by simp only [Array.getD_eq_getD_getElem?] at h2; simp [results, Tryz.results57, go_sem, h2]) h1 ⟨⟨w.heap.size, rfl, h3, Nat.le_refl _⟩, h4⟩
      · have HQ := Lib.hid (show List.replicate M (-1, 0) = res by
          have := HS.out; unfold costsL at this; rw [hb, if_pos rfl] at this; exact Option.some.inj this)
        rw [hb] at hc1
        clear hb
        go_wp2
        go_ret
        exact ⟨⟨w.heap.size, rfl, by rw [← HQ.out]; exact HROW2.out, Nat.le_refl _⟩, HBE.out⟩
end Go.Proofs.YtcpanfpijljeaaaGreat

namespace Go.Proofs.YtcpanfpijljeaaaGreat
set_option linter.unusedVariables false
set_option linter.unusedSimpArgs false
open Go.RowKit

theorem inf4 : (Tryz.prog.info? 4).map (fun i => (i.zero, i.size, i.bytes)) = some (some (.bool false), 1, 1) := by kernel_rfl
theorem inf3 : (Tryz.prog.info? 3).map (fun i => (i.zero, i.size, i.bytes)) = some (some (.int .i64 0), 1, 8) := by kernel_rfl
theorem BRow.made (w : World) (m : Nat) : BRow (w.alloc (.cells (madeCells #[.bool false] m) 4)) w.heap.size (List.replicate m false) := by
  unfold BRow
  rw [heap_alloc_new]
  congr 2
  apply Array.ext
  · simp [madeCells]
  · intro i h1 h2
    simp [madeCells, Nat.mod_one]
theorem BRow.below {w w' : World} {b B : Nat} {l : List Bool} (h : BRow w b l) (hb : Below B w w') (hB : b < B) : BRow w' b l := (hb.block b hB).trans h
theorem relax_len1 (cl : List Bool) (c : C2) (s : List C2 × List V3) (b : Int) : (relax cl c s b).1.length = s.1.length := by
  unfold relax; split <;> simp
theorem relaxes_len1 (cl : List Bool) (c : C2) : ∀ (L : List Int) (s : List C2 × List V3), (L.foldl (relax cl c) s).1.length = s.1.length := by
  intro L
  induction L with
  | nil => intro s; rfl
  | cons b L ih => intro s; rw [List.foldl_cons, ih, relax_len1]
theorem search_len {ln : Int → Int} {bef : Nat → List Int} {cl : List Bool} {res : List C2} : ∀ (n : Nat) (cs : List C2) (it : List V3), search ln bef cl n cs it = some res → res.length = cs.length := by
  intro n
  induction n with
  | zero => intro cs it h; simp [search] at h
  | succ n ih =>
    intro cs it h
    cases it with
    | nil => obtain rfl : cs = res := Option.some.inj h; rfl
    | cons x r =>
      rw [search] at h
      split at h
      · cases h
      · split at h
        · split at h
          · cases h
          · rw [ih _ _ h, relaxes_len1]
        · exact ih _ _ h
theorem costsL_len {ln : Int → Int} {bef : Nat → List Int} {cl : List Bool} {res : List C2} {M t n : Nat} (h : costsL ln bef cl M t n = some res) : res.length = M := by
  unfold costsL at h
  split at h
  · rw [← Option.some.inj h]; simp
  · rw [search_len _ _ _ h]; simp

theorem costs_M (B g kb to n : Nat) (cl : List Bool) (res : List C2) (p : Pl) (w : World) (M : Nat) (hM : 2 * p.rails.length = M) (h : Nw w B g p) (hB : B ≤ w.heap.size) (hto : to < M) (hcl : cl.length = M) (hk : BRow w kb cl)
    (hs : costsL (lenAt p) (befL p M) cl M to n = some res) :
    Calls Tryz.prog 57 #[.pointer (some ⟨g, 0, none⟩), .int .i64 (to : Int), .slice (some ⟨kb, 0, none⟩) M M] w (CostsPost M res w) := by
  subst hM
  exact costs_any B g kb to n cl res p w h hB hto hcl hk hs
def fillRow (l : List C2) (M k : Nat) : List Int := (l.take k).map (·.1) ++ List.replicate (M - k) 0
theorem fillRow_set {l : List C2} {M k : Nat} (hl : l.length = M) (h : k < M) : (fillRow l M k).set k (l[k]'(by omega)).1 = fillRow l M (k + 1) := by
  unfold fillRow
  rw [List.set_append_right _ _ (by simp; omega)]
  rw [List.take_succ_eq_append_getElem (by omega), List.map_append, List.append_assoc]
  congr 1
  simp only [List.length_map, List.length_take]
  rw [show k - min k l.length = 0 by omega, show M - k = (M - (k + 1)) + 1 by omega, List.replicate_succ]
  simp
theorem fillRow_len {l : List C2} {M k : Nat} (hl : l.length = M) (h : k ≤ M) : (fillRow l M k).length = M := by simp [fillRow]; omega
theorem fillRow_all {l : List C2} {M : Nat} (hl : l.length = M) : fillRow l M M = l.map (·.1) := by simp [fillRow, ← hl]

def DistPost (p : Pl) (m : E) (res : List C2) (w : World) (e : Ending) (w' : World) : Prop :=
  ((Vld p ∧ railIn p m.rail = true ∧ ∃ rb, e = .returned (.tuple #[.slice (some ⟨rb, 0, none⟩) (2 * p.rails.length) (2 * p.rails.length), .int .i64 0]) ∧ IRow w' rb (res.map (·.1)) ∧ w.heap.size ≤ rb) ∨ ((¬ Vld p ∨ railIn p m.rail = false) ∧ e = .returned (.tuple #[.slice none 0 0, .int .i64 2]))) ∧ Below w.heap.size w w'
set_option maxRecDepth 100000 in
set_option maxHeartbeats 4000000 in
theorem Distances_any (A0 A20 : Option Addr) (c0 c20 n : Nat) (res : List C2) (p : Pl) (m : E) (w : World) (hP : PlAt w w.heap.size A0 c0 A20 c20 p)
    (hs : Vld p → railIn p m.rail = true → costsL (lenAt p) (befL p (2 * p.rails.length)) (List.replicate (2 * p.rails.length) false) (2 * p.rails.length) (keyE m) n = some res) :
    Calls Tryz.prog 19 #[.agg #[.slice A0 p.nodes.length c0, .slice A20 p.rails.length c20], .agg #[.int .i64 m.rail, .bool m.last]] w (DistPost p m res w) := by
  have HP := Lib.hid ((hP.box (.cells #[.slice A0 p.nodes.length c0, .slice A20 p.rails.length c20] 25)).box (.cells #[.int .i64 m.rail, .bool m.last] 27)); clear hP
  have HS := Lib.hid hs; clear hs
  go_enter Tryz.func19, Tryz.ntmps19
  go_wp2_with fail
  refine (survey_any A0 A20 c0 c20 p _ HP.out).mono ?_
  rintro e w1 ⟨hb, ⟨hv, rfl⟩ | ⟨hv, g, rfl, hg, hN⟩⟩
  · have HV := Lib.hid hv; have HB := Lib.hid hb; clear hv hb
    go_wp2
    go_ret2
    exact ⟨.inr ⟨.inl HV.out, rfl⟩, (((Below.refl _ _).alloc (Nat.le_refl _) _).alloc (by simp) _).trans (HB.out.mono (by simp; omega))⟩
  · have HV := Lib.hid hv; have HB := Lib.hid hb; have HN := Lib.hid hN
    obtain ⟨hc2, hf2⟩ := bcell hb
    have hz1 := hb.size
    simp at hz1
    clear hv hb hN
    go_wp2_with fail
    refine (hasRail_any _ g p m.rail _ HN.out).mono ?_
    rintro e w2 ⟨rfl, rfl⟩
    cases hr : railIn p m.rail
    · have HR := Lib.hid hr; clear hr
      go_wp2
      go_ret2
      exact ⟨.inr ⟨.inr HR.out, rfl⟩, (((Below.refl _ _).alloc (Nat.le_refl _) _).alloc (by simp) _).trans (HB.out.mono (by simp; omega))⟩
    · have HR := Lib.hid hr
      have HSS := Lib.hid (HS.out HV.out hr)
      have hsz := HN.out.sizes
      have hr2 := of_decide_eq_true hr
      have hr0 := hr2.1
      have hr1 : m.rail ≤ 1000000 := by omega
      obtain ⟨kk, kl⟩ := key_lt hr
      have HK := Lib.hid kk
      clear hr hr2 kk
      obtain ⟨A, c, A2, c2, lb, sb, nb, bb, hN, h1, h2, h3, h4, h5, h6⟩ := HN.out.net
      obtain ⟨_, _, _, _, c4, _⟩ := hN.cell
      have hgB := HN.out.gB
      obtain ⟨M, hM⟩ : ∃ M, 2 * p.rails.length = M := ⟨_, rfl⟩
      rw [hM] at c4 kl
      have HMM := Lib.hid hM
      have hM8 : M ≤ 800 := by omega
      clear hM
      have y0 := hc2 (w.heap.size + 1) 0 (by simp)
      have y1 := hc2 (w.heap.size + 1) 1 (by simp)
      rw [show ((w.alloc (.cells #[.slice A0 p.nodes.length c0, .slice A20 p.rails.length c20] 25)).alloc (.cells #[.int .i64 m.rail, .bool m.last] 27)).cell? ⟨w.heap.size + 1, 0, none⟩ = some (.int .i64 m.rail) by simp] at y0
      rw [show ((w.alloc (.cells #[.slice A0 p.nodes.length c0, .slice A20 p.rails.length c20] 25)).alloc (.cells #[.int .i64 m.rail, .bool m.last] 27)).cell? ⟨w.heap.size + 1, 1, none⟩ = some (.bool m.last) by simp] at y1
      obtain ⟨i0, hi, hz0, hz1', hz2⟩ := info_parts inf3
      have hmk : ∀ W : World, (Instr.makeSlice 50 (.int .i64 (M : Int)) (.int .i64 (M : Int))).run Tryz.prog W = .ok (.slice (some ⟨W.heap.size, 0, none⟩) M M) (W.alloc (.cells (madeCells #[.int .i64 0] M) 3)) := fun W => by
        have := run_mk (P := Tryz.prog) 50 3 i0 _ 1 Tryz.underlying50 hi hz0 hz1' (M : Int) (M : Int) M M rfl rfl (by omega) (by rw [hz2]; omega) (by omega) W
        rw [this, Nat.mul_one]; rfl
      obtain ⟨i1, hi1, hy0, hy1, hy2⟩ := info_parts inf4
      have hmb : ∀ W : World, (Instr.makeSlice 57 (.int .i64 (M : Int)) (.int .i64 (M : Int))).run Tryz.prog W = .ok (.slice (some ⟨W.heap.size, 0, none⟩) M M) (W.alloc (.cells (madeCells #[.bool false] M) 4)) := fun W => by
        have := run_mk (P := Tryz.prog) 57 4 i1 _ 1 Tryz.underlying57 hi1 hy0 hy1 (M : Int) (M : Int) M M rfl rfl (by omega) (by rw [hy2]; omega) (by omega) W
        rw [this, Nat.mul_one]; rfl
      clear hN h3 h4 h5 h6 hc2 hf2
      go_wp2
      have HR0 := Lib.hid (IRow.made w1 M)
      obtain ⟨W0, hW0⟩ : ∃ W0, w1.alloc (.cells (madeCells #[.int .i64 0] M) 3) = W0 := ⟨_, rfl⟩
      have hzW : W0.heap.size = w1.heap.size + 1 := by rw [← hW0]; simp
      have HBW := Lib.hid (show Below w1.heap.size w1 W0 by rw [← hW0]; exact (Below.refl _ _).alloc (Nat.le_refl _) _)
      rw [hW0] at HR0 ⊢
      have s0 := (HBW.out.cell (p := ⟨g, 4, none⟩) (by simp; omega)).trans c4
      have s1 := (HBW.out.cell (p := ⟨w.heap.size + 1, 0, none⟩) (by simp; omega)).trans y0
      have s2 := (HBW.out.cell (p := ⟨w.heap.size + 1, 1, none⟩) (by simp; omega)).trans y1
      have HZW := Lib.hid hzW
      clear hW0 hmk c4 y0 y1 hzW
      have hzw : w1.heap.size ≤ W0.heap.size := by have := HZW.out; omega
      have hrep : (List.replicate M false).length = M := by simp
      have HS2 := Lib.hid (show costsL (lenAt p) (befL p M) (List.replicate M false) M (keyE m) n = some res by have := HSS.out; rwa [HMM.out] at this)
      go_region_held3 (fun w' => w'.cell? ⟨g, 4, none⟩ = some (.slice (some ⟨nb, 0, none⟩) M M) ∧ w'.cell? ⟨w.heap.size + 1, 0, none⟩ = some (.int .i64 m.rail) ∧ w'.cell? ⟨w.heap.size + 1, 1, none⟩ = some (.bool m.last))
        (first
          | (go_keep; done)
          | exact ⟨(hx.cell (p := ⟨g, 4, none⟩) (by have := HZW.out; simp; omega)).trans s0, (hx.cell (p := ⟨w.heap.size + 1, 0, none⟩) (by have := HZW.out; simp; omega)).trans s1, (hx.cell (p := ⟨w.heap.size + 1, 1, none⟩) (by have := HZW.out; simp; omega)).trans s2⟩
          | exact ⟨(hy.cell (p := ⟨g, 4, none⟩) (by have := HZW.out; simp; omega)).trans s0, (hy.cell (p := ⟨w.heap.size + 1, 0, none⟩) (by have := HZW.out; simp; omega)).trans s1, (hy.cell (p := ⟨w.heap.size + 1, 1, none⟩) (by have := HZW.out; simp; omega)).trans s2⟩)
        ((first
          | (go_at_call 51; refine (number_any m _ hr0 hr1).mono ?_; rintro e w2 ⟨rfl, hb2⟩; rw [← HK.out]; have hxs := hb2.size; have hx : Below W0.heap.size W0 w2 := by first | exact (Below.refl _ _).drew.trans hb2 | exact (((Below.refl W0.heap.size W0).alloc (Nat.le_refl _) _).drew.trans (hb2.mono (by simp))))
          | (go_at_call 57; have hxz := hx.size; have q1 : w1.heap.size ≤ w2.heap.size := (by omega); have q2 := HN.out.below ((HBW.out.trans (hx.mono hzw)).alloc q1 (.cells (madeCells #[.bool false] M) 4)); have q3 := BRow.made w2 M; have q4 : w1.heap.size ≤ (w2.alloc (.cells (madeCells #[.bool false] M) 4)).heap.size := (by simp; omega); (with_reducible refine (costs_M w1.heap.size g w2.heap.size (keyE m) n (List.replicate M false) res p _ M HMM.out q2 q4 kl hrep q3 HS2.out).mono ?_); rintro e w3 ⟨⟨cb, rfl, hrow, hcb⟩, hb3⟩; have hcb' : W0.heap.size ≤ cb := (by simp at hcb; omega); have hy : Below W0.heap.size W0 w3 := (hx.alloc hxz _).trans (hb3.mono (by simp; omega)); clear q2 q3)
          | (go_at_call 57; have hxz := hx.size; have q1 : w1.heap.size ≤ w2.heap.size := (by omega); have q2 := HN.out.below (HBW.out.trans (hx.mono hzw)); have q3 := (BRow.made W0 M).below (B := W0.heap.size + 1) ((Below.refl _ _).drew.trans (hb2.mono (by simp))) (by omega); (with_reducible refine (costs_M w1.heap.size g W0.heap.size (keyE m) n (List.replicate M false) res p _ M HMM.out q2 q1 kl hrep q3 HS2.out).mono ?_); rintro e w3 ⟨⟨cb, rfl, hrow, hcb⟩, hb3⟩; have hcb' : W0.heap.size ≤ cb := (by omega); have hy : Below W0.heap.size W0 w3 := hx.trans (hb3.mono hxz); clear q2 q3)))
      all_goals
        have HY := Lib.hid hy; have HROW := Lib.hid hrow
        have hzy := hy.size
        have hlen := costsL_len HS2.out
        have HLEN := Lib.hid hlen
        clear hy hrow hx hb2 hb3 hmb s0 s1 s2 hlen
        have HR3 := Lib.hid (HR0.out.below HY.out (by have := HZW.out; omega))
        have HCB := Lib.hid (show w1.heap.size ≠ cb by have := HZW.out; omega)
        go_wp2
        go_loopw [42] (fun i wr => ∃ k : Nat, k ≤ M ∧ i = .int .i64 (k : Int) ∧ IRow wr w1.heap.size (fillRow res M k) ∧ CRow wr cb res ∧ Below w1.heap.size w1 wr) (fun i _ => M - (intOf i).toNat)
        case atStart => exact ⟨0, by omega, rfl, by have := HR3.out; simpa [fillRow] using this, HROW.out, HBW.out.trans (HY.out.mono hzw)⟩
        case round =>
          obtain ⟨k, hk, rfl, hr4, hc4, hb4⟩ := hrel
          have HR4 := Lib.hid hr4; have HC4 := Lib.hid hc4; have HB4 := Lib.hid hb4
          have hl1 := hr4.lt
          have hl2 := hc4.lt
          have hcne := HCB.out
          clear hr4 hc4 hb4
          by_cases hlt : k < M
          · obtain ⟨f0, f1⟩ := HC4.out.cell (i := k) (by have := HLEN.out; omega)
            have f2 := HR4.out.cell (i := k) (by rw [fillRow_len HLEN.out hk]; exact hlt)
            have f3 := HR4.out.frozen k
            obtain ⟨a1, ha1⟩ : ∃ a, (res[k]'(by have := HLEN.out; omega)).1 = a := ⟨_, rfl⟩
            obtain ⟨a2, ha2⟩ : ∃ a, (res[k]'(by have := HLEN.out; omega)).2 = a := ⟨_, rfl⟩
            rw [ha1] at f0
            rw [ha2] at f1
            have HA1 := Lib.hid ha1
            have k0 : (0 : Int) ≤ (k : Int) := by omega
            have k1 : (k : Int) < (M : Int) := by omega
            have hl3 : w1.heap.size < wr.heap.size + 1 := by omega
            have hl4 : cb < wr.heap.size + 1 := by omega
            clear ha1 ha2
            go_wp2
            go_roundw
            case rel => exact ⟨k + 1, by omega, by go_num, by rw [← fillRow_set HLEN.out hlt, HA1.out]; exact (HR4.out.set k a1).alloc _, (CRow.of (w := wr) HC4.out (Below.heap_setCell _ _ _ _ (Ne.symm HCB.out))).alloc _, (HB4.out.setCell (p := ⟨w1.heap.size, k, none⟩) (Nat.le_refl _) _).alloc (by have := HB4.out.size; simpa [World.setCell] using this) _⟩
            case measure => simp [intOf]; omega
          · obtain rfl : M = k := by omega
            have HF := Lib.hid (show IRow wr w1.heap.size (res.map (·.1)) by have := HR4.out; rwa [fillRow_all HLEN.out] at this)
            go_wp2
            go_ret2
            exact ⟨.inl ⟨HV.out, HR.out, w1.heap.size, by rw [HMM.out]; rfl, HF.out, by omega⟩, ((((Below.refl _ _).alloc (Nat.le_refl _) _).alloc (by simp) _).trans (HB.out.mono (by simp; omega))).trans (HB4.out.mono (by omega))⟩
end Go.Proofs.YtcpanfpijljeaaaGreat
namespace Go.Proofs.YtcpanfpijljeaaaGreat
set_option linter.unusedVariables false
set_option linter.unusedSimpArgs false

def exP : Pl := ⟨[⟨⟨0, 0⟩, 1, [⟨0, false⟩], 0⟩, ⟨⟨1000, 0⟩, 4, [⟨0, true⟩, ⟨1, false⟩, ⟨2, false⟩], 0⟩, ⟨⟨2000, 0⟩, 1, [⟨1, true⟩], 0⟩, ⟨⟨2000, 500⟩, 1, [⟨2, true⟩], 0⟩],
  [⟨0, 1, [], 8000, 0⟩, ⟨1, 2, [], 8000, 0⟩, ⟨1, 3, [⟨1600, 0⟩], 8000, 0⟩]⟩
theorem ex_sizes : sizesB exP = true := by decide
theorem ex_nodes : exP.nodes.all nodeB = true := by decide
theorem ex_rails : railsB exP = true := by decide +kernel
theorem ex_lens : lensOf exP = [1000, 1000, 1240] := by decide +kernel
theorem ex_ends : okEnds exP := by
  refine ⟨fun i hi e he => ?_, ?_, rfl⟩
  · have hi' : i < 4 := hi
    rcases (show i = 0 ∨ i = 1 ∨ i = 2 ∨ i = 3 by omega) with rfl | rfl | rfl | rfl <;> simp [exP] at he <;> (try rcases he with rfl | rfl | rfl) <;> (try subst he) <;> exact ⟨by decide, by decide, by decide⟩
  · simp [flatE, exP]
theorem ex_valid : Vld exP := ⟨ex_sizes, ex_nodes, ex_rails, ex_ends⟩
theorem ex_leave : (List.range 6).map (leaveL exP) = [[2, 4], [], [], [1], [], [1]] := by decide +kernel
theorem ex_bef4 : befL exP 6 4 = [0] := by decide +kernel
theorem ex_bef0 : befL exP 6 0 = [] := by decide +kernel
theorem ex_len2 : lenAt exP 2 = 1240 := by simp [lenAt, ex_lens]
theorem ex_len0 : lenAt exP 0 = 1000 := by simp [lenAt, ex_lens]
theorem next_sorted {p : Pl} {x : Nat} {l : List Int} (h : leaveL p x = l) (hs : l.Pairwise fun a b => decide (a ≤ b) = true) : nextL p x = l := by
  unfold nextL; rw [h]; exact List.mergeSort_of_pairwise hs
theorem ex_next0 : nextL exP 0 = [2, 4] := next_sorted (by decide +kernel) (by decide)
theorem ex_next5 : nextL exP 5 = [1] := next_sorted (by decide +kernel) (by decide)
theorem ex_fol04 : folB exP 0 4 = true := by simp [folB, ex_next0]
theorem ex_fol51 : folB exP 5 1 = true := by simp [folB, ex_next5]
theorem ex_kind : (atN exP (flip 0)).kind = 4 := by decide +kernel
theorem ex_at : nodeAtZ exP (flip 0 : Nat) = 1 := by decide +kernel
theorem ex_set : setZ exP 0 4 = 2 := by decide +kernel
theorem ex_cov : covL exP [5, 1] 700 1500 = [⟨2, 0, 540⟩, ⟨0, 740, 1000⟩] := by
  simp [covL, covTo, covOne, wlen, lenAt, ex_lens, List.range_succ, Int.min_def, Int.max_def]
end Go.Proofs.YtcpanfpijljeaaaGreat
/- Contract: Example: the plan of the examples in memory. -/
namespace Go.Proofs.YtcpanfpijljeaaaGreat
open Go.RowKit

theorem Sl.blk {α : Type} {C : α → List Value → Prop} {w : World} {B b size : Nat} {arr : Array Value} {t : TypeId} {l : List α} (h : w.heap[b]? = some (.cells arr t)) (hb : b < B)
    (hc : ∀ i x, l[i]? = some x → ∃ cs, C x cs ∧ ∀ j u, cs[j]? = some u → arr[i * size + j]? = some u) : Sl w B size C (some ⟨b, 0, none⟩) l := fun _ =>
  ⟨b, 0, rfl, hb, fun i x hx => by
    obtain ⟨cs, h1, h2⟩ := hc i x hx
    exact ⟨cs, h1, fun j u hu => by rw [cell_of_row _ _ _ _ _ _ h, Nat.zero_add]; exact h2 j u hu⟩⟩
theorem allocs_get : ∀ (os : List Obj) (w : World) (j : Nat) (o : Obj), os[j]? = some o → (os.foldl World.alloc w).heap[w.heap.size + j]? = some o ∧ w.heap.size + os.length = (os.foldl World.alloc w).heap.size
  | [], w, j, o, h => by simp at h
  | p :: os, w, 0, o, h => by
    obtain rfl : p = o := by simpa using h
    have key : ∀ (os : List Obj) (w : World) (k : Nat), k < w.heap.size → (os.foldl World.alloc w).heap[k]? = w.heap[k]? ∧ (os.foldl World.alloc w).heap.size = w.heap.size + os.length := fun os => by
      induction os with
      | nil => intro w k hk; exact ⟨rfl, rfl⟩
      | cons q os ih =>
        intro w k hk
        obtain ⟨h1, h2⟩ := ih (w.alloc q) k (by simp; omega)
        exact ⟨h1.trans (Below.heap_alloc w q k hk), by rw [List.foldl_cons, h2]; simp; omega⟩
    obtain ⟨h1, h2⟩ := key os (w.alloc p) w.heap.size (by simp)
    exact ⟨h1.trans (heap_alloc_new w p), by rw [List.foldl_cons, h2]; simp; omega⟩
  | p :: os, w, j + 1, o, h => by
    obtain ⟨h1, h2⟩ := allocs_get os (w.alloc p) j o (by simpa using h)
    rw [show (w.alloc p).heap.size = w.heap.size + 1 by simp] at h1 h2
    exact ⟨by rw [show w.heap.size + (j + 1) = w.heap.size + 1 + j by omega]; exact h1, by rw [List.foldl_cons, ← h2]; simp; omega⟩

def exO (N : Nat) : List Obj := [.cells #[.slice (some ⟨N + 1 + 1 + 1 + 1 + 1, 0, none⟩) 4 4, .slice (some ⟨N + 1 + 1 + 1 + 1 + 1 + 1 + 1, 0, none⟩) 3 3] 25, .cells #[.int .i64 0, .bool false] 96,
  .cells #[.int .i64 0, .bool true, .int .i64 1, .bool false, .int .i64 2, .bool false] 96, .cells #[.int .i64 1, .bool true] 96, .cells #[.int .i64 2, .bool true] 96,
  .cells #[.int .i64 0, .int .i64 0, .int .i64 1, .slice (some ⟨N + 1, 0, none⟩) 1 1, .int .i64 0, .int .i64 1000, .int .i64 0, .int .i64 4, .slice (some ⟨N + 1 + 1, 0, none⟩) 3 3, .int .i64 0,
    .int .i64 2000, .int .i64 0, .int .i64 1, .slice (some ⟨N + 1 + 1 + 1, 0, none⟩) 1 1, .int .i64 0, .int .i64 2000, .int .i64 500, .int .i64 1, .slice (some ⟨N + 1 + 1 + 1 + 1, 0, none⟩) 1 1, .int .i64 0] 86,
  .cells #[.int .i64 1600, .int .i64 0] 82,
  .cells #[.int .i64 0, .int .i64 1, .slice none 0 0, .int .i64 8000, .int .i64 0, .int .i64 1, .int .i64 2, .slice none 0 0, .int .i64 8000, .int .i64 0, .int .i64 1, .int .i64 3, .slice (some ⟨N + 1 + 1 + 1 + 1 + 1 + 1, 0, none⟩) 1 1, .int .i64 8000, .int .i64 0] 89]
theorem exO_plan (w : World) : PlAt ((exO w.heap.size).foldl World.alloc w) ((exO w.heap.size).foldl World.alloc w).heap.size (some ⟨w.heap.size + 1 + 1 + 1 + 1 + 1, 0, none⟩) 4 (some ⟨w.heap.size + 1 + 1 + 1 + 1 + 1 + 1 + 1, 0, none⟩) 3 exP := by
  have g := fun j o h => allocs_get (exO w.heap.size) w j o h
  have hz : w.heap.size + 8 = ((exO w.heap.size).foldl World.alloc w).heap.size := (g 0 _ rfl).2
  have h1 := (g 1 _ rfl).1; have h2 := (g 2 _ rfl).1; have h3 := (g 3 _ rfl).1; have h4 := (g 4 _ rfl).1
  have h5 := (g 5 _ rfl).1; have h6 := (g 6 _ rfl).1; have h7 := (g 7 _ rfl).1
  generalize (exO w.heap.size).foldl World.alloc w = W at *
  have e1 : Sl W W.heap.size 2 CE (some ⟨w.heap.size + 1, 0, none⟩) [⟨0, false⟩] := Sl.blk h1 (by omega) fun i x hx => by
    rcases i with _ | i
    · obtain rfl : _ = x := by simpa using hx
      exact ⟨_, rfl, fun j u hu => by rcases j with _ | _ | j <;> simp_all⟩
    · simp at hx
  have e2 : Sl W W.heap.size 2 CE (some ⟨w.heap.size + 1 + 1, 0, none⟩) [⟨0, true⟩, ⟨1, false⟩, ⟨2, false⟩] := Sl.blk h2 (by omega) fun i x hx => by
    rcases i with _ | _ | _ | i
    · obtain rfl : _ = x := by simpa using hx
      exact ⟨_, rfl, fun j u hu => by rcases j with _ | _ | j <;> simp_all⟩
    · obtain rfl : _ = x := by simpa using hx
      exact ⟨_, rfl, fun j u hu => by rcases j with _ | _ | j <;> simp_all⟩
    · obtain rfl : _ = x := by simpa using hx
      exact ⟨_, rfl, fun j u hu => by rcases j with _ | _ | j <;> simp_all⟩
    · simp at hx
  have e3 : Sl W W.heap.size 2 CE (some ⟨w.heap.size + 1 + 1 + 1, 0, none⟩) [⟨1, true⟩] := Sl.blk h3 (by omega) fun i x hx => by
    rcases i with _ | i
    · obtain rfl : _ = x := by simpa using hx
      exact ⟨_, rfl, fun j u hu => by rcases j with _ | _ | j <;> simp_all⟩
    · simp at hx
  have e4 : Sl W W.heap.size 2 CE (some ⟨w.heap.size + 1 + 1 + 1 + 1, 0, none⟩) [⟨2, true⟩] := Sl.blk h4 (by omega) fun i x hx => by
    rcases i with _ | i
    · obtain rfl : _ = x := by simpa using hx
      exact ⟨_, rfl, fun j u hu => by rcases j with _ | _ | j <;> simp_all⟩
    · simp at hx
  have e6 : Sl W W.heap.size 2 CS (some ⟨w.heap.size + 1 + 1 + 1 + 1 + 1 + 1, 0, none⟩) [⟨1600, 0⟩] := Sl.blk h6 (by omega) fun i x hx => by
    rcases i with _ | i
    · obtain rfl : _ = x := by simpa using hx
      exact ⟨_, rfl, fun j u hu => by rcases j with _ | _ | j <;> simp_all⟩
    · simp at hx
  refine ⟨Sl.blk h5 (by omega) fun i x hx => ?_, by decide, by omega, Sl.blk h7 (by omega) fun i x hx => ?_, by decide, by omega⟩
  · rcases i with _ | _ | _ | _ | i
    · obtain rfl : _ = x := by simpa [exP] using hx
      exact ⟨_, ⟨_, 1, rfl, e1, by simp, by omega⟩, fun j u hu => by rcases j with _ | _ | _ | _ | _ | j <;> simp_all⟩
    · obtain rfl : _ = x := by simpa [exP] using hx
      exact ⟨_, ⟨_, 3, rfl, e2, by simp, by omega⟩, fun j u hu => by rcases j with _ | _ | _ | _ | _ | j <;> simp_all⟩
    · obtain rfl : _ = x := by simpa [exP] using hx
      exact ⟨_, ⟨_, 1, rfl, e3, by simp, by omega⟩, fun j u hu => by rcases j with _ | _ | _ | _ | _ | j <;> simp_all⟩
    · obtain rfl : _ = x := by simpa [exP] using hx
      exact ⟨_, ⟨_, 1, rfl, e4, by simp, by omega⟩, fun j u hu => by rcases j with _ | _ | _ | _ | _ | j <;> simp_all⟩
    · simp [exP] at hx
  · rcases i with _ | _ | _ | i
    · obtain rfl : _ = x := by simpa [exP] using hx
      exact ⟨_, ⟨none, 0, rfl, Sl.nil, by simp, by omega⟩, fun j u hu => by rcases j with _ | _ | _ | _ | _ | j <;> simp_all⟩
    · obtain rfl : _ = x := by simpa [exP] using hx
      exact ⟨_, ⟨none, 0, rfl, Sl.nil, by simp, by omega⟩, fun j u hu => by rcases j with _ | _ | _ | _ | _ | j <;> simp_all⟩
    · obtain rfl : _ = x := by simpa [exP] using hx
      exact ⟨_, ⟨_, 1, rfl, e6, by simp, by omega⟩, fun j u hu => by rcases j with _ | _ | _ | _ | _ | j <;> simp_all⟩
    · simp [exP] at hx

def ExPost (w : World) (e : Ending) (w' : World) : Prop :=
  (∃ (A A2 : Option Addr), e = .returned (.agg #[.slice A 4 4, .slice A2 3 3]) ∧ PlAt w' w'.heap.size A 4 A2 3 exP) ∧ Below w.heap.size w w'
theorem exO_below (w : World) : Below w.heap.size w ((exO w.heap.size).foldl World.alloc w) := by
  simp only [exO, List.foldl_cons, List.foldl_nil]
  exact ((((((((Below.refl _ w).alloc (Nat.le_refl _) _).alloc (by simp) _).alloc (by simp; omega) _).alloc (by simp; omega) _).alloc (by simp; omega) _).alloc (by simp; omega) _).alloc (by simp; omega) _).alloc (by simp; omega) _
set_option maxRecDepth 100000 in
set_option maxHeartbeats 4000000 in
theorem Example_any (w : World) : Calls Tryz.prog 46 #[] w (ExPost w) := by
  have HP := Lib.hid (exO_plan w); have HB := Lib.hid (exO_below w)
  go_enter Tryz.func46, Tryz.ntmps46
  go_wp2
  exact bodyPost_ret (v := .agg #[.slice (some ⟨w.heap.size + 1 + 1 + 1 + 1 + 1, 0, none⟩) 4 4, .slice (some ⟨w.heap.size + 1 + 1 + 1 + 1 + 1 + 1 + 1, 0, none⟩) 3 3]) (by simp [results, Tryz.results46, go_sem]) rfl ⟨⟨_, _, rfl, HP.out⟩, HB.out⟩
end Go.Proofs.YtcpanfpijljeaaaGreat
namespace Go.Proofs.YtcpanfpijljeaaaGreat
set_option linter.unusedVariables false
set_option linter.unusedSimpArgs false
open Go.RowKit

def PlainPost (v : Value) (w : World) (e : Ending) (w' : World) : Prop := e = .returned v ∧ Below w.heap.size w w'
theorem Length_ex (A A2 : Option Addr) (w : World) (h : PlAt w w.heap.size A 4 A2 3 exP) : Calls Tryz.prog 47 #[.agg #[.slice A 4 4, .slice A2 3 3], .int .i64 2] w (PlainPost (.tuple #[.int .i64 1240, .int .i64 0]) w) := by
  refine (Length_any A A2 4 3 exP 2 w h).mono ?_
  rintro e w' ⟨⟨_, _, rfl⟩ | ⟨h1 | h1, _⟩, hb⟩
  · exact ⟨by rw [ex_len2], hb⟩
  · exact absurd ex_valid h1
  · exact absurd h1 (by decide)
def NextExPost (w : World) (e : Ending) (w' : World) : Prop := (∃ A c, e = .returned (.tuple #[.slice A 2 c, .int .i64 0]) ∧ Sl w' w'.heap.size 2 CE A [⟨1, false⟩, ⟨2, false⟩]) ∧ Below w.heap.size w w'
theorem Next_ex (A A2 : Option Addr) (w : World) (h : PlAt w w.heap.size A 4 A2 3 exP) : Calls Tryz.prog 12 #[.agg #[.slice A 4 4, .slice A2 3 3], .agg #[.int .i64 0, .bool false]] w (NextExPost w) := by
  refine (Next_any A A2 4 3 exP ⟨0, false⟩ w h).mono ?_
  rintro e w' ⟨⟨_, _, v, rfl, ho⟩ | ⟨h1 | h1, _⟩, hb⟩
  · rw [show (nextL exP (keyE ⟨0, false⟩)).map moveE = [⟨1, false⟩, ⟨2, false⟩] by rw [show keyE ⟨0, false⟩ = 0 from rfl, ex_next0]; rfl] at ho
    obtain ⟨A3, c3, rfl, _, _, _⟩ := ho.form
    exact ⟨⟨A3, c3, rfl, (ho.sl fE_len rfl).keep (fun _ _ h => h) fun _ _ => rfl⟩, hb⟩
  · exact absurd ex_valid h1
  · exact absurd h1 (by decide)
theorem Between_ex (A A2 : Option Addr) (w : World) (h : PlAt w w.heap.size A 4 A2 3 exP) : Calls Tryz.prog 14 #[.agg #[.slice A 4 4, .slice A2 3 3], .agg #[.int .i64 0, .bool false], .agg #[.int .i64 2, .bool false]] w (PlainPost (.tuple #[.agg #[.int .i64 1, .int .i64 2], .int .i64 0]) w) := by
  refine (Between_any A A2 4 3 exP ⟨0, false⟩ ⟨2, false⟩ w h).mono ?_
  rintro e w' ⟨⟨h1 | h1 | h1, _⟩ | ⟨_, _, _, ⟨h1, _⟩ | ⟨_, _, rfl⟩⟩, hb⟩
  · exact absurd ex_valid h1
  · exact absurd h1 (by decide)
  · exact absurd h1 (by decide)
  · exact absurd ⟨ex_fol04, ex_kind⟩ h1
  · exact ⟨by rw [show keyE ⟨0, false⟩ = 0 from rfl, show keyE ⟨2, false⟩ = 4 from rfl, ex_at, ex_set], hb⟩
theorem ex_way : wayOk exP [⟨2, true⟩, ⟨0, true⟩] := by
  refine ⟨by decide, by decide, fun j hj => ?_⟩
  rcases (show j = 0 ∨ j = 1 by simp at hj; omega) with rfl | rfl
  · exact ⟨by decide, fun h => absurd h (by omega)⟩
  · exact ⟨by decide, fun _ => ex_fol51⟩
def CovExPost (w : World) (e : Ending) (w' : World) : Prop := (∃ A c, e = .returned (.tuple #[.slice A 2 c, .int .i64 0]) ∧ Sl w' w'.heap.size 3 CC A [⟨2, 0, 540⟩, ⟨0, 740, 1000⟩]) ∧ Below w.heap.size w w'
theorem Covers_ex (A A2 Aw : Option Addr) (w : World) (h : PlAt w w.heap.size A 4 A2 3 exP) (hA : Sl w w.heap.size 2 CE Aw [⟨2, true⟩, ⟨0, true⟩]) :
    Calls Tryz.prog 17 #[.agg #[.slice A 4 4, .slice A2 3 3], .slice Aw 2 2, .int .i64 1500, .int .i64 800] w (CovExPost w) := by
  refine (Covers_any A A2 Aw 4 3 2 exP [⟨2, true⟩, ⟨0, true⟩] 1500 800 w h hA (by decide)).mono ?_
  rintro e w' ⟨⟨_, v, rfl, ho⟩ | ⟨h1, _⟩, hb⟩
  · rw [show covL exP ([⟨2, true⟩, ⟨0, true⟩].map endNo) (1500 - 800) 1500 = [⟨2, 0, 540⟩, ⟨0, 740, 1000⟩] from ex_cov] at ho
    obtain ⟨A3, c3, rfl, _, _, _⟩ := ho.form
    exact ⟨⟨A3, c3, rfl, (ho.sl fC_len rfl).keep (fun _ _ h => h) fun _ _ => rfl⟩, hb⟩
  · refine absurd ⟨ex_valid, ex_way, by decide, by decide, ?_⟩ h1
    simp [wlen, endNo, lenAt, ex_lens]
def exRes : List C2 := [(1240, 1), (-1, 0), (-1, 0), (-1, 0), (0, 0), (-1, 0)]
theorem ex_costs : costsL (lenAt exP) (befL exP 6) (List.replicate 6 false) 6 4 5 = some exRes := by decide +kernel
def DistExPost (w : World) (e : Ending) (w' : World) : Prop := (∃ A, e = .returned (.tuple #[.slice A 6 6, .int .i64 0]) ∧ Sl w' w'.heap.size 1 CI A [1240, -1, -1, -1, 0, -1]) ∧ Below w.heap.size w w'
theorem Distances_ex (A A2 : Option Addr) (w : World) (h : PlAt w w.heap.size A 4 A2 3 exP) : Calls Tryz.prog 19 #[.agg #[.slice A 4 4, .slice A2 3 3], .agg #[.int .i64 2, .bool false]] w (DistExPost w) := by
  refine (Distances_any A A2 4 3 5 exRes exP ⟨2, false⟩ w h fun _ _ => ex_costs).mono ?_
  rintro e w' ⟨⟨_, _, rb, rfl, hr, hb'⟩ | ⟨h1 | h1, _⟩, hb⟩
  · exact ⟨⟨_, rfl, (show IRow w' rb [1240, -1, -1, -1, 0, -1] from hr).sl.more (fun _ _ h => h) hr.lt⟩, hb⟩
  · exact absurd ex_valid h1
  · exact absurd h1 (by decide)
theorem same_yes {α : Type} {l : List α} {w w' : World} {e : Ending} (h : SamePost l l w e w') : e = .returned (.bool true) ∧ Below w.heap.size w w' := by
  obtain ⟨⟨b, rfl, hb⟩, h2⟩ := h
  rw [hb.2 rfl]
  exact ⟨rfl, h2⟩

/-- the plan of the examples at block K, in a world that is later -/
structure Kst (w wr : World) (K : Nat) (A A2 : Option Addr) : Prop where
  k0 : wr.cell? ⟨K, 0, none⟩ = some (.slice A 4 4)
  k1 : wr.cell? ⟨K, 1, none⟩ = some (.slice A2 3 3)
  pl : PlAt wr wr.heap.size A 4 A2 3 exP
  be : Below w.heap.size w wr
  lt : K < wr.heap.size
theorem Kst.next {w wr w' : World} {K : Nat} {A A2 : Option Addr} (h : Kst w wr K A A2) (hb : Below wr.heap.size wr w') : Kst w w' K A A2 :=
  ⟨(hb.cell (p := ⟨K, 0, none⟩) h.lt).trans h.k0, (hb.cell (p := ⟨K, 1, none⟩) h.lt).trans h.k1, (h.pl.below hb).more hb.size, h.be.trans (hb.mono h.be.size), Nat.lt_of_lt_of_le h.lt hb.size⟩
theorem Sl.next {α : Type} {w w' : World} {size : Nat} {C : α → List Value → Prop} {A : Option Addr} {l : List α} (h : Sl w w.heap.size size C A l) (hb : Below w.heap.size w w') : Sl w' w'.heap.size size C A l := (h.below hb).more (fun _ _ h => h) hb.size
theorem bel_alloc (w : World) (o : Obj) : Below w.heap.size w (w.alloc o) := (Below.refl _ w).alloc (Nat.le_refl _) o
end Go.Proofs.YtcpanfpijljeaaaGreat
/- Contract: known: the rows of the examples come out. -/
namespace Go.Proofs.YtcpanfpijljeaaaGreat
open Go.RowKit

theorem new_blk (W : World) (cs : Array Value) (t : TypeId) : (W.alloc (.cells cs t)).heap[W.heap.size]? = some (.cells cs t) := heap_alloc_new W _
theorem new_moves (W : World) (a b : E) : Sl (W.alloc (.cells #[.int .i64 a.rail, .bool a.last, .int .i64 b.rail, .bool b.last] 27)) (W.alloc (.cells #[.int .i64 a.rail, .bool a.last, .int .i64 b.rail, .bool b.last] 27)).heap.size 2 CE (some ⟨W.heap.size, 0, none⟩) [a, b] :=
  Sl.blk (new_blk W _ _) (by simp) fun i x hx => by
    rcases i with _ | _ | i
    · obtain rfl : _ = x := by simpa using hx
      exact ⟨_, rfl, fun j u hu => by rcases j with _ | _ | j <;> simp_all⟩
    · obtain rfl : _ = x := by simpa using hx
      exact ⟨_, rfl, fun j u hu => by rcases j with _ | _ | j <;> simp_all⟩
    · simp at hx
theorem new_covers (W : World) (a b : C3) : Sl (W.alloc (.cells #[.int .i64 a.rail, .int .i64 a.frm, .int .i64 a.to, .int .i64 b.rail, .int .i64 b.frm, .int .i64 b.to] 66)) (W.alloc (.cells #[.int .i64 a.rail, .int .i64 a.frm, .int .i64 a.to, .int .i64 b.rail, .int .i64 b.frm, .int .i64 b.to] 66)).heap.size 3 CC (some ⟨W.heap.size, 0, none⟩) [a, b] :=
  Sl.blk (new_blk W _ _) (by simp) fun i x hx => by
    rcases i with _ | _ | i
    · obtain rfl : _ = x := by simpa using hx
      exact ⟨_, rfl, fun j u hu => by rcases j with _ | _ | _ | j <;> simp_all⟩
    · obtain rfl : _ = x := by simpa using hx
      exact ⟨_, rfl, fun j u hu => by rcases j with _ | _ | _ | j <;> simp_all⟩
    · simp at hx
theorem new_ints (W : World) (l : List Int) : Sl (W.alloc (.cells (l.map (Value.int .i64)).toArray 3)) (W.alloc (.cells (l.map (Value.int .i64)).toArray 3)).heap.size 1 CI (some ⟨W.heap.size, 0, none⟩) l :=
  (show IRow (W.alloc (.cells (l.map (Value.int .i64)).toArray 3)) W.heap.size l from heap_alloc_new W _).sl.more (fun _ _ h => h) (by simp)

set_option maxRecDepth 100000 in
set_option maxHeartbeats 4000000 in
theorem known_any (w : World) : Calls Tryz.prog 11 #[] w (PlainPost (.bool true) w) := by
  go_enter Tryz.func11, Tryz.ntmps11
  go_wp2_with fail
  refine (Example_any _).mono ?_
  rintro e w1 ⟨⟨A, A2, rfl, hP⟩, hb⟩
  have H1 := Lib.hid (show Kst w (w1.alloc (.cells #[.slice A 4 4, .slice A2 3 3] 25)) w1.heap.size A A2 from
    ⟨cell_of_row _ _ 0 _ _ _ (new_blk _ _ _), cell_of_row _ _ 1 _ _ _ (new_blk _ _ _), hP.box _, hb.alloc hb.size _, by simp⟩)
  clear hP hb
  go_wp2_with fail
  refine (Length_ex A A2 _ H1.out.pl).mono ?_
  rintro e w2 ⟨rfl, hb2⟩
  have H2 := Lib.hid (H1.out.next hb2)
  clear hb2 H1
  obtain ⟨k0, k1, _, _, _⟩ := H2.out
  go_wp2_with fail
  refine (Next_ex A A2 _ H2.out.pl).mono ?_
  rintro e w3 ⟨⟨A3, c3, rfl, hs3⟩, hb3⟩
  have H3 := Lib.hid (H2.out.next hb3)
  have S3 := Lib.hid hs3
  clear hb3 H2 hs3 k0 k1
  obtain ⟨k0, k1, _, _, _⟩ := H3.out
  go_wp2_with fail
  refine (Between_ex A A2 _ H3.out.pl).mono ?_
  rintro e w4 ⟨rfl, hb4⟩
  have H4 := Lib.hid ((H3.out.next hb4).next (bel_alloc w4 (.cells #[.int .i64 1, .int .i64 2] 38)))
  have S4 := Lib.hid ((S3.out.next hb4).next (bel_alloc w4 (.cells #[.int .i64 1, .int .i64 2] 38)))
  have C4 := Lib.hid (new_blk w4 #[.int .i64 1, .int .i64 2] 38)
  clear hb4 H3 S3 k0 k1
  obtain ⟨W4, hW4⟩ : ∃ W, w4.alloc (.cells #[.int .i64 1, .int .i64 2] 38) = W := ⟨_, rfl⟩
  have hz4 : w4.heap.size < W4.heap.size := by rw [← hW4]; simp
  rw [hW4] at H4 S4 C4
  obtain ⟨k0, k1, _, _, _⟩ := H4.out
  have H5 := Lib.hid (H4.out.next (bel_alloc W4 (.cells #[.int .i64 2, .bool true, .int .i64 0, .bool true] 27)))
  have S5 := Lib.hid (S4.out.next (bel_alloc W4 (.cells #[.int .i64 2, .bool true, .int .i64 0, .bool true] 27)))
  have C5 := Lib.hid (((bel_alloc W4 (.cells #[.int .i64 2, .bool true, .int .i64 0, .bool true] 27)).block w4.heap.size hz4).trans C4.out)
  go_wp2_with fail
  refine (Covers_ex A A2 (some ⟨W4.heap.size, 0, none⟩) _ H5.out.pl (new_moves W4 ⟨2, true⟩ ⟨0, true⟩)).mono ?_
  rintro e w6 ⟨⟨A5, c5, rfl, hs6⟩, hb6⟩
  have H6 := Lib.hid (H5.out.next hb6)
  have S6 := Lib.hid (S5.out.next hb6)
  have C6 := Lib.hid ((hb6.block w4.heap.size (by simp; omega)).trans C5.out)
  have hz6 : w4.heap.size < w6.heap.size := by have := hb6.size; simp at this; omega
  have T6 := Lib.hid hs6
  clear hb6 H5 S5 C5 H4 S4 C4 hs6 k0 k1 hW4
  obtain ⟨k0, k1, _, _, _⟩ := H6.out
  go_wp2_with fail
  refine (Distances_ex A A2 _ H6.out.pl).mono ?_
  rintro e w7 ⟨⟨A6, rfl, hs7⟩, hb7⟩
  have H7 := Lib.hid (H6.out.next hb7)
  have S7 := Lib.hid (S6.out.next hb7)
  have T7 := Lib.hid (T6.out.next hb7)
  have C7 := Lib.hid ((hb7.block w4.heap.size hz6).trans C6.out)
  have hz7 : w4.heap.size < w7.heap.size := by have := hb7.size; omega
  have U7 := Lib.hid hs7
  clear hb7 H6 S6 C6 T6 hs7 k0 k1
  have HA := Lib.hid (bel_alloc w7 (.cells #[.int .i64 1, .bool false, .int .i64 2, .bool false] 27))
  go_wp2_with fail
  refine (sameMoves_any A3 (some ⟨w7.heap.size, 0, none⟩) [⟨1, false⟩, ⟨2, false⟩] [⟨1, false⟩, ⟨2, false⟩] c3 2 _ (S7.out.next HA.out) (new_moves w7 ⟨1, false⟩ ⟨2, false⟩) (by decide)).mono ?_
  intro e w8 hp8
  obtain ⟨rfl, hb8⟩ := same_yes hp8
  have HB8 := Lib.hid (HA.out.trans (hb8.mono HA.out.size))
  have T8 := Lib.hid (T7.out.next HB8.out)
  have U8 := Lib.hid (U7.out.next HB8.out)
  have hc8 := (HB8.out.block w4.heap.size hz7).trans C7.out
  have y0 : w8.cell? ⟨w4.heap.size, 0, none⟩ = some (.int .i64 1) := cell_of_row _ _ 0 _ _ _ hc8
  have y1 : w8.cell? ⟨w4.heap.size, 1, none⟩ = some (.int .i64 2) := cell_of_row _ _ 1 _ _ _ hc8
  have HC := Lib.hid (bel_alloc w8 (.cells #[.int .i64 2, .int .i64 0, .int .i64 540, .int .i64 0, .int .i64 740, .int .i64 1000] 66))
  clear hp8 hb8 hc8
  go_wp2_with fail
  refine (sameCovers_any A5 (some ⟨w8.heap.size, 0, none⟩) [⟨2, 0, 540⟩, ⟨0, 740, 1000⟩] [⟨2, 0, 540⟩, ⟨0, 740, 1000⟩] c5 2 _ (T8.out.next HC.out) (new_covers w8 ⟨2, 0, 540⟩ ⟨0, 740, 1000⟩) (by decide)).mono ?_
  intro e w9 hp9
  obtain ⟨rfl, hb9⟩ := same_yes hp9
  have HB9 := Lib.hid (HC.out.trans (hb9.mono HC.out.size))
  have U9 := Lib.hid (U8.out.next HB9.out)
  have HD := Lib.hid (bel_alloc w9 (.cells #[.int .i64 1240, .int .i64 (-1), .int .i64 (-1), .int .i64 (-1), .int .i64 0, .int .i64 (-1)] 3))
  clear hp9 hb9 y0 y1
  go_wp2_with fail
  refine (same_any A6 (some ⟨w9.heap.size, 0, none⟩) [1240, -1, -1, -1, 0, -1] [1240, -1, -1, -1, 0, -1] 6 6 _ (U9.out.next HD.out) (new_ints w9 [1240, -1, -1, -1, 0, -1]) (by decide)).mono ?_
  intro e w10 hp10
  obtain ⟨rfl, hb10⟩ := same_yes hp10
  have HE := Lib.hid (H7.out.be.trans ((((HB8.out.trans (HB9.out.mono HB8.out.size)).trans (HD.out.mono (Nat.le_trans HB8.out.size HB9.out.size))).trans (hb10.mono (Nat.le_trans (Nat.le_trans HB8.out.size HB9.out.size) HD.out.size))).mono H7.out.be.size))
  clear hp10 hb10
  go_wp2
  go_ret
  exact ⟨rfl, HE.out⟩
end Go.Proofs.YtcpanfpijljeaaaGreat
