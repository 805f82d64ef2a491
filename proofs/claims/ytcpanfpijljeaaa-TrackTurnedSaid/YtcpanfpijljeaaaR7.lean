/- A round of the search: an item whose cost stands. -/
import Derived.Test.YtcpanfpijljeaaaR5
import Derived.BigRegion
namespace Go.Proofs.Ytcpanfpijljeaaa
set_option linter.unusedVariables false
set_option linter.unusedSimpArgs false
open Go.RowKit

set_option maxRecDepth 100000 in
set_option maxHeartbeats 4000000 in
theorem out_step {w wr : World} {B g kb M R S to gi ci v k q lb bb cb : Nat} {Ab : Option Addr} {d1 d2 y : Int} {r : List V3} {ln : Int → Int} {bef : Nat → List Int} {cl : List Bool} {cs res : List C2} {L : List Int}
    (u : Nat → Value) (K : Act → World → Prop) (Q : Exit → Act → World → Prop)
    (hK : ∀ a' w', OutR w g kb M S (to : Int) ln bef cl res k a' w' → K a' w')
    (hp : Pile wr (S + 1) (S + 1 + 1) vless (⟨d1, d2, (v : Int)⟩ :: r) gi ci) (hr : CRow wr S cs) (hbe : Below S w wr) (hSw : S = w.heap.size)
    (hl6 : r.length ≤ 1000000) (hcs : cs.length = M) (hit : ∀ y ∈ (⟨d1, d2, (v : Int)⟩ : V3) :: r, OkV M y) (hvM : v < M) (hM : M ≤ 800) (hMR : 2 * R = M)
    (hvc : v < cs.length) (hd1 : cs[v].1 = d1) (hd2 : cs[v].2 = d2) (hx0 : 0 ≤ d1) (hx1 : 0 ≤ d2)
    (hBS : B ≤ S) (hgB : g < B) (hlB : lb < B) (hbB : bb < B)
    (k2 : w.cell? ⟨g, 2, none⟩ = some (.slice (some ⟨lb, 0, none⟩) R R)) (k5 : w.cell? ⟨g, 5, none⟩ = some (.slice (some ⟨bb, 0, none⟩) M M))
    (hq : v / 2 = q) (z0 : w.cell? ⟨lb, q, none⟩ = some (.int .i64 y)) (hy0 : 0 ≤ y) (m0 : w.cell? ⟨bb, v, none⟩ = some (.slice Ab L.length cb)) (m1 : L.length ≤ cb) (m2 : cb ≤ maxLen) (hA : Sl w B 1 CI Ab L)
    (hLb : ∀ z ∈ L, ∃ t : Nat, z = t ∧ t < M) (hLl : L.length ≤ 1600) (hkb : BRow w kb cl) (hcl : cl.length = M) (ho1 : d1 + y ≤ 1000000000000000) (ho2 : d2 + 1 ≤ 1000000000000000)
    (hs : search ln bef cl k (L.foldl (relax cl (d1 + y, d2 + 1)) (cs, restL ⟨d1, d2, (v : Int)⟩ r)).1 (L.foldl (relax cl (d1 + y, d2 + 1)) (cs, restL ⟨d1, d2, (v : Int)⟩ r)).2 = some res) :
    Code.wp Try.prog (((Try.f56.body.map loopsIn).getD []).getD 1 .skip) (Exit.then K Q) (FRO g kb M S (S + 1 + 1) (to : Int) u) wr := by
  have hgi := hp.gl
  have hSz : S ≤ w.heap.size := by omega
  have HP := Lib.hid hp; have HR := Lib.hid hr; have HB := Lib.hid hbe; have HC := Lib.hid hcs; have HI := Lib.hid hit; have HSE := Lib.hid hs
  have HD1 := Lib.hid hd1; have HD2 := Lib.hid hd2; have HSW := Lib.hid hSw; have HA := Lib.hid hA; have HLB := Lib.hid hLb; have HKB := Lib.hid hkb; have HCL := Lib.hid hcl
  have hvR : q < R := by omega
  have e1 : (v : Int) / 2 = (q : Int) := by omega
  have e2 : (v : Int).tdiv 2 = (q : Int) := by rw [Int.tdiv_eq_ediv_of_nonneg (by omega)]; omega
  have e3 : IntKind.i64.wrap (q : Int) = (q : Int) := by rw [IntKind.wrap_i64]; omega
  have e4 : IntKind.i64.wrap (d1 + y) = d1 + y := by rw [IntKind.wrap_i64]; omega
  have e5 : IntKind.i64.wrap (d2 + 1) = d2 + 1 := by rw [IntKind.wrap_i64]; omega
  have e6 : (0 : Int) ≤ (q : Int) := by omega
  have e7 : (q : Int) < (R : Int) := by omega
  have hz10 : 0 ≤ d1 + y := by omega
  have hz20 : 0 ≤ d2 + 1 := by omega
  clear hp hr hbe hSw hcs hit hd1 hd2 hs hA hLb hkb hcl hMR hq
  have hm1 := meth_take; have hm3 := nila_take
  conv => arg 2; whnf
  simp only [FRO]
  go_wp2_with fail
  refine (take_any HP.out hl6).mono ?_
  rintro e w2 ⟨rfl, hp2, hf2⟩
  have HP2 := Lib.hid hp2
  have hcr2 := HR.out.fp hf2 (by omega) (by omega)
  have HB2 := Lib.hid (HB.out.trans (hf2.toBelow (B := S) (by omega) (by omega) (by have := HB.out.size; omega)))
  have HC2 := Lib.hid hcr2
  obtain ⟨q0, q1⟩ := hcr2.cell hvc
  rw [HD1.out] at q0
  rw [HD2.out] at q1
  have hS2 : S + 1 + 1 < w2.heap.size := hp2.plt
  have hgi2 : gi < w2.heap.size := hp2.glt
  have cell2 : ∀ (b i : Nat) (u : Value), b < S → w.cell? ⟨b, i, none⟩ = some u → w2.cell? ⟨b, i, none⟩ = some u := fun b i u hb hc => (HB2.out.cell (p := ⟨b, i, none⟩) hb).trans hc
  have n2 := cell2 g 2 _ (by omega) k2
  have n5 := cell2 g 5 _ (by omega) k5
  have nz := cell2 lb q _ (by omega) z0
  have nm := cell2 bb v _ (by omega) m0
  have iS0 : S < w2.heap.size := by omega
  have iS1 : S < w2.heap.size + 1 := by omega
  have iS2 : S < w2.heap.size + 1 + 1 := by omega
  have v0 : (0 : Int) ≤ (v : Int) := by omega
  have v1 : (v : Int) < (M : Int) := by omega
  have ig0 : g < w2.heap.size := by omega
  have ig1 : g < w2.heap.size + 1 := by omega
  have ig2 : g < w2.heap.size + 1 + 1 := by omega
  have il0 : lb < w2.heap.size := by omega
  have il1 : lb < w2.heap.size + 1 := by omega
  have il2 : lb < w2.heap.size + 1 + 1 := by omega
  have ib0 : bb < w2.heap.size := by omega
  have ib1 : bb < w2.heap.size + 1 := by omega
  have ib2 : bb < w2.heap.size + 1 + 1 := by omega
  clear hp2 hf2 hcr2 hm1 hm3 cell2 k2 k5 z0 m0
  go_wp2
  go_quiet (fail)
  obtain ⟨nA, rfl⟩ : ∃ n, n = nq := ⟨_, rfl⟩
  go_wp2
  refine wp_region_noPanic ?_
  go_region
  refine NoPanic.normal ?_
  go_wp2
  go_quiet (fail)
  obtain ⟨nB, rfl⟩ : ∃ n, n = nq := ⟨_, rfl⟩
  go_wp2
  clear e1 e2 e3 e4 e5 e6 e7 n2 n5 nz nm q0 q1
  have hk : ((((w2.alloc (.cells #[.int .i64 d1, .int .i64 d2, .int .i64 (v : Int)] 118)).drewN (nA + 1)).alloc (.cells #[.int .i64 (d1 + y), .int .i64 (d2 + 1)] 108)).drewN nB).heap[w2.heap.size + 1]? = some (.cells #[.int .i64 (d1 + y), .int .i64 (d2 + 1)] 108) := by
    have := heap_alloc_new ((w2.alloc (.cells #[.int .i64 d1, .int .i64 d2, .int .i64 (v : Int)] 118)).drewN (nA + 1)) (.cells #[.int .i64 (d1 + y), .int .i64 (d2 + 1)] 108)
    rw [show ((w2.alloc (.cells #[.int .i64 d1, .int .i64 d2, .int .i64 (v : Int)] 118)).drewN (nA + 1)).heap.size = w2.heap.size + 1 by simp] at this
    exact this
  have hst : ISt w S cl (d1 + y) (d2 + 1) L cs (restL ⟨d1, d2, (v : Int)⟩ r) (w2.heap.size + 1) 0 ((((w2.alloc (.cells #[.int .i64 d1, .int .i64 d2, .int .i64 (v : Int)] 118)).drewN (nA + 1)).alloc (.cells #[.int .i64 (d1 + y), .int .i64 (d2 + 1)] 108)).drewN nB) :=
    ⟨⟨gi, ci, (((HP2.out.alloc _).drewN _).alloc _).drewN _, by omega, CRow.alloc (w := (w2.alloc (.cells #[.int .i64 d1, .int .i64 d2, .int .i64 (v : Int)] 118)).drewN (nA + 1)) (HC2.out.alloc _) _⟩, hk, bDrewN ((bDrewN (HB2.out.alloc (by omega) _) _).alloc (by simp; omega) _) _⟩
  have HST := Lib.hid hst
  clear hst hk
  refine inner_loop' (w := w) (B := B) (g := g) (kb := kb) (M := M) (S := S) (cc := w2.heap.size + 1) (to := to) (A := Ab) (c := cb) (cl := cl) (z1 := d1 + y) (z2 := d2 + 1) (L := L) (cs0 := cs) (r0 := restL ⟨d1, d2, (v : Int)⟩ r) _ _ rfl ?_ HST.out HA.out hBS HLB.out hLl hM HKB.out HCL.out HC.out (fun y hy => HI.out y (mem_restL hy)) (by rw [restL_len]; exact hl6) HSW.out (by omega) hz10 hz20
  rintro a' w' ⟨ha, ⟨g3, c3, hp3, hg3, hr3⟩, hk3, hb3⟩
  obtain ⟨u, rfl⟩ : ∃ u, a' = FRI g kb M S (S + 1 + 1) (w2.heap.size + 1) (to : Int) Ab L.length cb (L.length : Int) u := ⟨_, ha⟩
  rw [List.take_length] at hp3 hr3
  obtain ⟨n1, n2, n3⟩ := relaxes_ok (M := M) (cl := cl) (c := (d1 + y, d2 + 1)) hz10 hz20 L (cs, restL ⟨d1, d2, (v : Int)⟩ r) HC.out (fun y hy => HI.out y (mem_restL hy)) HLB.out
  have HX := Lib.hid (show CSt w S M ln bef cl res k w' from ⟨⟨_, _, g3, c3, HSE.out, n1, n2, hp3, hr3⟩, hb3⟩)
  clear hp3 hr3 hk3 hb3 n1 n2 n3 ha
  exact hK _ _ ⟨rfl, HX.out⟩
end Go.Proofs.Ytcpanfpijljeaaa
