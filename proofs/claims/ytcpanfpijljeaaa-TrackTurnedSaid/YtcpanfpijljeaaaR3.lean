/- A round over those that come before: a move that gets a better way, or not. -/
import Derived.Test.YtcpanfpijljeaaaR1
import Derived.Deep.RegionHeld3
namespace Go.Proofs.Ytcpanfpijljeaaa
set_option linter.unusedVariables false
set_option linter.unusedSimpArgs false
open Go.RowKit

set_option maxRecDepth 100000 in
set_option maxHeartbeats 2000000 in
theorem in_less {w wr : World} {g kb M S cc to : Nat} {b3 o3 c : Nat} {cl : List Bool} {z1 z2 : Int} {L : List Int} {cs0 : List C2} {r0 : List V3} {s : List C2 × List V3} {g3 c3 j b : Nat} {x1 x2 : Int}
    (u : Nat → Value) (K : Act → World → Prop) (Q : Exit → Act → World → Prop)
    (hK : ∀ a' w', InR w g kb M S cc (to : Int) (some ⟨b3, o3, none⟩) c cl z1 z2 L cs0 r0 (j + 1) a' w' → K a' w')
    (hj : j < L.length) (hLl : L.length ≤ 1600) (hbM : b < M) (hM : M ≤ 800) (q3 : wr.cell? ⟨b3, o3 + j, none⟩ = some (.int .i64 (b : Int)))
    (kc : wr.cell? ⟨kb, b, none⟩ = some (.bool false)) (hkb : kb < wr.heap.size) (hp : Pile wr (S + 1) (S + 1 + 1) vless s.2 g3 c3) (hg3 : g3 ≠ cc) (hr : CRow wr S s.1) (hbl : b < s.1.length)
    (hk : wr.heap[cc]? = some (.cells #[.int .i64 z1, .int .i64 z2] 108)) (hbe : Below S w wr) (hSw : S = w.heap.size) (hcc : S + 1 + 1 < cc) (hs2 : s.2.length ≤ 1001600)
    (f0 : wr.cell? ⟨S, b * 2, none⟩ = some (.int .i64 x1)) (f1 : wr.cell? ⟨S, b * 2 + 1, none⟩ = some (.int .i64 x2)) (ht : (L.take (j + 1)).foldl (relax cl (z1, z2)) (cs0, r0) = (s.1.set b (z1, z2), putL s.2 ⟨z1, z2, (b : Int)⟩)) (hd : decide (x1 < 0) = false) {zz : Int} (hzz : cmp4 z1 z2 x1 x2 = zz) (hz : decide (zz < 0) = true) :
    Code.wp Try.prog (((Try.f56.body.map loopsIn).getD []).getD 2 .skip) (Exit.then K Q) (FRI g kb M S (S + 1 + 1) cc (to : Int) (some ⟨b3, o3, none⟩) L.length c (j : Int) u) wr := by
  have f2 := hr.fro (b * 2); have f3 := hr.fro (b * 2 + 1)
  have k0 : wr.cell? ⟨cc, 0, none⟩ = some (.int .i64 z1) := cell_of_row _ _ 0 _ _ _ hk
  have k1 : wr.cell? ⟨cc, 1, none⟩ = some (.int .i64 z2) := cell_of_row _ _ 1 _ _ _ hk
  have hcl3 : cc < wr.heap.size := (Array.getElem?_eq_some_iff.1 hk).1
  have hgb3 := hp.gl
  have hgl3 := hp.glt
  have hpl3 := hp.plt
  have hS1 : S < wr.heap.size := by omega
  have hSz : S ≤ w.heap.size := by omega
  have HP := Lib.hid hp; have HR := Lib.hid hr; have HK := Lib.hid hk; have HBE := Lib.hid hbe; have HT := Lib.hid ht
  have b0 : (0 : Int) ≤ (b : Int) := by omega
  have b1 : (b : Int) < (M : Int) := by omega
  have j0 : (0 : Int) ≤ (j : Int) := by omega
  have j1 : (j : Int) < (L.length : Int) := by omega
  have j2 : (j : Int) + 1 ≤ 1601 := by omega
  have HJ := Lib.hid (show ((j + 1 : Nat) : Int) = (j : Int) + 1 by omega)
  have HSW := Lib.hid hSw
  clear hp hr hk hbe ht hSw
  have HZZ := Lib.hid hzz
  clear hzz
  have hm2 := meth_put; have hm4 := nila_put
  conv => arg 2; whnf
  simp only [FRI]
  go_wp2
  go_region_held3 (fun w' => w'.cell? ⟨kb, b, none⟩ = some (.bool false) ∧ w'.cell? ⟨S, b * 2, none⟩ = some (.int .i64 x1) ∧ w'.cell? ⟨S, b * 2 + 1, none⟩ = some (.int .i64 x2) ∧
      w'.cell? ⟨cc, 0, none⟩ = some (.int .i64 z1) ∧ w'.cell? ⟨cc, 1, none⟩ = some (.int .i64 z2))
    (first | (go_keep; done) | exact ⟨(hb5.cell (p := ⟨kb, b, none⟩) hkb).trans kc, (hb5.cell (p := ⟨S, b * 2, none⟩) hS1).trans f0, (hb5.cell (p := ⟨S, b * 2 + 1, none⟩) hS1).trans f1, (hb5.cell (p := ⟨cc, 0, none⟩) hcl3).trans k0, (hb5.cell (p := ⟨cc, 1, none⟩) hcl3).trans k1⟩)
    ((go_at_call 72; refine (cc_any z1 z2 x1 x2 _).mono ?_; rw [HZZ.out]; rintro e w5 ⟨rfl, hb5⟩))
  have HBE5 := Lib.hid (HBE.out.trans ((Below.refl S wr).drew.trans (hb5.mono (by simp; omega))))
  have HP5 := Lib.hid (HP.out.drew.below hb5 hpl3 hgl3)
  have HR5 := Lib.hid (CRow.below (w := wr.drew) HR.out hb5 hS1)
  have HK5 := Lib.hid ((hb5.block cc hcl3).trans HK.out)
  have hz5 : wr.heap.size ≤ w5.heap.size := hb5.size
  have f0' := (hb5.cell (p := ⟨S, b * 2, none⟩) hS1).trans f0
  have f1' := (hb5.cell (p := ⟨S, b * 2 + 1, none⟩) hS1).trans f1
  have f2' := HR5.out.fro (b * 2); have f3' := HR5.out.fro (b * 2 + 1)
  have k0' : w5.cell? ⟨cc, 0, none⟩ = some (.int .i64 z1) := cell_of_row _ _ 0 _ _ _ HK5.out
  have k1' : w5.cell? ⟨cc, 1, none⟩ = some (.int .i64 z2) := cell_of_row _ _ 1 _ _ _ HK5.out
  clear hb5
  go_wp2_with fail
  refine (put_any (base := S + 1) (pb := S + 1 + 1) (g := g3) (c := c3) (l := s.2) ?hp1 ?hp2 (by omega) ⟨z1, z2, (b : Int)⟩).mono ?_
  case hp1 => exact ((HP5.out).other (p := ⟨S, b * 2, none⟩) _ (by simp; omega) (by simp; omega)).other (p := ⟨S, b * 2 + 1, none⟩) _ (by simp; omega) (by simp; omega)
  case hp2 => simp [World.setCell]; omega
  rintro e w7 ⟨rfl, ⟨g7, c7, hp7, hg7⟩, hf7⟩
  have HP7 := Lib.hid hp7
  have HR7 := Lib.hid (((HR5.out).set (i := b) hbl (z1, z2)).fp hf7 (by omega) (by omega))
  have HC7 := Lib.hid ((hf7.block cc (by simp [World.setCell]; omega) (by omega) (by omega)).trans ((Below.heap_setCell _ _ _ _ (by simp; omega)).trans ((Below.heap_setCell _ _ _ _ (by simp; omega)).trans (HK5.out))))
  have HB7 := Lib.hid ((((HBE5.out).setCell (p := ⟨S, b * 2, none⟩) (Nat.le_refl _) (.int .i64 z1)).setCell (p := ⟨S, b * 2 + 1, none⟩) (Nat.le_refl _) (.int .i64 z2)).trans (hf7.toBelow (B := S) (by omega) (by omega) (by simp [World.setCell]; omega)))
  have hg7' : g7 ≠ cc := by
    rcases hg7 with e | e
    · rw [e]; exact hg3
    · simp [World.setCell] at e; omega
  clear hp7 hf7 hg7
  go_wp2
  exact ⟨by rw [HJ.out]; rfl, ⟨⟨g7, c7, by rw [HT.out]; exact HP7.out, hg7', by rw [HT.out]; exact HR7.out⟩, HC7.out, HB7.out⟩⟩
set_option maxRecDepth 100000 in
set_option maxHeartbeats 2000000 in
theorem in_not {w wr : World} {g kb M S cc to : Nat} {b3 o3 c : Nat} {cl : List Bool} {z1 z2 : Int} {L : List Int} {cs0 : List C2} {r0 : List V3} {s : List C2 × List V3} {g3 c3 j b : Nat} {x1 x2 : Int}
    (u : Nat → Value) (K : Act → World → Prop) (Q : Exit → Act → World → Prop)
    (hK : ∀ a' w', InR w g kb M S cc (to : Int) (some ⟨b3, o3, none⟩) c cl z1 z2 L cs0 r0 (j + 1) a' w' → K a' w')
    (hj : j < L.length) (hLl : L.length ≤ 1600) (hbM : b < M) (hM : M ≤ 800) (q3 : wr.cell? ⟨b3, o3 + j, none⟩ = some (.int .i64 (b : Int)))
    (kc : wr.cell? ⟨kb, b, none⟩ = some (.bool false)) (hkb : kb < wr.heap.size) (hp : Pile wr (S + 1) (S + 1 + 1) vless s.2 g3 c3) (hg3 : g3 ≠ cc) (hr : CRow wr S s.1) (hbl : b < s.1.length)
    (hk : wr.heap[cc]? = some (.cells #[.int .i64 z1, .int .i64 z2] 108)) (hbe : Below S w wr) (hSw : S = w.heap.size) (hcc : S + 1 + 1 < cc) (hs2 : s.2.length ≤ 1001600)
    (f0 : wr.cell? ⟨S, b * 2, none⟩ = some (.int .i64 x1)) (f1 : wr.cell? ⟨S, b * 2 + 1, none⟩ = some (.int .i64 x2)) (ht : (L.take (j + 1)).foldl (relax cl (z1, z2)) (cs0, r0) = s) (hd : decide (x1 < 0) = false) {zz : Int} (hzz : cmp4 z1 z2 x1 x2 = zz) (hz : decide (zz < 0) = false) :
    Code.wp Try.prog (((Try.f56.body.map loopsIn).getD []).getD 2 .skip) (Exit.then K Q) (FRI g kb M S (S + 1 + 1) cc (to : Int) (some ⟨b3, o3, none⟩) L.length c (j : Int) u) wr := by
  have f2 := hr.fro (b * 2); have f3 := hr.fro (b * 2 + 1)
  have k0 : wr.cell? ⟨cc, 0, none⟩ = some (.int .i64 z1) := cell_of_row _ _ 0 _ _ _ hk
  have k1 : wr.cell? ⟨cc, 1, none⟩ = some (.int .i64 z2) := cell_of_row _ _ 1 _ _ _ hk
  have hcl3 : cc < wr.heap.size := (Array.getElem?_eq_some_iff.1 hk).1
  have hgb3 := hp.gl
  have hgl3 := hp.glt
  have hpl3 := hp.plt
  have hS1 : S < wr.heap.size := by omega
  have hSz : S ≤ w.heap.size := by omega
  have HP := Lib.hid hp; have HR := Lib.hid hr; have HK := Lib.hid hk; have HBE := Lib.hid hbe; have HT := Lib.hid ht
  have b0 : (0 : Int) ≤ (b : Int) := by omega
  have b1 : (b : Int) < (M : Int) := by omega
  have j0 : (0 : Int) ≤ (j : Int) := by omega
  have j1 : (j : Int) < (L.length : Int) := by omega
  have j2 : (j : Int) + 1 ≤ 1601 := by omega
  have HJ := Lib.hid (show ((j + 1 : Nat) : Int) = (j : Int) + 1 by omega)
  have HSW := Lib.hid hSw
  clear hp hr hk hbe ht hSw
  have HZZ := Lib.hid hzz
  clear hzz
  conv => arg 2; whnf
  simp only [FRI]
  go_wp2
  go_region_held3 (fun w' => w'.cell? ⟨kb, b, none⟩ = some (.bool false) ∧ w'.cell? ⟨S, b * 2, none⟩ = some (.int .i64 x1) ∧ w'.cell? ⟨S, b * 2 + 1, none⟩ = some (.int .i64 x2) ∧
      w'.cell? ⟨cc, 0, none⟩ = some (.int .i64 z1) ∧ w'.cell? ⟨cc, 1, none⟩ = some (.int .i64 z2))
    (first | (go_keep; done) | exact ⟨(hb5.cell (p := ⟨kb, b, none⟩) hkb).trans kc, (hb5.cell (p := ⟨S, b * 2, none⟩) hS1).trans f0, (hb5.cell (p := ⟨S, b * 2 + 1, none⟩) hS1).trans f1, (hb5.cell (p := ⟨cc, 0, none⟩) hcl3).trans k0, (hb5.cell (p := ⟨cc, 1, none⟩) hcl3).trans k1⟩)
    ((go_at_call 72; refine (cc_any z1 z2 x1 x2 _).mono ?_; rw [HZZ.out]; rintro e w5 ⟨rfl, hb5⟩))
  have HBE5 := Lib.hid (HBE.out.trans ((Below.refl S wr).drew.trans (hb5.mono (by simp; omega))))
  have HP5 := Lib.hid (HP.out.drew.below hb5 hpl3 hgl3)
  have HR5 := Lib.hid (CRow.below (w := wr.drew) HR.out hb5 hS1)
  have HK5 := Lib.hid ((hb5.block cc hcl3).trans HK.out)
  have hz5 : wr.heap.size ≤ w5.heap.size := hb5.size
  clear hb5
  go_wp2
  exact ⟨by rw [HJ.out]; rfl, ⟨⟨g3, c3, by rw [HT.out]; exact HP5.out, hg3, by rw [HT.out]; exact HR5.out⟩, HK5.out, HBE5.out⟩⟩
end Go.Proofs.Ytcpanfpijljeaaa
