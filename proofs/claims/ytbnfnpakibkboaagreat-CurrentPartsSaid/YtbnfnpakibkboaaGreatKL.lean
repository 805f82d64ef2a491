/- Texts C36 C37 C38 C39 D1 D2 D3 D4. -/
import Derived.Test.YtbnfnpakibkboaaGreatKK
import Derived.Test.YtbnfnpakibkboaaGreatKJ
namespace Go.Proofs.YtbnfnpakibkboaaGreat
set_option linter.unusedVariables false
set_option linter.unusedSimpArgs false
open Go.RowKit

set_option maxRecDepth 100000 in
set_option maxHeartbeats 8000000 in
theorem volt_any (sb : Nat) (x : SL) (C : Nat → Ci) (V : Nat → Vi) (K : Nat → Bool) (w : World) (h : StR w sb x C V K) (hN : x.N ≤ 1000) (hnp : x.np ≤ 1000) (pof : Nat → Int) (c i : Nat) (hc : c < x.N) (hpn : x.pof.n = x.N)
    (hP : Sl w w.heap.size 1 CI x.pof.A ((List.range x.N).map pof)) (hi : pof c = (i : Int)) (hin : i < x.np) (ns : List Nat) (hn : ns.length = (C i).s1.n) (hn40 : (C i).s1.n ≤ 40) (hS : Sl w w.heap.size 1 CI (C i).s1.A (nI ns))
    (v : Nat → Int) (hvn : (V i).sv.n = (C i).s1.n) (hV : Sl w w.heap.size 1 CI (V i).sv.A ((List.range (C i).s1.n).map v)) (hx : (c : Int) ∈ nI ns) :
    Calls Tryz.prog 78 #[.pointer (some ⟨sb, 0, none⟩), .int .i64 (c : Int)] w fun e w' => e = .returned (.tuple #[.int .i64 (v ((nI ns).idxOf (c : Int))), .int .i64 (V i).d]) ∧ Below w.heap.size w w' := by
  have hix : ixI (nI ns) (c : Int) = ((nI ns).idxOf (c : Int) : Int) := by unfold ixI; rw [if_pos hx]
  have hlt := List.idxOf_lt_length_iff.2 hx
  have hnl : (nI ns).length = (C i).s1.n := by unfold nI; rw [List.length_map, hn]
  rw [hnl] at hlt
  obtain ⟨k, hk⟩ : ∃ k, (nI ns).idxOf (c : Int) = k := ⟨_, rfl⟩
  rw [hk] at hix hlt ⊢
  obtain ⟨b1, o1, hA1, gb1, d1⟩ := int_at hP (i := c) (by simp; exact hc)
  rw [List.getElem_map, List.getElem_range, hi] at d1
  obtain ⟨b2, o2, hA2, gb2, d2⟩ := int_at hV (i := k) (by simp; exact hlt)
  rw [List.getElem_map, List.getElem_range] at d2
  obtain ⟨vk, hvk⟩ : ∃ g, v k = g := ⟨_, rfl⟩
  rw [hvk] at d2 ⊢
  obtain ⟨g1, g2, g3, g4, g5⟩ := h.c5 hin
  obtain ⟨v1, v2, v3⟩ := h.v3 hin
  have hcl := h.c.lt; have hrl := h.r.lt
  have HR := Lib.hid (show Rw w sb 110 #[.int .i64 (x.N : Int), .slice x.wires.A x.wires.n x.wires.c, .slice x.feeds.A x.feeds.n x.feeds.c, .int .i64 x.least, .slice x.fon.A x.fon.n x.fon.c, .slice x.sw.A x.sw.n x.sw.c, .slice x.loads.A x.loads.n x.loads.c, .slice x.run.A x.run.n x.run.c, .slice x.parts.A x.parts.n x.parts.c, .slice (some ⟨b1, o1, none⟩) x.pof.n x.pof.c, .slice (some ⟨x.cb, 0, none⟩) x.np x.np, .slice (some ⟨x.vb, 0, none⟩) x.np x.np, .slice (some ⟨x.kb, 0, none⟩) x.np x.np] from by have := h.r; unfold fSet Sc.v at this; rw [hA1] at this; exact this)
  obtain ⟨⟨k1, k2, k3, k4, k5⟩, hCi⟩ : ∃ ci, C i = ci := ⟨_, rfl⟩
  obtain ⟨⟨⟨va, nn, vc⟩, sa, d⟩, hVi⟩ : ∃ vi, V i = vi := ⟨_, rfl⟩
  rw [hCi] at g1 g2 g3 g4 g5 hn hn40 hS hvn hV hlt
  rw [hVi] at v1 v2 v3 hvn hV hA2 ⊢
  simp only at hA2 hvn hn hn40
  subst hA2
  subst hvn
  unfold Sc.v at g1 g2 g3 g4 g5 v1 v2
  simp only at g1 g2 g3 g4 g5 v1 v2 v3 hlt ⊢
  have hb := (Below.refl w.heap.size w).alloc (Nat.le_refl _) (.cells #[.slice (some ⟨b2, o2, none⟩) k1.n vc, .slice sa.A sa.n sa.c, .int .i64 d] 136)
  have q3 := Rw.new w #[.slice (some ⟨b2, o2, none⟩) k1.n vc, .slice sa.A sa.n sa.c, .int .i64 d] 136
  have hz0 : (0 : Int) ≤ (c : Int) := by omega
  have hz1 : (c : Int) < (x.pof.n : Int) := by omega
  have hz2 : (0 : Int) ≤ (i : Int) := by omega
  have hz3 : (i : Int) < (x.np : Int) := by omega
  have hz4 : (0 : Int) ≤ (k : Int) := by omega
  have hz5 : (k : Int) < (k1.n : Int) := by omega
  have HW := Lib.hid (show ∀ wx, Below w.heap.size w wx → Rw wx sb 110 #[.int .i64 (x.N : Int), .slice x.wires.A x.wires.n x.wires.c, .slice x.feeds.A x.feeds.n x.feeds.c, .int .i64 x.least, .slice x.fon.A x.fon.n x.fon.c, .slice x.sw.A x.sw.n x.sw.c, .slice x.loads.A x.loads.n x.loads.c, .slice x.run.A x.run.n x.run.c, .slice x.parts.A x.parts.n x.parts.c, .slice (some ⟨b1, o1, none⟩) x.pof.n x.pof.c, .slice (some ⟨x.cb, 0, none⟩) x.np x.np, .slice (some ⟨x.vb, 0, none⟩) x.np x.np, .slice (some ⟨x.kb, 0, none⟩) x.np x.np] ∧ wx.cell? ⟨x.cb, i * 5, none⟩ = some (.slice k1.A k1.n k1.c) ∧ wx.cell? ⟨x.cb, i * 5 + 1, none⟩ = some (.slice k2.A k2.n k2.c) ∧ wx.cell? ⟨x.cb, i * 5 + 2, none⟩ = some (.slice k3.A k3.n k3.c) ∧ wx.cell? ⟨x.cb, i * 5 + 3, none⟩ = some (.slice k4.A k4.n k4.c) ∧ wx.cell? ⟨x.cb, i * 5 + 4, none⟩ = some (.slice k5.A k5.n k5.c) ∧ wx.cell? ⟨b2, o2 + k, none⟩ = some (.int .i64 vk) from fun wx hw =>
    ⟨HR.out.below hw HR.out.lt, (World.cell?_of_block (a := ⟨x.cb, i * 5, none⟩) (hw.5 x.cb hcl)).trans g1, (World.cell?_of_block (a := ⟨x.cb, i * 5 + 1, none⟩) (hw.5 x.cb hcl)).trans g2, (World.cell?_of_block (a := ⟨x.cb, i * 5 + 2, none⟩) (hw.5 x.cb hcl)).trans g3, (World.cell?_of_block (a := ⟨x.cb, i * 5 + 3, none⟩) (hw.5 x.cb hcl)).trans g4, (World.cell?_of_block (a := ⟨x.cb, i * 5 + 4, none⟩) (hw.5 x.cb hcl)).trans g5, (World.cell?_of_block (a := ⟨b2, o2 + k, none⟩) (hw.5 b2 gb2)).trans d2⟩)
  have HIX := Lib.hid (show ∀ wx, Below w.heap.size w wx → Calls Tryz.prog 95 #[.agg #[.slice k1.A k1.n k1.c, .slice k2.A k2.n k2.c, .slice k3.A k3.n k3.c, .slice k4.A k4.n k4.c, .slice k5.A k5.n k5.c], .int .i64 (c : Int)] wx fun e w' => e = .returned (.int .i64 (k : Int)) ∧ Below wx.heap.size wx w' from fun wx hw => by
    rw [← hix]
    exact cindex_any k1 k2 k3 k4 k5 ns (c : Int) wx hn (by omega) ((hS.below hw).more (fun _ _ h => h) hw.size))
  have m := HR.out.cell
  clear h hP hS hV hx hix hnl g1 g2 g3 g4 g5 hk d2 hvk hCi hVi hA1 hi hn hn40 hpn
  go_enter Tryz.func78, Tryz.ntmps78
  go_upto_region 3 with (fail)
  obtain ⟨W1, hW1⟩ : ∃ z, w.alloc (.cells #[.slice (some ⟨b2, o2, none⟩) k1.n vc, .slice sa.A sa.n sa.c, .int .i64 d] 136) = z := ⟨_, rfl⟩
  rw [hW1] at hb q3 ⊢
  have HB1 := Lib.hid hb
  have HRS := Lib.hid (show ∀ wx, Below W1.heap.size W1 wx → Rw wx w.heap.size 136 #[.slice (some ⟨b2, o2, none⟩) k1.n vc, .slice sa.A sa.n sa.c, .int .i64 d] ∧ Rw wx sb 110 #[.int .i64 (x.N : Int), .slice x.wires.A x.wires.n x.wires.c, .slice x.feeds.A x.feeds.n x.feeds.c, .int .i64 x.least, .slice x.fon.A x.fon.n x.fon.c, .slice x.sw.A x.sw.n x.sw.c, .slice x.loads.A x.loads.n x.loads.c, .slice x.run.A x.run.n x.run.c, .slice x.parts.A x.parts.n x.parts.c, .slice (some ⟨b1, o1, none⟩) x.pof.n x.pof.c, .slice (some ⟨x.cb, 0, none⟩) x.np x.np, .slice (some ⟨x.vb, 0, none⟩) x.np x.np, .slice (some ⟨x.kb, 0, none⟩) x.np x.np] ∧ wx.cell? ⟨x.cb, i * 5, none⟩ = some (.slice k1.A k1.n k1.c) ∧ wx.cell? ⟨x.cb, i * 5 + 1, none⟩ = some (.slice k2.A k2.n k2.c) ∧ wx.cell? ⟨x.cb, i * 5 + 2, none⟩ = some (.slice k3.A k3.n k3.c) ∧ wx.cell? ⟨x.cb, i * 5 + 3, none⟩ = some (.slice k4.A k4.n k4.c) ∧ wx.cell? ⟨x.cb, i * 5 + 4, none⟩ = some (.slice k5.A k5.n k5.c) ∧ wx.cell? ⟨b2, o2 + k, none⟩ = some (.int .i64 vk) from fun wx hw =>
    ⟨q3.below hw q3.lt, HW.out wx (HB1.out.trans (hw.mono HB1.out.size))⟩)
  replace HIX := Lib.hid (show ∀ wx, Below W1.heap.size W1 wx → Calls Tryz.prog 95 #[.agg #[.slice k1.A k1.n k1.c, .slice k2.A k2.n k2.c, .slice k3.A k3.n k3.c, .slice k4.A k4.n k4.c, .slice k5.A k5.n k5.c], .int .i64 (c : Int)] wx fun e w' => e = .returned (.int .i64 (k : Int)) ∧ Below wx.heap.size wx w' from fun wx hw => HIX.out wx (HB1.out.trans (hw.mono HB1.out.size)))
  clear hb q3 hW1 m v1 v2 v3 d1
  have hbq : Below W1.heap.size W1 W1.drew := (Below.refl _ _).drew
  have HS := Lib.hid (HRS.out _ hbq)
  refine wp_region_noPanic ?_
  refine wp_region_held_drew (S := fun wx => Rw wx (w.heap.size) 136 #[.slice (some ⟨b2, o2, none⟩) k1.n vc, .slice sa.A sa.n sa.c, .int .i64 d] ∧ Rw wx (sb) 110 #[.int .i64 (x.N : Int), .slice x.wires.A x.wires.n x.wires.c, .slice x.feeds.A x.feeds.n x.feeds.c, .int .i64 x.least, .slice x.fon.A x.fon.n x.fon.c, .slice x.sw.A x.sw.n x.sw.c, .slice x.loads.A x.loads.n x.loads.c, .slice x.run.A x.run.n x.run.c, .slice x.parts.A x.parts.n x.parts.c, .slice (some ⟨b1, o1, none⟩) x.pof.n x.pof.c, .slice (some ⟨x.cb, 0, none⟩) x.np x.np, .slice (some ⟨x.vb, 0, none⟩) x.np x.np, .slice (some ⟨x.kb, 0, none⟩) x.np x.np] ∧ wx.cell? ⟨x.cb, i * 5, none⟩ = some (.slice k1.A k1.n k1.c) ∧ wx.cell? ⟨x.cb, i * 5 + 1, none⟩ = some (.slice k2.A k2.n k2.c) ∧ wx.cell? ⟨x.cb, i * 5 + 2, none⟩ = some (.slice k3.A k3.n k3.c) ∧ wx.cell? ⟨x.cb, i * 5 + 3, none⟩ = some (.slice k4.A k4.n k4.c) ∧ wx.cell? ⟨x.cb, i * 5 + 4, none⟩ = some (.slice k5.A k5.n k5.c) ∧ wx.cell? ⟨b2, o2 + k, none⟩ = some (.int .i64 vk)) (by kernel_rfl) HS.out (fun _ => ?_)
  refine hTk (i := 0) (d := 22) (v := .pointer (some ⟨w.heap.size, 0, none⟩)) rfl rfl (Or.inl ⟨rfl, by rintro W' ⟨r0, r1, r2, r3, r4, r5, r6, r7⟩; have ry0 := r0.cell; have ry1 := r1.cell; go_simp⟩) HS.out ?_
  simp only [Act.put, sB, sZ, sS]
  refine hTk (i := 1) (d := 23) (v := .slice (some ⟨b2, o2, none⟩) k1.n vc) rfl rfl (Or.inl ⟨rfl, by rintro W' ⟨r0, r1, r2, r3, r4, r5, r6, r7⟩; have ry0 := r0.cell; have ry1 := r1.cell; go_simp⟩) HS.out ?_
  simp only [Act.put, sB, sZ, sS]
  refine hTk (i := 2) (d := 24) (v := .pointer (some ⟨sb, 0, none⟩)) rfl rfl (Or.inl ⟨rfl, by rintro W' ⟨r0, r1, r2, r3, r4, r5, r6, r7⟩; have ry0 := r0.cell; have ry1 := r1.cell; go_simp⟩) HS.out ?_
  simp only [Act.put, sB, sZ, sS]
  refine hTk (i := 3) (d := 25) (v := .pointer (some ⟨sb, 0, none⟩)) rfl rfl (Or.inl ⟨rfl, by rintro W' ⟨r0, r1, r2, r3, r4, r5, r6, r7⟩; have ry0 := r0.cell; have ry1 := r1.cell; go_simp⟩) HS.out ?_
  simp only [Act.put, sB, sZ, sS]
  refine hTk (i := 4) (d := 26) (v := .pointer (some ⟨sb, 10, none⟩)) rfl rfl (Or.inl ⟨rfl, by rintro W' ⟨r0, r1, r2, r3, r4, r5, r6, r7⟩; have ry0 := r0.cell; have ry1 := r1.cell; go_simp⟩) HS.out ?_
  simp only [Act.put, sB, sZ, sS]
  refine hTk (i := 5) (d := 27) (v := .slice (some ⟨x.cb, 0, none⟩) x.np x.np) rfl rfl (Or.inl ⟨rfl, by rintro W' ⟨r0, r1, r2, r3, r4, r5, r6, r7⟩; have ry0 := r0.cell; have ry1 := r1.cell; go_simp⟩) HS.out ?_
  simp only [Act.put, sB, sZ, sS]
  refine hTk (i := 6) (d := 28) (v := .int .i64 (i : Int)) rfl rfl (Or.inl ⟨rfl, by rintro W' ⟨r0, r1, r2, r3, r4, r5, r6, r7⟩; have ry0 := r0.cell; have ry1 := r1.cell; go_simp⟩) HS.out ?_
  simp only [Act.put, sB, sZ, sS]
  refine hTk (i := 7) (d := 29) (v := .pointer (some ⟨x.cb, i * 5, none⟩)) rfl rfl (Or.inl ⟨rfl, by rintro W' ⟨r0, r1, r2, r3, r4, r5, r6, r7⟩; have ry0 := r0.cell; have ry1 := r1.cell; go_simp⟩) HS.out ?_
  simp only [Act.put, sB, sZ, sS]
  refine hTk (i := 8) (d := 30) (v := .agg #[.slice k1.A k1.n k1.c, .slice k2.A k2.n k2.c, .slice k3.A k3.n k3.c, .slice k4.A k4.n k4.c, .slice k5.A k5.n k5.c]) rfl rfl (Or.inl ⟨rfl, by rintro W' ⟨r0, r1, r2, r3, r4, r5, r6, r7⟩; have ry0 := r0.cell; have ry1 := r1.cell; go_simp⟩) HS.out ?_
  simp only [Act.put, sB, sZ, sS]
  refine hTk (i := 9) (d := 31) (v := .int .i64 (c : Int)) rfl rfl (Or.inl ⟨rfl, by rintro W' ⟨r0, r1, r2, r3, r4, r5, r6, r7⟩; have ry0 := r0.cell; have ry1 := r1.cell; go_simp⟩) HS.out ?_
  simp only [Act.put, sB, sZ, sS]
  refine hTk (i := 13) (d := 35) (v := .pointer (some ⟨w.heap.size, 2, none⟩)) rfl rfl (Or.inl ⟨rfl, by rintro W' ⟨r0, r1, r2, r3, r4, r5, r6, r7⟩; have ry0 := r0.cell; have ry1 := r1.cell; go_simp⟩) HS.out ?_
  simp only [Act.put, sB, sZ, sS]
  refine hTk (i := 14) (d := 36) (v := .int .i64 d) rfl rfl (Or.inl ⟨rfl, by rintro W' ⟨r0, r1, r2, r3, r4, r5, r6, r7⟩; have ry0 := r0.cell; have ry1 := r1.cell; go_simp⟩) HS.out ?_
  simp only [Act.put, sB, sZ, sS]
  refine wpAnyH_ready (rs := [10]) (by kernel_rfl) (by simp) ?_
  refine AllReadyH.cons rfl (fun K hK => ?_) AllReadyH.nil
  rw [if_pos (by rfl)]
  go_simp
  go_at_call 95
  (with_reducible refine (HIX.out _ hbq).mono ?_)
  rintro e wc0 ⟨rfl, hbn⟩
  replace hbq := hbq.trans (hbn.mono hbq.size)
  clear hbn
  have HS := Lib.hid (HRS.out _ hbq)
  refine hK.out _ _ HS.out (fun _ => ?_)
  clear hK K
  try simp only [Act.put, sB, sZ, sS]
  refine hTk (i := 11) (d := 33) (v := .pointer (some ⟨b2, o2 + k, none⟩)) rfl rfl (Or.inl ⟨rfl, by rintro W' ⟨r0, r1, r2, r3, r4, r5, r6, r7⟩; have ry0 := r0.cell; have ry1 := r1.cell; go_simp⟩) HS.out ?_
  simp only [Act.put, sB, sZ, sS]
  refine hTk (i := 12) (d := 34) (v := .int .i64 vk) rfl rfl (Or.inl ⟨rfl, by rintro W' ⟨r0, r1, r2, r3, r4, r5, r6, r7⟩; have ry0 := r0.cell; have ry1 := r1.cell; go_simp⟩) HS.out ?_
  simp only [Act.put, sB, sZ, sS]
  refine hTk (i := 15) (d := 4) (v := .int .i64 vk) rfl rfl (Or.inl ⟨rfl, by rintro W' ⟨r0, r1, r2, r3, r4, r5, r6, r7⟩; have ry0 := r0.cell; have ry1 := r1.cell; go_simp⟩) HS.out ?_
  simp only [Act.put, sB, sZ, sS]
  refine hTk (i := 16) (d := 5) (v := .int .i64 d) rfl rfl (Or.inl ⟨rfl, by rintro W' ⟨r0, r1, r2, r3, r4, r5, r6, r7⟩; have ry0 := r0.cell; have ry1 := r1.cell; go_simp⟩) HS.out ?_
  simp only [Act.put, sB, sZ, sS]
  refine wpAnyH_done (by kernel_rfl) ?_ _
  clear HS
  refine NoPanic.normal ?_
  go_wp2
  go_ret2
  exact ⟨rfl, (HB1.out.trans (hbq.mono HB1.out.size))⟩
end Go.Proofs.YtbnfnpakibkboaaGreat

namespace Go.Proofs.YtbnfnpakibkboaaGreat
set_option linter.unusedVariables false
set_option linter.unusedSimpArgs false
open Go.RowKit

theorem round_less {j n : Nat} (h : j < n) : n - (intOf (.int .i64 ((j : Int) + 1))).toNat < n - (intOf (.int .i64 (j : Int))).toNat := by
  simp [intOf]; omega
/-- what the first of the feeders at p gives, 0 if none is there -/
def ampR (p : Int) (am : List Int) (d : Int) : List Fv → Nat → Int × Int
  | [], _ => (0, 1)
  | f :: fs, j => if f.pl = p then ((am[j]?).getD 0, d) else ampR p am d fs (j + 1)
set_option maxRecDepth 100000 in
set_option maxHeartbeats 8000000 in
theorem amp_any (sb : Nat) (x : SL) (C : Nat → Ci) (V : Nat → Vi) (K : Nat → Bool) (w : World) (h : StR w sb x C V K) (hN : x.N ≤ 1000) (hnp : x.np ≤ 1000) (pof : Nat → Int) (fl : List Fv) (f c i : Nat) (hfl : fl.length = x.feeds.n) (hf : f < fl.length) (hF : Sl w w.heap.size 4 CF x.feeds.A fl) (hfc : fl[f].pl = (c : Int)) (hc : c < x.N) (hpn : x.pof.n = x.N)
    (hP : Sl w w.heap.size 1 CI x.pof.A ((List.range x.N).map pof)) (hi : pof c = (i : Int)) (hin : i < x.np) (on : List Fv) (hon : on.length = (C i).so.n) (hon2 : (C i).so.n ≤ 1000) (hO : Sl w w.heap.size 4 CF (C i).so.A on)
    (am : List Int) (han : am.length = (V i).sa.n) (han2 : (V i).sa.n = (C i).so.n) (hA : Sl w w.heap.size 1 CI (V i).sa.A am) :
    Calls Tryz.prog 79 #[.pointer (some ⟨sb, 0, none⟩), .int .i64 (f : Int)] w fun e w' => e = .returned (.tuple #[.int .i64 (ampR (c : Int) am (V i).d on 0).1, .int .i64 (ampR (c : Int) am (V i).d on 0).2]) ∧ Below w.heap.size w w' := by
  obtain ⟨b0, o0, hA0, gb0, e0, _, _, _⟩ := feed_at hF hf
  rw [hfc] at e0
  obtain ⟨b1, o1, hA1, gb1, d1⟩ := int_at hP (i := c) (by simp; exact hc)
  rw [List.getElem_map, List.getElem_range, hi] at d1
  have g4 := (h.c5 hin).2.2.2.1
  obtain ⟨v1, v2, v3⟩ := h.v3 hin
  have hcl := h.c.lt; have hrl := h.r.lt
  have HR := Lib.hid (show Rw w sb 110 #[.int .i64 (x.N : Int), .slice x.wires.A x.wires.n x.wires.c, .slice (some ⟨b0, o0, none⟩) x.feeds.n x.feeds.c, .int .i64 x.least, .slice x.fon.A x.fon.n x.fon.c, .slice x.sw.A x.sw.n x.sw.c, .slice x.loads.A x.loads.n x.loads.c, .slice x.run.A x.run.n x.run.c, .slice x.parts.A x.parts.n x.parts.c, .slice (some ⟨b1, o1, none⟩) x.pof.n x.pof.c, .slice (some ⟨x.cb, 0, none⟩) x.np x.np, .slice (some ⟨x.vb, 0, none⟩) x.np x.np, .slice (some ⟨x.kb, 0, none⟩) x.np x.np] from by have := h.r; unfold fSet Sc.v at this; rw [hA0, hA1] at this; exact this)
  obtain ⟨⟨oA, son, oc⟩, hCi⟩ : ∃ so, (C i).so = so := ⟨_, rfl⟩
  obtain ⟨⟨sv, ⟨aA, an, ac⟩, d⟩, hVi⟩ : ∃ vi, V i = vi := ⟨_, rfl⟩
  rw [hCi] at g4 hon hon2 hO han2
  rw [hVi] at v1 v2 v3 han han2 hA ⊢
  unfold Sc.v at g4 v1 v2
  simp only at g4 v1 v2 v3 hon hon2 hO han han2 hA ⊢
  subst han2
  have hb := (Below.refl w.heap.size w).alloc (Nat.le_refl _) (.cells #[.slice sv.A sv.n sv.c, .slice aA an ac, .int .i64 d] 136)
  have q3 := Rw.new w #[.slice sv.A sv.n sv.c, .slice aA an ac, .int .i64 d] 136
  have hz0 : (0 : Int) ≤ (c : Int) := by omega
  have hz1 : (c : Int) < (x.pof.n : Int) := by omega
  have hz2 : (0 : Int) ≤ (i : Int) := by omega
  have hz3 : (i : Int) < (x.np : Int) := by omega
  have hz4 : (0 : Int) ≤ (f : Int) := by omega
  have hz5 : (f : Int) < (x.feeds.n : Int) := by omega
  have HW := Lib.hid (show ∀ wx, Below w.heap.size w wx → Rw wx sb 110 #[.int .i64 (x.N : Int), .slice x.wires.A x.wires.n x.wires.c, .slice (some ⟨b0, o0, none⟩) x.feeds.n x.feeds.c, .int .i64 x.least, .slice x.fon.A x.fon.n x.fon.c, .slice x.sw.A x.sw.n x.sw.c, .slice x.loads.A x.loads.n x.loads.c, .slice x.run.A x.run.n x.run.c, .slice x.parts.A x.parts.n x.parts.c, .slice (some ⟨b1, o1, none⟩) x.pof.n x.pof.c, .slice (some ⟨x.cb, 0, none⟩) x.np x.np, .slice (some ⟨x.vb, 0, none⟩) x.np x.np, .slice (some ⟨x.kb, 0, none⟩) x.np x.np] ∧ wx.cell? ⟨x.cb, i * 5 + 3, none⟩ = some (.slice oA an oc) ∧ wx.cell? ⟨b0, o0 + f * 4, none⟩ = some (.int .i64 (c : Int)) from fun wx hw =>
    ⟨HR.out.below hw HR.out.lt, (World.cell?_of_block (a := ⟨x.cb, i * 5 + 3, none⟩) (hw.5 x.cb hcl)).trans g4, (World.cell?_of_block (a := ⟨b0, o0 + f * 4, none⟩) (hw.5 b0 gb0)).trans e0⟩)
  have m := HR.out.cell
  have HO := Lib.hid hO; have HA := Lib.hid hA; have HON := Lib.hid hon; have HAN := Lib.hid han; have HON2 := Lib.hid hon2
  clear h hP hF hO hA hfl hfc hCi hVi hA0 hA1 hi hon han hpn hon2
  go_enter Tryz.func79, Tryz.ntmps79
  go_upto_region 1 with (fail)
  refine wp_region_noPanic ?_
  go_region
  refine NoPanic.normal ?_
  (try simp only [Exit.inBlock, Exit.then])
  have hbd := (Below.refl w.heap.size w).drew
  have hW2 := HW.out _ hbd
  have m2 := hW2.1.cell
  have w1 : w.drew.cell? ⟨x.vb, i * 3, none⟩ = some (.slice sv.A sv.n sv.c) := v1
  have w2 : w.drew.cell? ⟨x.vb, i * 3 + 1, none⟩ = some (.slice aA an ac) := v2
  have w3 : w.drew.cell? ⟨x.vb, i * 3 + 2, none⟩ = some (.int .i64 d) := v3
  have hzd : w.drew.heap.size = w.heap.size := rfl
  have hba := hbd.alloc (Nat.le_refl _) (.cells #[.slice sv.A sv.n sv.c, .slice aA an ac, .int .i64 d] 136)
  have qa : Rw (w.drew.alloc (.cells #[.slice sv.A sv.n sv.c, .slice aA an ac, .int .i64 d] 136)) w.heap.size 136 #[.slice sv.A sv.n sv.c, .slice aA an ac, .int .i64 d] := Rw.new w.drew #[.slice sv.A sv.n sv.c, .slice aA an ac, .int .i64 d] 136
  obtain ⟨wd, hwd⟩ : ∃ z, w.drew = z := ⟨_, rfl⟩
  rw [hwd] at hW2 m2 w1 w2 w3 hzd hba qa ⊢
  clear hwd m v1 v2 v3 hb q3 hbd hW2
  go_upto_region 3 with (fail)
  obtain ⟨W1, hW1⟩ : ∃ z, wd.alloc (.cells #[.slice sv.A sv.n sv.c, .slice aA an ac, .int .i64 d] 136) = z := ⟨_, rfl⟩
  rw [hW1] at hba qa ⊢
  have hW3 := HW.out _ hba
  have m3 := hW3.1.cell
  have c3 := hW3.2.1
  have HB1 := Lib.hid hba; have HQ := Lib.hid qa
  clear hW1 m2 w1 w2 w3 hzd hba qa hW3
  go_wp2
  clear m3 c3
  go_loopw [41] (fun s41 wr => ∃ j : Nat, j ≤ an ∧ s41 = .int .i64 (j : Int) ∧ ampR (c : Int) am d (on.drop j) j = ampR (c : Int) am d on 0 ∧ Below W1.heap.size W1 wr) (fun s41 _ => an - (intOf s41).toNat)
  case atStart => exact ⟨0, Nat.zero_le _, rfl, rfl, Below.refl _ _⟩
  case round =>
    obtain ⟨j, hj, rfl, hre, hbr⟩ := hrel
    have HRE := Lib.hid hre; have HBR := Lib.hid hbr
    clear hre
    by_cases hjn : j < an
    · have hji : (j : Int) < (an : Int) := by omega
      have hj0 : (0 : Int) ≤ (j : Int) := by omega
      have hjl : j < on.length := by have := HON.out; omega
      have hja : j < am.length := by have := HAN.out; omega
      have hbw := HB1.out.trans (hbr.mono HB1.out.size)
      obtain ⟨b2, o2, rfl, gb2, y0, y1, y2, y3⟩ := feed_at (HO.out.below hbw) hjl
      obtain ⟨b3, o3, rfl, gb3, z0⟩ := int_at (HA.out.below hbw) hja
      obtain ⟨y, hy⟩ : ∃ y, on[j] = y := ⟨_, rfl⟩
      rw [hy] at y0 y1 y2 y3
      obtain ⟨a, ha⟩ : ∃ a, am[j] = a := ⟨_, rfl⟩
      rw [ha] at z0
      have hdr : on.drop j = y :: on.drop (j + 1) := by rw [List.drop_eq_getElem_cons hjl, hy]
      have hst : ampR (c : Int) am d (on.drop j) j = if y.pl = (c : Int) then (a, d) else ampR (c : Int) am d (on.drop (j + 1)) (j + 1) := by
        rw [hdr, ampR, List.getElem?_eq_getElem hja, ha]; rfl
      have HJ := Lib.hid hjn
      have hab : (j : Int) + 1 ≤ 1000 := by have := HON2.out; omega
      have hjw : IntKind.i64.wrap ((j : Int) + 1) = (j : Int) + 1 := by rw [IntKind.wrap_i64]; omega
      by_cases hp : y.pl = (c : Int)
      · rw [if_pos hp] at hst
        have HST := Lib.hid (hst.symm.trans HRE.out)
        rw [hp] at y0
        have qb := Rw.new wr #[.int .i64 (c : Int), .int .i64 y.volts, .int .i64 y.siem, .int .i64 y.limit] 58
        have hb6 := (Below.refl wr.heap.size wr).alloc (Nat.le_refl _) (.cells #[.int .i64 (c : Int), .int .i64 y.volts, .int .i64 y.siem, .int .i64 y.limit] 58)
        obtain ⟨W6, hW6⟩ : ∃ z, wr.alloc (.cells #[.int .i64 (c : Int), .int .i64 y.volts, .int .i64 y.siem, .int .i64 y.limit] 58) = z := ⟨_, rfl⟩
        rw [hW6] at qb hb6
        have hb6w := hbw.trans (hb6.mono hbw.size)
        have hW7 := HW.out _ hb6w
        have m6 := hW7.1.cell; have e6 := hW7.2.2; have q6 := qb.cell
        have hb61 := hbr.trans (hb6.mono hbr.size)
        have qd := HQ.out.below hb61 HQ.out.lt
        have d6 := qd.cell
        have z6 : W6.cell? ⟨b3, o3 + j, none⟩ = some (.int .i64 a) := (World.cell?_of_block (a := ⟨b3, o3 + j, none⟩) (hb6.5 b3 (by have := hbw.size; omega))).trans z0
        have HB6 := Lib.hid hb61
        clear hp
        clear hst hdr hy ha qb hb6 hb6w hW7 hb61 qd hbw hbr z0
        go_upto_region 6 with (fail)
        refine wp_region_noPanic ?_
        go_region
        refine NoPanic.normal ?_
        have HBD := Lib.hid (show Below w.heap.size w (W6.drew).drew from (HB1.out.trans (HB6.out.mono HB1.out.size)).drew.drew)
        (try simp only [Exit.inBlock, Exit.then])
        go_upto_region 7 with (fail)
        refine wp_region_noPanic ?_
        go_region
        refine NoPanic.normal ?_
        (try simp only [Exit.inBlock, Exit.then])
        go_wp2
        go_ret2
        exact ⟨by rw [← HST.out]; rfl, HBD.out⟩
      · rw [if_neg hp] at hst
        have HST := Lib.hid (hst.symm.trans HRE.out)
        have qb := Rw.new wr #[.int .i64 y.pl, .int .i64 y.volts, .int .i64 y.siem, .int .i64 y.limit] 58
        have hb6 := (Below.refl wr.heap.size wr).alloc (Nat.le_refl _) (.cells #[.int .i64 y.pl, .int .i64 y.volts, .int .i64 y.siem, .int .i64 y.limit] 58)
        obtain ⟨W6, hW6⟩ : ∃ z, wr.alloc (.cells #[.int .i64 y.pl, .int .i64 y.volts, .int .i64 y.siem, .int .i64 y.limit] 58) = z := ⟨_, rfl⟩
        rw [hW6] at qb hb6
        have hb6w := hbw.trans (hb6.mono hbw.size)
        have hW7 := HW.out _ hb6w
        have m6 := hW7.1.cell; have e6 := hW7.2.2; have q6 := qb.cell
        have hb61 := hbr.trans (hb6.mono hbr.size)
        have qd := HQ.out.below hb61 HQ.out.lt
        have d6 := qd.cell
        have z6 : W6.cell? ⟨b3, o3 + j, none⟩ = some (.int .i64 a) := (World.cell?_of_block (a := ⟨b3, o3 + j, none⟩) (hb6.5 b3 (by have := hbw.size; omega))).trans z0
        have HB6 := Lib.hid hb61
        have hpe : (y.pl == (c : Int)) = false := by simp [hp]
        clear hst hdr hy ha qb hb6 hb6w hW7 hb61 qd hbw hbr z0
        go_upto_region 6 with (fail)
        refine wp_region_noPanic ?_
        go_region
        refine NoPanic.normal ?_
        have HBD := Lib.hid (show Below W1.heap.size W1 W6.drew from HB6.out.drew)
        (try simp only [Exit.inBlock, Exit.then])
        go_wp2
        refine ⟨⟨j + 1, by have := HJ.out; omega, by simp, HST.out, HBD.out⟩, ?_⟩
        exact round_less HJ.out
    · have hji : ¬ (j : Int) < (an : Int) := by omega
      have hdr : on.drop j = [] := List.drop_of_length_le (by have := HON.out; omega)
      have HST := Lib.hid (show ampR (c : Int) am d on 0 = (0, 1) from by rw [← HRE.out, hdr]; rfl)
      have HBE := Lib.hid (HB1.out.trans (hbr.mono HB1.out.size))
      clear hbr hdr
      go_wp2
      go_ret2
      exact ⟨by rw [HST.out]; rfl, HBE.out⟩
end Go.Proofs.YtbnfnpakibkboaaGreat

namespace Go.Proofs.YtbnfnpakibkboaaGreat
set_option linter.unusedVariables false
set_option linter.unusedSimpArgs false
open Go.RowKit

theorem info55 : (Tryz.prog.info? 55).map (fun i => (i.zero, i.size, i.bytes)) = some (some (.agg #[.int .i64 0, .int .i64 0]), 2, 16) := by kernel_rfl
theorem made_two (m : Nat) : madeCells (Value.agg #[.int .i64 0, .int .i64 0]).cells m = madeCells #[.int .i64 0] m := by
  unfold madeCells
  apply Array.ext
  · simp
  · intro i h1 h2
    simp only [Array.getElem_map, Array.getElem_range]
    show (#[Value.int IntKind.i64 0, Value.int IntKind.i64 0] : Array Value)[i % 2]! = (#[Value.int IntKind.i64 0] : Array Value)[i % 1]!
    rw [Nat.mod_one]
    rcases Nat.mod_two_eq_zero_or_one i with e | e <;> rw [e] <;> rfl
def cellQ (Q : Nat → Int × Int) (k : Nat) : Value := ((fQ (Q (k / 2)))[k % 2]?).getD undef
def QI (Q : Nat → Int × Int) (c m g : Nat) (w wr : World) : Prop := Rf wr g 55 m (fun k => if k < c * 2 then cellQ Q k else .int .i64 0) ∧ Below w.heap.size w wr
set_option maxRecDepth 100000 in
set_option maxHeartbeats 8000000 in
theorem volts_any (sb : Nat) (x : SL) (w : World) (hr : Rw w sb 110 (fSet x)) (hcn0 : x.N ≤ 1000) (nu de : Nat → Int)
    (hV : ∀ c, c < x.N → ∀ wx, Below w.heap.size w wx → Calls Tryz.prog 78 #[.pointer (some ⟨sb, 0, none⟩), .int .i64 (c : Int)] wx fun e w' => e = .returned (.tuple #[.int .i64 (nu c), .int .i64 (de c)]) ∧ Below wx.heap.size wx w')
    (hb : ∀ c, c < x.N → 0 < de c ∧ de c ≤ 4000000000000000000 ∧ -4000000000000000000 ≤ nu c ∧ nu c ≤ 4000000000000000000) :
    Calls Tryz.prog 53 #[.pointer (some ⟨sb, 0, none⟩)] w fun e w' => e = .returned (.slice (some ⟨w.heap.size, 0, none⟩) x.N x.N) ∧ Rf w' w.heap.size 55 (x.N * 2) (cellQ (fun c => (nu c / (Int.gcd (nu c) (de c) : Int), de c / (Int.gcd (nu c) (de c) : Int)))) ∧ Below w.heap.size w w' := by
  obtain ⟨i5, hi5, hz50, hz51, hz52⟩ := info_parts info55
  have hmk := run_mk (P := Tryz.prog) 43 55 i5 _ 2 Tryz.underlying43 hi5 hz50 hz51 (x.N : Int) (x.N : Int) x.N x.N rfl rfl (by omega) (by rw [hz52]; omega) (by omega) w
  have hmr : madeCells (Value.agg #[.int .i64 0, .int .i64 0]).cells (x.N * 2) = madeCells #[.int .i64 0] (x.N * 2) := made_two _
  rw [hmr] at hmk
  have hR := Rf.made1 w (.int .i64 0) (x.N * 2) 55
  have hbA := (Below.refl w.heap.size w).alloc (Nat.le_refl _) (.cells (madeCells #[.int .i64 0] (x.N * 2)) 55)
  obtain ⟨W1, hW1⟩ : ∃ z, w.alloc (.cells (madeCells #[.int .i64 0] (x.N * 2)) 55) = z := ⟨_, rfl⟩
  rw [hW1] at hmk hR hbA
  obtain ⟨g, hg⟩ : ∃ g, w.heap.size = g := ⟨_, rfl⟩
  have HG := Lib.hid hg
  rw [hg] at hmk hR
  have m := (show Rw w sb 110 #[.int .i64 (x.N : Int), .slice x.wires.A x.wires.n x.wires.c, .slice x.feeds.A x.feeds.n x.feeds.c, .int .i64 x.least, .slice x.fon.A x.fon.n x.fon.c, .slice x.sw.A x.sw.n x.sw.c, .slice x.loads.A x.loads.n x.loads.c, .slice x.run.A x.run.n x.run.c, .slice x.parts.A x.parts.n x.parts.c, .slice x.pof.A x.pof.n x.pof.c, .slice (some ⟨x.cb, 0, none⟩) x.np x.np, .slice (some ⟨x.vb, 0, none⟩) x.np x.np, .slice (some ⟨x.kb, 0, none⟩) x.np x.np] from hr).cell
  have HR := Lib.hid hR; have HBA := Lib.hid hbA; have HV := Lib.hid hV; have HB := Lib.hid hb
  clear hW1 hR hbA hV hb hr hmr
  rw [hg]
  clear hg
  go_enter Tryz.func53, Tryz.ntmps53
  go_wp2
  clear hmk m
  obtain ⟨Q, hQ⟩ : ∃ Q : Nat → Int × Int, (fun c => (nu c / (Int.gcd (nu c) (de c) : Int), de c / (Int.gcd (nu c) (de c) : Int))) = Q := ⟨_, rfl⟩
  have HQ := Lib.hid hQ
  clear hQ
  go_loopw [13] (fun s wr => ∃ c : Nat, c ≤ x.N ∧ s = .int .i64 (c : Int) ∧ QI Q c (x.N * 2) g w wr) (fun s _ => x.N - (intOf s).toNat)
  case atStart => exact ⟨0, Nat.zero_le _, rfl, HR.out.congr (fun k _ => by rw [if_neg (by omega)]), HBA.out⟩
  case round =>
    obtain ⟨c, hc, rfl, hq, hbr⟩ := hrel
    have HQI := Lib.hid hq; have HBR := Lib.hid hbr
    by_cases hcn : c < x.N
    · have hci : (c : Int) < (x.N : Int) := by omega
      have hc0 : (0 : Int) ≤ (c : Int) := by omega
      have hbb := HB.out c hcn
      have HCV := Lib.hid (HV.out c hcn wr hbr)
      have HCF := Lib.hid (fun wx => frac_any (nu c) (de c) wx hbb.1 hbb.2.1 hbb.2.2.1 hbb.2.2.2)
      have HQC := Lib.hid (show ((nu c / (Int.gcd (nu c) (de c) : Int)), (de c / (Int.gcd (nu c) (de c) : Int))) = Q c from by rw [← HQ.out])
      obtain ⟨p, hp⟩ : ∃ p, nu c / (Int.gcd (nu c) (de c) : Int) = p := ⟨_, rfl⟩
      obtain ⟨q, hqq⟩ : ∃ p, de c / (Int.gcd (nu c) (de c) : Int) = p := ⟨_, rfl⟩
      rw [hp, hqq] at HCF HQC
      have HCN := Lib.hid hcn
      clear hq hbr hbb hp hqq hcn
      go_wp2_with fail
      (with_reducible refine (HCV.out).mono ?_)
      rintro e w3 ⟨rfl, hb3⟩
      go_wp2_with fail
      (with_reducible refine (HCF.out _).mono ?_)
      rintro e w4 ⟨rfl, hb4⟩
      have hb34 := hb3.trans (hb4.mono hb3.size)
      have hq4 := HQI.out.below hb34 HQI.out.lt
      have c0 := hq4.cell (show c * 2 < x.N * 2 by have := HCN.out; omega)
      have c1 := hq4.cell (show c * 2 + 1 < x.N * 2 by have := HCN.out; omega)
      have f0 := hq4.frozen (c * 2); have f1 := hq4.frozen (c * 2 + 1)
      have HN := Lib.hid (show QI Q (c + 1) (x.N * 2) g w ((w4.setCell ⟨g, c * 2, none⟩ (.int .i64 p)).setCell ⟨g, c * 2 + 1, none⟩ (.int .i64 q)) from
        ⟨(((hq4.set (c * 2) (.int .i64 p)).set (c * 2 + 1) (.int .i64 q))).congr (fun k _ => by
          have hqc := HQC.out
          by_cases e1 : k = c * 2 + 1
          · rw [if_pos e1, if_pos (by omega)]; unfold cellQ; rw [e1, show (c * 2 + 1) / 2 = c from by omega, ← hqc, show (c * 2 + 1) % 2 = 1 from by omega]; rfl
          · rw [if_neg e1]
            by_cases e2 : k = c * 2
            · rw [if_pos e2, if_pos (by omega)]; unfold cellQ; rw [e2, show (c * 2) / 2 = c from by omega, ← hqc, show (c * 2) % 2 = 0 from by omega]; rfl
            · rw [if_neg e2]
              by_cases e3 : k < c * 2
              · rw [if_pos e3, if_pos (by omega)]
              · rw [if_neg e3, if_neg (by omega)]),
         (((HBR.out.trans (hb34.mono HBR.out.size)).setCell (p := ⟨g, c * 2, none⟩) (by have := HG.out; show w.heap.size ≤ g; omega) _).setCell (p := ⟨g, c * 2 + 1, none⟩) (by have := HG.out; show w.heap.size ≤ g; omega) _)⟩)
      clear hb3 hb4 hb34 hq4
      go_wp2
      refine ⟨⟨c + 1, by have := HCN.out; omega, by simp, HN.out⟩, ?_⟩
      exact round_less HCN.out
    · have hci : ¬ (c : Int) < (x.N : Int) := by omega
      obtain rfl : c = x.N := by omega
      have HE := Lib.hid (show Rf wr g 55 (x.N * 2) (cellQ Q) from hq.congr (fun k hk => by rw [if_pos hk]))
      have HBE := Lib.hid hbr
      clear hq hbr
      go_wp2
      go_ret
      exact ⟨rfl, by rw [HQ.out]; exact HE.out, by have h := HBE.out; rw [HG.out] at h; exact h⟩
set_option maxRecDepth 100000 in
set_option maxHeartbeats 8000000 in
theorem amps_any (sb : Nat) (x : SL) (w : World) (hr : Rw w sb 110 (fSet x)) (hcn0 : x.feeds.n ≤ 1000) (nu de : Nat → Int)
    (hV : ∀ c, c < x.feeds.n → ∀ wx, Below w.heap.size w wx → Calls Tryz.prog 79 #[.pointer (some ⟨sb, 0, none⟩), .int .i64 (c : Int)] wx fun e w' => e = .returned (.tuple #[.int .i64 (nu c), .int .i64 (de c)]) ∧ Below wx.heap.size wx w')
    (hb : ∀ c, c < x.feeds.n → 0 < de c ∧ de c ≤ 4000000000000000000 ∧ -4000000000000000000 ≤ nu c ∧ nu c ≤ 4000000000000000000) :
    Calls Tryz.prog 54 #[.pointer (some ⟨sb, 0, none⟩)] w fun e w' => e = .returned (.slice (some ⟨w.heap.size, 0, none⟩) x.feeds.n x.feeds.n) ∧ Rf w' w.heap.size 55 (x.feeds.n * 2) (cellQ (fun c => (nu c / (Int.gcd (nu c) (de c) : Int), de c / (Int.gcd (nu c) (de c) : Int)))) ∧ Below w.heap.size w w' := by
  obtain ⟨i5, hi5, hz50, hz51, hz52⟩ := info_parts info55
  have hmk := run_mk (P := Tryz.prog) 43 55 i5 _ 2 Tryz.underlying43 hi5 hz50 hz51 (x.feeds.n : Int) (x.feeds.n : Int) x.feeds.n x.feeds.n rfl rfl (by omega) (by rw [hz52]; omega) (by omega) w
  have hmr : madeCells (Value.agg #[.int .i64 0, .int .i64 0]).cells (x.feeds.n * 2) = madeCells #[.int .i64 0] (x.feeds.n * 2) := made_two _
  rw [hmr] at hmk
  have hR := Rf.made1 w (.int .i64 0) (x.feeds.n * 2) 55
  have hbA := (Below.refl w.heap.size w).alloc (Nat.le_refl _) (.cells (madeCells #[.int .i64 0] (x.feeds.n * 2)) 55)
  obtain ⟨W1, hW1⟩ : ∃ z, w.alloc (.cells (madeCells #[.int .i64 0] (x.feeds.n * 2)) 55) = z := ⟨_, rfl⟩
  rw [hW1] at hmk hR hbA
  obtain ⟨g, hg⟩ : ∃ g, w.heap.size = g := ⟨_, rfl⟩
  have HG := Lib.hid hg
  rw [hg] at hmk hR
  have m := (show Rw w sb 110 #[.int .i64 (x.N : Int), .slice x.wires.A x.wires.n x.wires.c, .slice x.feeds.A x.feeds.n x.feeds.c, .int .i64 x.least, .slice x.fon.A x.fon.n x.fon.c, .slice x.sw.A x.sw.n x.sw.c, .slice x.loads.A x.loads.n x.loads.c, .slice x.run.A x.run.n x.run.c, .slice x.parts.A x.parts.n x.parts.c, .slice x.pof.A x.pof.n x.pof.c, .slice (some ⟨x.cb, 0, none⟩) x.np x.np, .slice (some ⟨x.vb, 0, none⟩) x.np x.np, .slice (some ⟨x.kb, 0, none⟩) x.np x.np] from hr).cell
  have HR := Lib.hid hR; have HBA := Lib.hid hbA; have HV := Lib.hid hV; have HB := Lib.hid hb
  clear hW1 hR hbA hV hb hr hmr
  rw [hg]
  clear hg
  go_enter Tryz.func54, Tryz.ntmps54
  go_wp2
  clear hmk m
  obtain ⟨Q, hQ⟩ : ∃ Q : Nat → Int × Int, (fun c => (nu c / (Int.gcd (nu c) (de c) : Int), de c / (Int.gcd (nu c) (de c) : Int))) = Q := ⟨_, rfl⟩
  have HQ := Lib.hid hQ
  clear hQ
  go_loopw [14] (fun s wr => ∃ c : Nat, c ≤ x.feeds.n ∧ s = .int .i64 (c : Int) ∧ QI Q c (x.feeds.n * 2) g w wr) (fun s _ => x.feeds.n - (intOf s).toNat)
  case atStart => exact ⟨0, Nat.zero_le _, rfl, HR.out.congr (fun k _ => by rw [if_neg (by omega)]), HBA.out⟩
  case round =>
    obtain ⟨c, hc, rfl, hq, hbr⟩ := hrel
    have HQI := Lib.hid hq; have HBR := Lib.hid hbr
    by_cases hcn : c < x.feeds.n
    · have hci : (c : Int) < (x.feeds.n : Int) := by omega
      have hc0 : (0 : Int) ≤ (c : Int) := by omega
      have hbb := HB.out c hcn
      have HCV := Lib.hid (HV.out c hcn wr hbr)
      have HCF := Lib.hid (fun wx => frac_any (nu c) (de c) wx hbb.1 hbb.2.1 hbb.2.2.1 hbb.2.2.2)
      have HQC := Lib.hid (show ((nu c / (Int.gcd (nu c) (de c) : Int)), (de c / (Int.gcd (nu c) (de c) : Int))) = Q c from by rw [← HQ.out])
      obtain ⟨p, hp⟩ : ∃ p, nu c / (Int.gcd (nu c) (de c) : Int) = p := ⟨_, rfl⟩
      obtain ⟨q, hqq⟩ : ∃ p, de c / (Int.gcd (nu c) (de c) : Int) = p := ⟨_, rfl⟩
      rw [hp, hqq] at HCF HQC
      have HCN := Lib.hid hcn
      clear hq hbr hbb hp hqq hcn
      go_wp2_with fail
      (with_reducible refine (HCV.out).mono ?_)
      rintro e w3 ⟨rfl, hb3⟩
      go_wp2_with fail
      (with_reducible refine (HCF.out _).mono ?_)
      rintro e w4 ⟨rfl, hb4⟩
      have hb34 := hb3.trans (hb4.mono hb3.size)
      have hq4 := HQI.out.below hb34 HQI.out.lt
      have c0 := hq4.cell (show c * 2 < x.feeds.n * 2 by have := HCN.out; omega)
      have c1 := hq4.cell (show c * 2 + 1 < x.feeds.n * 2 by have := HCN.out; omega)
      have f0 := hq4.frozen (c * 2); have f1 := hq4.frozen (c * 2 + 1)
      have HN := Lib.hid (show QI Q (c + 1) (x.feeds.n * 2) g w ((w4.setCell ⟨g, c * 2, none⟩ (.int .i64 p)).setCell ⟨g, c * 2 + 1, none⟩ (.int .i64 q)) from
        ⟨(((hq4.set (c * 2) (.int .i64 p)).set (c * 2 + 1) (.int .i64 q))).congr (fun k _ => by
          have hqc := HQC.out
          by_cases e1 : k = c * 2 + 1
          · rw [if_pos e1, if_pos (by omega)]; unfold cellQ; rw [e1, show (c * 2 + 1) / 2 = c from by omega, ← hqc, show (c * 2 + 1) % 2 = 1 from by omega]; rfl
          · rw [if_neg e1]
            by_cases e2 : k = c * 2
            · rw [if_pos e2, if_pos (by omega)]; unfold cellQ; rw [e2, show (c * 2) / 2 = c from by omega, ← hqc, show (c * 2) % 2 = 0 from by omega]; rfl
            · rw [if_neg e2]
              by_cases e3 : k < c * 2
              · rw [if_pos e3, if_pos (by omega)]
              · rw [if_neg e3, if_neg (by omega)]),
         (((HBR.out.trans (hb34.mono HBR.out.size)).setCell (p := ⟨g, c * 2, none⟩) (by have := HG.out; show w.heap.size ≤ g; omega) _).setCell (p := ⟨g, c * 2 + 1, none⟩) (by have := HG.out; show w.heap.size ≤ g; omega) _)⟩)
      clear hb3 hb4 hb34 hq4
      go_wp2
      refine ⟨⟨c + 1, by have := HCN.out; omega, by simp, HN.out⟩, ?_⟩
      exact round_less HCN.out
    · have hci : ¬ (c : Int) < (x.feeds.n : Int) := by omega
      obtain rfl : c = x.feeds.n := by omega
      have HE := Lib.hid (show Rf wr g 55 (x.feeds.n * 2) (cellQ Q) from hq.congr (fun k hk => by rw [if_pos hk]))
      have HBE := Lib.hid hbr
      clear hq hbr
      go_wp2
      go_ret
      exact ⟨rfl, by rw [HQ.out]; exact HE.out, by have h := HBE.out; rw [HG.out] at h; exact h⟩
end Go.Proofs.YtbnfnpakibkboaaGreat

namespace Go.Proofs.YtbnfnpakibkboaaGreat
set_option linter.unusedVariables false
set_option linter.unusedSimpArgs false
open Go.RowKit

theorem rf_set5 {w : World} {cb n : Nat} {C : Nat → Ci} (h : Rf w cb 134 (n * 5) (cell5 C)) (i : Nat) (X : Ci) :
    Rf (((((w.setCell ⟨cb, i * 5, none⟩ X.s1.v).setCell ⟨cb, i * 5 + 1, none⟩ X.s2.v).setCell ⟨cb, i * 5 + 2, none⟩ X.s3.v).setCell ⟨cb, i * 5 + 3, none⟩ X.so.v).setCell ⟨cb, i * 5 + 4, none⟩ X.sk.v) cb 134 (n * 5) (cell5 (fun u => if u = i then X else C u)) := by
  refine (((((h.set (i * 5) X.s1.v).set (i * 5 + 1) X.s2.v).set (i * 5 + 2) X.s3.v).set (i * 5 + 3) X.so.v).set (i * 5 + 4) X.sk.v).congr (fun k _ => ?_)
  have hX : ∀ j, j < 5 → cell5 (fun u => if u = i then X else C u) (i * 5 + j) = ((fCi X)[j]?).getD undef := fun j hj => by rw [cell5_at _ i j hj, if_pos rfl]
  by_cases e4 : k = i * 5 + 4
  · subst e4; rw [if_pos rfl, hX 4 (by omega)]; rfl
  · rw [if_neg e4]
    by_cases e3 : k = i * 5 + 3
    · subst e3; rw [if_pos rfl, hX 3 (by omega)]; rfl
    · rw [if_neg e3]
      by_cases e2 : k = i * 5 + 2
      · subst e2; rw [if_pos rfl, hX 2 (by omega)]; rfl
      · rw [if_neg e2]
        by_cases e1 : k = i * 5 + 1
        · subst e1; rw [if_pos rfl, hX 1 (by omega)]; rfl
        · rw [if_neg e1]
          by_cases e0 : k = i * 5
          · have h0 := hX 0 (by omega)
            rw [Nat.add_zero] at h0
            rw [if_pos e0, e0, h0]; rfl
          · rw [if_neg e0]
            unfold cell5
            show _ = ((fCi (if k / 5 = i then X else C (k / 5)))[k % 5]?).getD undef
            rw [if_neg (by omega)]
theorem rf_set3 {w : World} {cb n : Nat} {C : Nat → Vi} (h : Rf w cb 136 (n * 3) (cell3 C)) (i : Nat) (X : Vi) :
    Rf (((w.setCell ⟨cb, i * 3, none⟩ X.sv.v).setCell ⟨cb, i * 3 + 1, none⟩ X.sa.v).setCell ⟨cb, i * 3 + 2, none⟩ (.int .i64 X.d)) cb 136 (n * 3) (cell3 (fun u => if u = i then X else C u)) := by
  refine (((h.set (i * 3) X.sv.v).set (i * 3 + 1) X.sa.v).set (i * 3 + 2) (.int .i64 X.d)).congr (fun k _ => ?_)
  have hX : ∀ j, j < 3 → cell3 (fun u => if u = i then X else C u) (i * 3 + j) = ((fVi X)[j]?).getD undef := fun j hj => by rw [cell3_at _ i j hj, if_pos rfl]
  by_cases e2 : k = i * 3 + 2
  · subst e2; rw [if_pos rfl, hX 2 (by omega)]; rfl
  · rw [if_neg e2]
    by_cases e1 : k = i * 3 + 1
    · subst e1; rw [if_pos rfl, hX 1 (by omega)]; rfl
    · rw [if_neg e1]
      by_cases e0 : k = i * 3
      · have h0 := hX 0 (by omega)
        rw [Nat.add_zero] at h0
        rw [if_pos e0, e0, h0]; rfl
      · rw [if_neg e0]
        unfold cell3
        show _ = ((fVi (if k / 3 = i then X else C (k / 3)))[k % 3]?).getD undef
        rw [if_neg (by omega)]
/-- five cells are set: other blocks stay -/
theorem five_far {w : World} {k o : Nat} {v0 v1 v2 v3 v4 : Value} {j : Nat} (hj : j ≠ k) :
    (((((w.setCell ⟨k, o, none⟩ v0).setCell ⟨k, o + 1, none⟩ v1).setCell ⟨k, o + 2, none⟩ v2).setCell ⟨k, o + 3, none⟩ v3).setCell ⟨k, o + 4, none⟩ v4).heap[j]? = w.heap[j]? :=
  (Below.heap_setCell _ _ _ j hj).trans ((Below.heap_setCell _ _ _ j hj).trans ((Below.heap_setCell _ _ _ j hj).trans ((Below.heap_setCell _ _ _ j hj).trans (Below.heap_setCell _ _ _ j hj))))
theorem three_far {w : World} {k o : Nat} {v0 v1 v2 : Value} {j : Nat} (hj : j ≠ k) : (((w.setCell ⟨k, o, none⟩ v0).setCell ⟨k, o + 1, none⟩ v1).setCell ⟨k, o + 2, none⟩ v2).heap[j]? = w.heap[j]? :=
  (Below.heap_setCell _ _ _ j hj).trans ((Below.heap_setCell _ _ _ j hj).trans (Below.heap_setCell _ _ _ j hj))
/-- the four blocks of a settling are different -/
structure StNe (sb : Nat) (x : SL) : Prop where
  c : x.cb ≠ sb
  v : x.vb ≠ sb
  k : x.kb ≠ sb
  cv : x.cb ≠ x.vb
  ck : x.cb ≠ x.kb
  vk : x.vb ≠ x.kb
section
variable {w : World} {sb : Nat} {x : SL} {C : Nat → Ci} {V : Nat → Vi} {K : Nat → Bool}
theorem StR.setC (h : StR w sb x C V K) (hne : StNe sb x) (i : Nat) (X : Ci) :
    StR (((((w.setCell ⟨x.cb, i * 5, none⟩ X.s1.v).setCell ⟨x.cb, i * 5 + 1, none⟩ X.s2.v).setCell ⟨x.cb, i * 5 + 2, none⟩ X.s3.v).setCell ⟨x.cb, i * 5 + 3, none⟩ X.so.v).setCell ⟨x.cb, i * 5 + 4, none⟩ X.sk.v) sb x (fun u => if u = i then X else C u) V K :=
  ⟨(five_far (Ne.symm hne.c)).trans h.r, rf_set5 h.c i X, (five_far (Ne.symm hne.cv)).trans h.v, (five_far (Ne.symm hne.ck)).trans h.k⟩
theorem StR.setV (h : StR w sb x C V K) (hne : StNe sb x) (i : Nat) (X : Vi) :
    StR (((w.setCell ⟨x.vb, i * 3, none⟩ X.sv.v).setCell ⟨x.vb, i * 3 + 1, none⟩ X.sa.v).setCell ⟨x.vb, i * 3 + 2, none⟩ (.int .i64 X.d)) sb x C (fun u => if u = i then X else V u) K :=
  ⟨(three_far (Ne.symm hne.v)).trans h.r, (three_far hne.cv).trans h.c, rf_set3 h.v i X, (three_far (Ne.symm hne.vk)).trans h.k⟩
theorem StR.setK (h : StR w sb x C V K) (hne : StNe sb x) (i : Nat) (b : Bool) : StR (w.setCell ⟨x.kb, i, none⟩ (.bool b)) sb x C V (fun u => if u = i then b else K u) :=
  ⟨(Below.heap_setCell _ _ _ _ (Ne.symm hne.k)).trans h.r, (Below.heap_setCell _ _ _ _ hne.ck).trans h.c, (Below.heap_setCell _ _ _ _ hne.vk).trans h.v, (h.k.set i (.bool b)).congr (fun k _ => by
    by_cases e : k = i
    · rw [if_pos e, if_pos e]
    · rw [if_neg e, if_neg e])⟩
end
/-- the loads that run -/
def runL (ls : List Lv) (run : List Bool) (k : Nat) : List Lv := (((ls.zip run).take k).filter (fun p => p.2)).map (·.1)
theorem runL_succ {ls : List Lv} {run : List Bool} {k : Nat} {x : Lv} {b : Bool} (h1 : ls[k]? = some x) (h2 : run[k]? = some b) : runL ls run (k + 1) = runL ls run k ++ (if b then [x] else []) := by
  unfold runL
  obtain ⟨k1, e1⟩ := List.getElem?_eq_some_iff.1 h1
  obtain ⟨k2, e2⟩ := List.getElem?_eq_some_iff.1 h2
  have hk : k < (ls.zip run).length := by rw [List.length_zip]; omega
  rw [List.take_succ_eq_append_getElem hk, List.filter_append, List.map_append, List.getElem_zip, e1, e2]
  cases b <;> simp
end Go.Proofs.YtbnfnpakibkboaaGreat

namespace Go.Proofs.YtbnfnpakibkboaaGreat
set_option linter.unusedVariables false
set_option linter.unusedSimpArgs false
open Go.RowKit

theorem feedsB_at {N : Nat} {fs : List Fv} (h : feedsB N fs = true) {x : Fv} (hx : x ∈ fs) : 0 ≤ x.pl ∧ x.pl < N ∧ 1 ≤ x.volts ∧ x.volts ≤ 1000 ∧ 1 ≤ x.siem ∧ x.siem ≤ 4 ∧ 0 ≤ x.limit ∧ x.limit ≤ 2000 := by
  unfold feedsB at h
  simp only [Bool.and_eq_true, List.all_eq_true, decide_eq_true_eq] at h
  have := h.2.1 x hx
  unfold feedB inB at this
  simp only [Bool.and_eq_true, decide_eq_true_eq] at this
  omega
theorem feedsB_nd {N : Nat} {fs : List Fv} (h : feedsB N fs = true) : (fs.map Fv.pl).Pairwise (fun x y => x ≠ y) ∧ fs.length ≤ 12 := by
  unfold feedsB distB at h
  simp only [Bool.and_eq_true, decide_eq_true_eq] at h
  exact ⟨h.2.2, h.1⟩
theorem loadsB_at {N : Nat} {ls : List Lv} (h : loadsB N ls = true) {x : Lv} (hx : x ∈ ls) : 0 ≤ x.pl ∧ x.pl < N ∧ -40 ≤ x.units ∧ x.units ≤ 40 ∧ 0 ≤ x.rank ∧ x.rank ≤ 100 := by
  unfold loadsB at h
  simp only [Bool.and_eq_true, List.all_eq_true] at h
  have := h.1 x hx
  unfold loadB inB at this
  simp only [Bool.and_eq_true, decide_eq_true_eq] at this
  omega
theorem loadsB_nd {N : Nat} {ls : List Lv} (h : loadsB N ls = true) : (ls.map Lv.pl).Pairwise (fun x y => x ≠ y) := by
  unfold loadsB distB at h
  simp only [Bool.and_eq_true, decide_eq_true_eq] at h
  exact h.2
theorem loadsB_len {N : Nat} {ls : List Lv} (h : loadsB N ls = true) : ls.length ≤ N := by
  have h1 : (ls.map (fun x => x.pl.toNat)).Nodup := by
    have := loadsB_nd h
    rw [List.pairwise_map] at this
    unfold List.Nodup
    rw [List.pairwise_map]
    refine List.Pairwise.imp_of_mem (fun {a b} ha hb hab e => ?_) this
    have := loadsB_at h ha; have := loadsB_at h hb; omega
  have := nodup_len (N := N) h1 (fun x hx => by
    obtain ⟨y, hy, rfl⟩ := List.mem_map.1 hx
    have := loadsB_at h hy; omega)
  simpa using this
theorem at_idx? {α : Type} [DecidableEq α] {l : List α} {x : α} (h : x ∈ l) : l[l.idxOf x]? = some x := by
  induction l with
  | nil => cases h
  | cons a l ih =>
    by_cases e : a = x
    · subst e; simp
    · have hm : x ∈ l := by cases h with | head => exact absurd rfl e | tail _ q => exact q
      have e1 : (a :: l).idxOf x = l.idxOf x + 1 := by simp [List.idxOf_cons, beq_eq_false_iff_ne.2 e]
      rw [e1, List.getElem?_cons_succ]
      exact ih hm
theorem at_idx {α : Type} [DecidableEq α] {l : List α} {x : α} (h : x ∈ l) : ∃ hi : l.idxOf x < l.length, l[l.idxOf x] = x := List.getElem?_eq_some_iff.1 (at_idx? h)
theorem idx_at {α : Type} [DecidableEq α] {l : List α} (hn : l.Nodup) {i : Nat} (hi : i < l.length) : l.idxOf l[i] = i := by
  obtain ⟨h1, h2⟩ := at_idx (List.getElem_mem hi)
  rcases Nat.lt_trichotomy (l.idxOf l[i]) i with q | q | q
  · exact absurd h2 (List.pairwise_iff_getElem.1 hn _ _ h1 hi q)
  · exact q
  · exact absurd h2.symm (List.pairwise_iff_getElem.1 hn _ _ hi h1 q)
theorem idx_inj {α : Type} [DecidableEq α] {l : List α} {x y : α} (hx : x ∈ l) (hy : y ∈ l) (e : l.idxOf x = l.idxOf y) : x = y := by
  obtain ⟨h1, h2⟩ := at_idx hx; obtain ⟨h3, h4⟩ := at_idx hy
  rw [← h2, ← h4]; congr 1
theorem nI_mem {ns : List Nat} {c : Nat} : (c : Int) ∈ nI ns ↔ c ∈ ns := by
  unfold nI
  rw [List.mem_map]
  exact ⟨fun ⟨a, h, e⟩ => by have : a = c := by omega
                             exact this ▸ h, fun h => ⟨c, h, rfl⟩⟩
theorem nI_nd {ns : List Nat} (h : ns.Nodup) : (nI ns).Nodup := by
  unfold nI List.Nodup
  rw [List.pairwise_map]
  exact List.Pairwise.imp (fun {a b} hab e => hab (by omega)) h
theorem nI_len (ns : List Nat) : (nI ns).length = ns.length := by simp [nI]
/-- a grid's wires as they are, and what is loaded -/
structure Zs where
  N : Nat
  g : Gv
  sw : List Bool
  ls : List Lv
structure Zs.Ok (z : Zs) : Prop where
  gn : z.g.nodes = z.N
  n1 : 1 ≤ z.N
  n40 : z.N ≤ 40
  le0 : 0 ≤ z.g.least
  le1 : z.g.least ≤ 1000
  wb : wiresB z.N z.g.wires = true
  fb : feedsB z.N z.g.feeds = true
  sl : z.sw.length = z.g.wires.length
  lb : loadsB z.N z.ls = true
  sm : smallP (partsL (onP z.g.wires z.sw) z.N) = true
def Zs.pr (z : Zs) : List (Nat × Nat) := onP z.g.wires z.sw
def Zs.la (z : Zs) (c : Nat) : Nat := labs z.pr z.N c
def Zs.rt (z : Zs) : List Nat := (List.range z.N).filter (fun i => z.la i == i)
def Zs.ps (z : Zs) : List (List Nat) := partsL z.pr z.N
def Zs.np (z : Zs) : Nat := z.rt.length
def Zs.nd (z : Zs) (i : Nat) : List Nat := (z.ps[i]?).getD []
def Zs.pof (z : Zs) (c : Nat) : Nat := z.rt.idxOf (z.la c)
def Zs.pv (z : Zs) (i : Nat) : Pv := partV z.g z.sw (z.nd i)
def Zs.on (z : Zs) (fon : List Bool) (i : Nat) : List Fv := (onV z.g.feeds fon (z.pv i).feeds).map (fvAt z.g.feeds)
def Zs.tk (z : Zs) (run : List Bool) (i : Nat) : Nat → Int := tkF (z.nd i) (runL z.ls run z.ls.length)
section
variable {z : Zs}
theorem Zs.ps_is : z.ps = z.rt.map (partL z.pr z.N) := rfl
theorem Zs.ps_len : z.ps.length = z.np := by rw [Zs.ps_is]; simp [Zs.np]
theorem Zs.np_le : z.np ≤ z.N := by
  unfold Zs.np Zs.rt
  have := List.length_filter_le (fun i => z.la i == i) (List.range z.N)
  simpa using this
theorem Zs.nd_is {i : Nat} (hi : i < z.rt.length) : z.nd i = partL z.pr z.N z.rt[i] := by
  unfold Zs.nd
  rw [Zs.ps_is, List.getElem?_map, List.getElem?_eq_getElem hi]; rfl
theorem Zs.rt_nd : z.rt.Nodup := (List.Nodup.sublist List.filter_sublist List.nodup_range)
theorem Zs.Ok.pl (h : z.Ok) : ∀ p ∈ z.pr, p.1 < z.N ∧ p.2 < z.N := onP_lt h.wb z.sw
theorem Zs.Ok.la_iff (h : z.Ok) (a b : Nat) : z.la a = z.la b ↔ Cn z.pr a b := labs_iff h.pl a b
theorem Zs.la_le (c : Nat) : z.la c ≤ c := labs_le _ _ _
theorem Zs.Ok.la_la (h : z.Ok) (c : Nat) : z.la (z.la c) = z.la c := (h.la_iff _ _).2 (labs_cn _ _ _).symm
theorem Zs.Ok.la_rt (h : z.Ok) {c : Nat} (hc : c < z.N) : z.la c ∈ z.rt := by
  unfold Zs.rt
  rw [List.mem_filter]
  refine ⟨List.mem_range.2 (Nat.lt_of_le_of_lt (Zs.la_le c) hc), ?_⟩
  simp [h.la_la c]
theorem Zs.Ok.pof_lt (h : z.Ok) {c : Nat} (hc : c < z.N) : z.pof c < z.np := List.idxOf_lt_length_iff.2 (h.la_rt hc)
theorem Zs.Ok.mem_nd (h : z.Ok) {i : Nat} (hi : i < z.np) (c : Nat) : c ∈ z.nd i ↔ c < z.N ∧ z.pof c = i := by
  rw [Zs.nd_is hi]
  unfold partL
  rw [List.mem_filter, List.mem_range]
  constructor
  · rintro ⟨h1, h2⟩
    refine ⟨h1, ?_⟩
    have e : z.la c = z.rt[i] := eq_of_beq h2
    unfold Zs.pof; rw [e]; exact idx_at Zs.rt_nd hi
  · rintro ⟨h1, h2⟩
    refine ⟨h1, ?_⟩
    obtain ⟨h3, h4⟩ := at_idx (h.la_rt h1)
    have : z.rt[i] = z.la c := by rw [← h4]; congr 1; exact h2.symm
    rw [this]; simp [Zs.la]
theorem Zs.Ok.own (h : z.Ok) {c : Nat} (hc : c < z.N) : c ∈ z.nd (z.pof c) := (h.mem_nd (h.pof_lt hc) c).2 ⟨hc, rfl⟩
theorem Zs.Ok.nd_asc (h : z.Ok) {i : Nat} (hi : i < z.np) : (z.nd i).Pairwise (· < ·) := by
  rw [Zs.nd_is hi]; exact range_asc _ _
theorem Zs.Ok.nd_nd (h : z.Ok) {i : Nat} (hi : i < z.np) : (z.nd i).Nodup := (h.nd_asc hi).imp (fun hab => Nat.ne_of_lt hab)
theorem Zs.Ok.nd_len (h : z.Ok) {i : Nat} (hi : i < z.np) : 1 ≤ (z.nd i).length ∧ (z.nd i).length ≤ 10 := by
  constructor
  · have hr : z.rt[i] ∈ z.rt := List.getElem_mem hi
    have hr2 := List.mem_filter.1 hr
    have hm : z.rt[i] ∈ z.nd i := (h.mem_nd hi _).2 ⟨List.mem_range.1 hr2.1, by
      have e : z.la z.rt[i] = z.rt[i] := by simpa using hr2.2
      unfold Zs.pof; rw [e]; exact idx_at Zs.rt_nd hi⟩
    exact List.length_pos_of_mem hm
  · have hs := h.sm
    unfold smallP at hs
    rw [List.all_eq_true] at hs
    have hm : z.nd i ∈ partsL (onP z.g.wires z.sw) z.N := by
      have e : z.nd i = z.ps[i]'(by rw [Zs.ps_len]; exact hi) := by
        unfold Zs.nd; rw [List.getElem?_eq_getElem (by rw [Zs.ps_len]; exact hi)]; rfl
      rw [e]; exact List.getElem_mem _
    simpa using hs _ hm
theorem Zs.Ok.nd_lt (h : z.Ok) {i : Nat} (hi : i < z.np) {c : Nat} (hc : c ∈ z.nd i) : c < z.N := ((h.mem_nd hi c).1 hc).1
theorem Zs.wire_mem {i : Nat} {x : Wv} : x ∈ (z.pv i).wires ↔ ∃ k : Nat, z.g.wires[k]? = some x ∧ z.sw[k]? = some true ∧ x.a ∈ nI (z.nd i) := by
  unfold Zs.pv partV wiresTo
  simp only [List.mem_map, List.mem_filter, Bool.and_eq_true, decide_eq_true_eq]
  constructor
  · rintro ⟨⟨u, b⟩, ⟨hm, hb, ha⟩, rfl⟩
    have hm2 := List.mem_of_mem_take hm
    obtain ⟨k, hk, hg⟩ := List.getElem_of_mem hm2
    rw [List.getElem_zip] at hg
    rw [List.length_zip] at hk
    injection hg with h1 h2
    refine ⟨k, ?_, ?_, ha⟩
    · rw [List.getElem?_eq_getElem (by omega), h1]
    · rw [List.getElem?_eq_getElem (by omega), h2]; simp only at hb; rw [hb]
  · rintro ⟨k, h1, h2, h3⟩
    obtain ⟨k1, e1⟩ := List.getElem?_eq_some_iff.1 h1
    obtain ⟨k2, e2⟩ := List.getElem?_eq_some_iff.1 h2
    refine ⟨(x, true), ⟨?_, rfl, h3⟩, rfl⟩
    rw [List.take_of_length_le (by rw [List.length_zip]; omega)]
    have hz : k < (z.g.wires.zip z.sw).length := by rw [List.length_zip]; omega
    have e : (z.g.wires.zip z.sw)[k] = (x, true) := by rw [List.getElem_zip, e1, e2]
    rw [← e]; exact List.getElem_mem hz
theorem Zs.Ok.wire (h : z.Ok) {i : Nat} (hi : i < z.np) {x : Wv} (hx : x ∈ (z.pv i).wires) :
    ∃ a b : Nat, x.a = a ∧ x.b = b ∧ a ∈ z.nd i ∧ b ∈ z.nd i ∧ (a, b) ∈ z.pr ∧ a ≠ b ∧ 1 ≤ x.s ∧ x.s ≤ 4 := by
  obtain ⟨k, h1, h2, h3⟩ := Zs.wire_mem.1 hx
  have hb := wiresB_at h.wb (List.mem_of_getElem? h1)
  have ea : x.a = (x.a.toNat : Int) := by omega
  have eb : x.b = (x.b.toNat : Int) := by omega
  have hp : (x.a.toNat, x.b.toNat) ∈ z.pr := onP_mem.2 ⟨k, x, h1, h2, rfl, rfl⟩
  have ha : x.a.toNat ∈ z.nd i := by rw [ea] at h3; exact nI_mem.1 h3
  have hab : z.la x.a.toNat = z.la x.b.toNat := (h.la_iff _ _).2 (Cn.one (.inl hp))
  have hbm : x.b.toNat ∈ z.nd i := (h.mem_nd hi _).2 ⟨by omega, by
    have := ((h.mem_nd hi _).1 ha).2
    unfold Zs.pof at this ⊢; rw [← hab]; exact this⟩
  exact ⟨_, _, ea, eb, ha, hbm, hp, by omega, hb.2.2.2.2.2.1, hb.2.2.2.2.2.2⟩
theorem Zs.wires_len (i : Nat) : (z.pv i).wires.length ≤ z.g.wires.length := wiresTo_len _ _ _ _
theorem wiresB_len {N : Nat} {ws : List Wv} (h : wiresB N ws = true) : ws.length ≤ 80 := by
  unfold wiresB at h; simp only [Bool.and_eq_true, decide_eq_true_eq] at h; exact h.1
theorem degI_filter (ws : List Wv) (k : Nat) : ((ws.filter (fun x => decide (x.a = (k : Int)) || decide (x.b = (k : Int)))).length : Int) ≤ degI ws k := by
  induction ws with
  | nil => simp [degI]
  | cons x ws ih =>
    have e : degI (x :: ws) k = dg x k + degI ws k := by simp [degI]
    have hd := dg_le x k
    rw [e, List.filter_cons]
    unfold dg at *
    split
    · rename_i hc
      rw [List.length_cons]
      simp only [Bool.or_eq_true, decide_eq_true_eq] at hc
      rcases hc with q | q
      · rw [if_pos q]; split <;> omega
      · rw [if_pos q]; split <;> omega
    · omega
theorem wiresTo_sub (ws : List Wv) (on : List Bool) (ns : List Nat) (k : Nat) : (wiresTo ws on ns k).Sublist ws := by
  unfold wiresTo
  have h1 : (((ws.zip on).take k).filter (fun p => p.2 && decide (p.1.a ∈ nI ns))).Sublist (ws.zip on) := List.filter_sublist.trans (List.take_sublist _ _)
  have h2 := h1.map (·.1)
  refine h2.trans ?_
  have : (ws.zip on).map (·.1) = ws.take on.length := by
    clear h1 h2
    induction ws generalizing on with
    | nil => simp
    | cons x ws ih => cases on with
      | nil => simp
      | cons y on => simp [ih]
  rw [this]; exact List.take_sublist _ _
theorem Zs.Ok.cir (h : z.Ok) {i : Nat} (hi : i < z.np) : CirOk (z.nd i).length (wiL (z.nd i) (z.pv i).wires) := by
  have hlen := h.nd_len hi
  have hnn := nI_nd (h.nd_nd hi)
  have idx : ∀ {c : Nat}, c ∈ z.nd i → (nI (z.nd i)).idxOf (c : Int) < (z.nd i).length := fun hc => by
    rw [← nI_len]; exact List.idxOf_lt_length_iff.2 (nI_mem.2 hc)
  refine ⟨hlen.1, ?_, ?_, ?_⟩
  · intro w hw
    unfold wiL at hw
    obtain ⟨x, hx, rfl⟩ := List.mem_map.1 hw
    obtain ⟨a, b, ea, eb, ha, hb, hp, hab, hs⟩ := h.wire hi hx
    simp only [ea, eb]
    refine ⟨idx ha, idx hb, fun e => hab ?_, hs⟩
    have := idx_inj (nI_mem.2 ha) (nI_mem.2 hb) e; omega
  · intro j hj
    unfold wiL
    rw [List.filter_map, List.length_map]
    have hwb := h.wb
    unfold wiresB at hwb
    simp only [Bool.and_eq_true, List.all_eq_true, decide_eq_true_eq] at hwb
    have hjm : (z.nd i)[j] ∈ z.nd i := List.getElem_mem hj
    have hd := hwb.2.2 _ (List.mem_range.2 (h.nd_lt hi hjm))
    have hf := degI_filter z.g.wires ((z.nd i)[j])
    have hk : ∀ (c : Nat), c ∈ z.nd i → (nI (z.nd i)).idxOf (c : Int) = j → c = (z.nd i)[j] := fun c hc e => by
      obtain ⟨h1, h2⟩ := at_idx (nI_mem.2 hc)
      have h3 : (nI (z.nd i))[j]'(by rw [nI_len]; exact hj) = (c : Int) := by rw [← h2]; congr 1; exact e.symm
      unfold nI at h3; rw [List.getElem_map] at h3; omega
    have hle : ((z.pv i).wires.filter ((fun w => w.a == j || w.b == j) ∘ fun w => (⟨(nI (z.nd i)).idxOf w.a, (nI (z.nd i)).idxOf w.b, w.s⟩ : Wi))).length ≤ ((z.pv i).wires.filter (fun x => decide (x.a = (((z.nd i)[j] : Nat) : Int)) || decide (x.b = (((z.nd i)[j] : Nat) : Int)))).length := by
      refine List.Sublist.length_le ?_
      have key : ∀ l : List Wv, (∀ x ∈ l, x ∈ (z.pv i).wires) → (l.filter ((fun w => w.a == j || w.b == j) ∘ fun w => (⟨(nI (z.nd i)).idxOf w.a, (nI (z.nd i)).idxOf w.b, w.s⟩ : Wi))).Sublist (l.filter (fun x => decide (x.a = (((z.nd i)[j] : Nat) : Int)) || decide (x.b = (((z.nd i)[j] : Nat) : Int)))) := by
        intro l
        induction l with
        | nil => intro _; simp
        | cons x l ih =>
          intro hl
          have ih' := ih (fun y hy => hl y (by simp [hy]))
          obtain ⟨a, b, ea, eb, ha, hb, hp, hab, hs⟩ := h.wire hi (hl x (by simp))
          rw [List.filter_cons, List.filter_cons]
          split
          · rename_i hc
            simp only [Function.comp, Bool.or_eq_true, beq_iff_eq, ea, eb] at hc
            have : (decide (x.a = (((z.nd i)[j] : Nat) : Int)) || decide (x.b = (((z.nd i)[j] : Nat) : Int))) = true := by
              simp only [Bool.or_eq_true, decide_eq_true_eq, ea, eb]
              rcases hc with q | q
              · left; have := hk a ha q; omega
              · right; have := hk b hb q; omega
            rw [if_pos this]
            exact ih'.cons_cons x
          · split
            · exact ih'.cons x
            · exact ih'
      exact key _ (fun _ h => h)
    have hsub : ((z.pv i).wires.filter (fun x => decide (x.a = (((z.nd i)[j] : Nat) : Int)) || decide (x.b = (((z.nd i)[j] : Nat) : Int)))).length ≤ (z.g.wires.filter (fun x => decide (x.a = (((z.nd i)[j] : Nat) : Int)) || decide (x.b = (((z.nd i)[j] : Nat) : Int)))).length :=
      (List.Sublist.filter _ (wiresTo_sub _ _ _ _)).length_le
    omega
  · intro C h1 h2
    obtain ⟨j1, hj1, c1⟩ := h1
    obtain ⟨j2, hj2, c2⟩ := h2
    refine Classical.byContradiction fun hno => ?_
    have hcl : ∀ w ∈ wiL (z.nd i) (z.pv i).wires, C w.a = C w.b := fun w hw => Classical.byContradiction fun e => hno ⟨w, hw, e⟩
    have key : ∀ {x y : Nat}, Cn z.pr x y → x ∈ z.nd i → C ((nI (z.nd i)).idxOf (x : Int)) = C ((nI (z.nd i)).idxOf (y : Int)) ∧ y ∈ z.nd i := by
      intro x y hc
      induction hc with
      | refl => intro hx; exact ⟨rfl, hx⟩
      | step hxy e ih =>
        rename_i y u
        intro hx
        obtain ⟨e1, hy⟩ := ih hx
        have hu : u ∈ z.nd i := (h.mem_nd hi u).2 (by
          have hyu : Cn z.pr y u := Cn.one e
          have := (h.mem_nd hi y).1 hy
          have e2 := (h.la_iff _ _).2 hyu
          refine ⟨hyu.lt h.pl this.1, ?_⟩
          have q := this.2
          unfold Zs.pof at q ⊢; rw [← e2]; exact q)
        refine ⟨e1.trans ?_, hu⟩
        rcases e with e | e
        · obtain ⟨k, wv, g1, g2, g3, g4⟩ := onP_mem.1 e
          have hb := wiresB_at h.wb (List.mem_of_getElem? g1)
          have hm : wv ∈ (z.pv i).wires := Zs.wire_mem.2 ⟨k, g1, g2, by rw [show wv.a = (y : Int) by omega]; exact nI_mem.2 hy⟩
          have := hcl ⟨(nI (z.nd i)).idxOf wv.a, (nI (z.nd i)).idxOf wv.b, wv.s⟩ (List.mem_map.2 ⟨wv, hm, rfl⟩)
          simp only at this
          rw [show wv.a = (y : Int) by omega, show wv.b = (u : Int) by omega] at this; exact this
        · obtain ⟨k, wv, g1, g2, g3, g4⟩ := onP_mem.1 e
          have hb := wiresB_at h.wb (List.mem_of_getElem? g1)
          have hm : wv ∈ (z.pv i).wires := Zs.wire_mem.2 ⟨k, g1, g2, by rw [show wv.a = (u : Int) by omega]; exact nI_mem.2 hu⟩
          have := hcl ⟨(nI (z.nd i)).idxOf wv.a, (nI (z.nd i)).idxOf wv.b, wv.s⟩ (List.mem_map.2 ⟨wv, hm, rfl⟩)
          simp only at this
          rw [show wv.b = (y : Int) by omega, show wv.a = (u : Int) by omega] at this; exact this.symm
    have m1 : (z.nd i)[j1] ∈ z.nd i := List.getElem_mem hj1
    have m2 : (z.nd i)[j2] ∈ z.nd i := List.getElem_mem hj2
    have p1 := (h.mem_nd hi _).1 m1; have p2 := (h.mem_nd hi _).1 m2
    have hl : z.la (z.nd i)[j1] = z.la (z.nd i)[j2] := idx_inj (h.la_rt p1.1) (h.la_rt p2.1) (by
      have q1 := p1.2; have q2 := p2.2; unfold Zs.pof at q1 q2; rw [q1, q2])
    have hc := (key ((h.la_iff _ _).1 hl) m1).1
    have i1 : (nI (z.nd i)).idxOf (((z.nd i)[j1] : Nat) : Int) = j1 := by
      have := idx_at hnn (i := j1) (by rw [nI_len]; exact hj1)
      unfold nI at this; rw [List.getElem_map] at this; exact this
    have i2 : (nI (z.nd i)).idxOf (((z.nd i)[j2] : Nat) : Int) = j2 := by
      have := idx_at hnn (i := j2) (by rw [nI_len]; exact hj2)
      unfold nI at this; rw [List.getElem_map] at this; exact this
    rw [i1, i2, c1, c2] at hc
    cases hc
theorem Zs.pvf_mem {i j : Nat} : j ∈ (z.pv i).feeds ↔ ∃ hj : j < z.g.feeds.length, z.g.feeds[j].pl ∈ nI (z.nd i) := by
  unfold Zs.pv partV feedsTo
  simp only [List.mem_filter, List.mem_range, decide_eq_true_eq]
  constructor
  · rintro ⟨h1, h2⟩
    exact ⟨h1, by rw [List.getElem?_eq_getElem h1] at h2; exact h2⟩
  · rintro ⟨h1, h2⟩
    exact ⟨h1, by rw [List.getElem?_eq_getElem h1]; exact h2⟩
theorem Zs.pvf_len (i : Nat) : (z.pv i).feeds.length ≤ z.g.feeds.length := feedsTo_len _ _ _
theorem Zs.on_mem {fon : List Bool} {i : Nat} {x : Fv} : x ∈ z.on fon i ↔ ∃ (j : Nat) (hj : j < z.g.feeds.length), z.g.feeds[j] = x ∧ fon[j]? = some true ∧ x.pl ∈ nI (z.nd i) := by
  unfold Zs.on onV
  simp only [List.mem_map, List.mem_filter]
  constructor
  · rintro ⟨j, ⟨h1, h2⟩, rfl⟩
    obtain ⟨hj, hp⟩ := Zs.pvf_mem.1 h1
    have e : fvAt z.g.feeds j = z.g.feeds[j] := by unfold fvAt; rw [List.getElem?_eq_getElem hj]; rfl
    refine ⟨j, hj, e.symm, ?_, by rw [e]; exact hp⟩
    cases hf : fon[j]? with
    | none => rw [hf] at h2; simp at h2
    | some b => rw [hf] at h2; simp at h2; rw [h2]
  · rintro ⟨j, hj, rfl, h2, h3⟩
    exact ⟨j, ⟨Zs.pvf_mem.2 ⟨hj, h3⟩, by rw [h2]; rfl⟩, by unfold fvAt; rw [List.getElem?_eq_getElem hj]; rfl⟩
theorem Zs.Ok.on_at (h : z.Ok) {fon : List Bool} {i : Nat} {x : Fv} (hx : x ∈ z.on fon i) : x.pl ∈ nI (z.nd i) ∧ 1 ≤ x.volts ∧ x.volts ≤ 1000 ∧ 1 ≤ x.siem ∧ x.siem ≤ 4 := by
  obtain ⟨j, hj, rfl, h2, h3⟩ := Zs.on_mem.1 hx
  have := feedsB_at h.fb (List.getElem_mem hj)
  exact ⟨h3, this.2.2.1, this.2.2.2.1, this.2.2.2.2.1, this.2.2.2.2.2.1⟩
theorem Zs.on_len (fon : List Bool) (i : Nat) : (z.on fon i).length ≤ z.g.feeds.length := by
  unfold Zs.on onV
  rw [List.length_map]
  exact Nat.le_trans (List.length_filter_le _ _) (Zs.pvf_len i)
theorem Zs.Ok.on_pw (h : z.Ok) (fon : List Bool) (i : Nat) : (z.on fon i).Pairwise (fun x y => x.pl ≠ y.pl) := by
  unfold Zs.on onV
  rw [List.pairwise_map]
  have h0 : ((z.pv i).feeds.filter (fun j => (fon[j]?).getD false)).Pairwise (· < ·) := List.Pairwise.filter _ (by unfold Zs.pv partV feedsTo; exact range_asc _ _)
  refine List.Pairwise.imp_of_mem (fun {a b} ha hb hab => ?_) h0
  obtain ⟨ha1, _⟩ := Zs.pvf_mem.1 (List.mem_filter.1 ha).1
  obtain ⟨hb1, _⟩ := Zs.pvf_mem.1 (List.mem_filter.1 hb).1
  have hp := (feedsB_nd h.fb).1
  rw [List.pairwise_map, List.pairwise_iff_getElem] at hp
  have := hp a b ha1 hb1 hab
  unfold fvAt
  rw [List.getElem?_eq_getElem ha1, List.getElem?_eq_getElem hb1]; exact this
theorem Zs.Ok.fe (h : z.Ok) {fon : List Bool} {i : Nat} (hi : i < z.np) : FeOk (z.nd i).length ((z.on fon i).map (feW (z.nd i))) := by
  refine ⟨fun f hf => ?_, ?_⟩
  · obtain ⟨x, hx, rfl⟩ := List.mem_map.1 hf
    obtain ⟨h1, h2⟩ := h.on_at hx
    exact ⟨by unfold feW; simp only; rw [← nI_len]; exact List.idxOf_lt_length_iff.2 h1, h2⟩
  · rw [List.pairwise_map]
    refine List.Pairwise.imp_of_mem (fun {a b} ha hb hab e => hab ?_) (h.on_pw fon i)
    exact idx_inj (h.on_at ha).1 (h.on_at hb).1 e
theorem runL_mem {ls : List Lv} {run : List Bool} {k : Nat} {x : Lv} (hx : x ∈ runL ls run k) : x ∈ ls := by
  unfold runL at hx
  obtain ⟨⟨u, b⟩, hm, rfl⟩ := List.mem_map.1 hx
  have := List.mem_of_mem_take (List.mem_filter.1 hm).1
  exact (List.of_mem_zip this).1
theorem Zs.Ok.tk_bd (h : z.Ok) (run : List Bool) (i j : Nat) : -40 ≤ z.tk run i j ∧ z.tk run i j ≤ 40 :=
  tkF_bd (fun x hx => by have := loadsB_at h.lb (runL_mem hx); omega) j
end
/-- the voltages of a part, if it has some -/
def solZ (n : Nat) (ns : List Nat) (ws : List Wv) (on : List Fv) (tk : Nat → Int) : Option ((Nat → Int) × Int) :=
  if on.isEmpty then (if ((List.range n).map tk).any (fun x => x != 0) then none else some (fun _ => 0, 1))
  else if total n tk < 0 then none
  else if total n tk = 0 then floatZ n (wiL ns ws) tk (on.map (feW ns)) (on.map (feW ns))
  else feedZ n (wiL ns ws) tk on.length (on.map (feW ns))
def Zs.sol (z : Zs) (fon run : List Bool) (i : Nat) : Option ((Nat → Int) × Int) := solZ (z.nd i).length (z.nd i) (z.pv i).wires (z.on fon i) (z.tk run i)
end Go.Proofs.YtbnfnpakibkboaaGreat

namespace Go.Proofs.YtbnfnpakibkboaaGreat
set_option linter.unusedVariables false
set_option linter.unusedSimpArgs false
open Go.RowKit

section
variable {n : Nat} {ns : List Nat} {ws : List Wv} {on : List Fv} {tk : Nat → Int}
theorem solZ_off (h : on = []) : solZ n ns ws on tk = if ((List.range n).map tk).any (fun x => x != 0) then none else some (fun _ => 0, 1) := by
  unfold solZ; subst h; rfl
theorem isEmpty_ne {α : Type} {l : List α} (h : l ≠ []) : l.isEmpty = false := by cases l with | nil => exact absurd rfl h | cons a l => rfl
theorem solZ_neg (h : on ≠ []) (ht : total n tk < 0) : solZ n ns ws on tk = none := by
  unfold solZ; rw [isEmpty_ne h, if_neg (by simp), if_pos ht]
theorem solZ_zero (h : on ≠ []) (ht : total n tk = 0) : solZ n ns ws on tk = floatZ n (wiL ns ws) tk (on.map (feW ns)) (on.map (feW ns)) := by
  unfold solZ; rw [isEmpty_ne h, if_neg (by simp), if_neg (by omega), if_pos ht]
theorem solZ_pos (h : on ≠ []) (ht : 0 < total n tk) : solZ n ns ws on tk = feedZ n (wiL ns ws) tk on.length (on.map (feW ns)) := by
  unfold solZ; rw [isEmpty_ne h, if_neg (by simp), if_neg (by omega), if_neg (by omega)]
theorem map_ne {α β : Type} {l : List α} {f : α → β} (h : l ≠ []) : l.map f ≠ [] := by cases l with | nil => exact absurd rfl h | cons a l => simp
theorem solZ_T (hC : CirOk n (wiL ns ws)) (hF : FeOk n (on.map (feW ns))) (h : on ≠ []) (ht : total n tk = 0) :
    ∃ v d, solZ n ns ws on tk = some (v, d) ∧ SolT n (wiL ns ws) tk (on.map (feW ns)) v d := by
  obtain ⟨f, hf, e, hs⟩ := float_ok hC tk hF (map_ne h) ht
  exact ⟨_, _, (solZ_zero h ht).trans e, hs⟩
theorem solZ_F (hC : CirOk n (wiL ns ws)) (hF : FeOk n (on.map (feW ns))) (h : on ≠ []) (ht : 0 < total n tk) :
    ∃ v d, solZ n ns ws on tk = some (v, d) ∧ SolF n (wiL ns ws) tk (on.map (feW ns)) v d := by
  obtain ⟨p, hp, e, _, hs⟩ := feed_ok hC tk hF (map_ne h) ht
  rw [List.length_map] at e
  exact ⟨_, _, (solZ_pos h ht).trans e, hs⟩
/-- the numbers are within bounds -/
theorem solZ_bd (hC : CirOk n (wiL ns ws)) (hF : FeOk n (on.map (feW ns))) (hn : n ≤ 10) (htk : ∀ j, -40 ≤ tk j ∧ tk j ≤ 40) {v : Nat → Int} {d : Int} (he : solZ n ns ws on tk = some (v, d)) :
    0 < d ∧ d ≤ 300000000000000 ∧ ∀ k, k < n → -430000000000000000 ≤ v k ∧ v k ≤ 430000000000000000 := by
  by_cases h : on = []
  · rw [solZ_off h] at he
    split at he
    · cases he
    · injection he with he; injection he with h1 h2; subst h1; subst h2
      exact ⟨by decide, by decide, fun k _ => by simp⟩
  · rcases Int.lt_trichotomy (total n tk) 0 with q | q | q
    · rw [solZ_neg h q] at he; cases he
    · obtain ⟨f, hf, e, hs⟩ := float_ok hC tk hF (map_ne h) q
      rw [solZ_zero h q, e] at he
      injection he with he; injection he with h1 h2; subst h1; subst h2
      have := aug_bd hn (fun i hi => augT_small hC htk (f := f) ⟨(hF.f f hf).1, (hF.f f hf).2.1, (hF.f f hf).2.2.1⟩ hi)
      exact ⟨hs.pos, this.2.2, this.1⟩
    · obtain ⟨p, hp, e, _, hs⟩ := feed_ok hC tk hF (map_ne h) q
      rw [List.length_map] at e
      rw [solZ_pos h q, e] at he
      injection he with he; injection he with h1 h2; subst h1; subst h2
      have := aug_bd hn (fun i hi => augF_small hC htk (hF.filter p) hi)
      exact ⟨hs.pos, this.2.2, this.1⟩
end
section
variable {z : Zs}
theorem Zs.Ok.sol_bd (h : z.Ok) {fon run : List Bool} {i : Nat} (hi : i < z.np) {v : Nat → Int} {d : Int} (he : z.sol fon run i = some (v, d)) :
    0 < d ∧ d ≤ 300000000000000 ∧ ∀ k, k < (z.nd i).length → -430000000000000000 ≤ v k ∧ v k ≤ 430000000000000000 :=
  solZ_bd (h.cir hi) (h.fe hi) (h.nd_len hi).2 (h.tk_bd run i) he
/-- a part without voltages: a load that is dead, or a sum less than 0 -/
theorem Zs.Ok.sol_none (h : z.Ok) {fon run : List Bool} {i : Nat} (hi : i < z.np) (he : z.sol fon run i = none) :
    (z.on fon i = [] ∧ ∃ j, j < (z.nd i).length ∧ z.tk run i j ≠ 0) ∨ (z.on fon i ≠ [] ∧ total (z.nd i).length (z.tk run i) < 0) := by
  by_cases ho : z.on fon i = []
  · left
    refine ⟨ho, ?_⟩
    unfold Zs.sol at he
    rw [solZ_off ho] at he
    split at he
    · rename_i ha
      rw [List.any_eq_true] at ha
      obtain ⟨x, hx, hne⟩ := ha
      obtain ⟨j, hj, rfl⟩ := List.mem_map.1 hx
      exact ⟨j, List.mem_range.1 hj, by simpa using hne⟩
    · cases he
  · right
    refine ⟨ho, ?_⟩
    rcases Int.lt_trichotomy (total (z.nd i).length (z.tk run i)) 0 with q | q | q
    · exact q
    · obtain ⟨v, d, e, _⟩ := solZ_T (h.cir hi) (h.fe (fon := fon) hi) ho q
      unfold Zs.sol at he; rw [e] at he; cases he
    · obtain ⟨v, d, e, _⟩ := solZ_F (h.cir hi) (h.fe (fon := fon) hi) ho q
      unfold Zs.sol at he; rw [e] at he; cases he
/-- a node's voltage, as the program has it -/
def Zs.volt (z : Zs) (fon run : List Bool) (c : Nat) : Int × Int :=
  match z.sol fon run (z.pof c) with
  | some (v, d) => (v ((nI (z.nd (z.pof c))).idxOf (c : Int)), d)
  | none => (0, 1)
def Zs.fpl (z : Zs) (f : Nat) : Nat := (fvAt z.g.feeds f).pl.toNat
/-- a feeder's current, as the program has it -/
def Zs.amp (z : Zs) (fon run : List Bool) (f : Nat) : Int × Int :=
  match z.sol fon run (z.pof (z.fpl f)) with
  | some (v, d) => ampR (z.fpl f : Int) ((z.on fon (z.pof (z.fpl f))).map (ampZ (z.nd (z.pof (z.fpl f))) v d)) d (z.on fon (z.pof (z.fpl f))) 0
  | none => (0, 1)
theorem ampR_is (p : Int) (d : Int) (F : Fv → Int) : ∀ (on : List Fv) (pre : List Fv), (ampR p ((pre ++ on).map F) d on pre.length = (0, 1) ∧ ∀ x ∈ on, x.pl ≠ p) ∨ ∃ x ∈ on, x.pl = p ∧ ampR p ((pre ++ on).map F) d on pre.length = (F x, d) := by
  intro on
  induction on with
  | nil => intro pre; left; exact ⟨rfl, fun x hx => by cases hx⟩
  | cons f fs ih =>
    intro pre
    unfold ampR
    by_cases e : f.pl = p
    · right
      refine ⟨f, by simp, e, ?_⟩
      rw [if_pos e, List.getElem?_map, List.getElem?_append_right (Nat.le_refl _)]
      simp
    · rw [if_neg e]
      have := ih (pre ++ [f])
      rw [List.append_assoc, List.length_append] at this
      rcases this with ⟨h1, h2⟩ | ⟨x, hx, hp, h1⟩
      · left
        refine ⟨h1, fun x hx => ?_⟩
        cases hx with
        | head => exact e
        | tail _ q => exact h2 x q
      · right; exact ⟨x, by simp [hx], hp, h1⟩
theorem Zs.Ok.fpl_at (h : z.Ok) {f : Nat} (hf : f < z.g.feeds.length) : z.fpl f < z.N ∧ z.g.feeds[f].pl = (z.fpl f : Int) ∧ fvAt z.g.feeds f = z.g.feeds[f] := by
  have e : fvAt z.g.feeds f = z.g.feeds[f] := by unfold fvAt; rw [List.getElem?_eq_getElem hf]; rfl
  have hb := feedsB_at h.fb (List.getElem_mem hf)
  unfold Zs.fpl
  rw [e]
  refine ⟨by omega, by omega, rfl⟩
theorem pl_inj {fs : List Fv} (hp : (fs.map Fv.pl).Pairwise (fun x y => x ≠ y)) {i j : Nat} (hi : i < fs.length) (hj : j < fs.length) (e : fs[i].pl = fs[j].pl) : i = j := by
  rw [List.pairwise_map, List.pairwise_iff_getElem] at hp
  rcases Nat.lt_trichotomy i j with q | q | q
  · exact absurd e (hp i j hi hj q)
  · exact q
  · exact absurd e.symm (hp j i hj hi q)
/-- a feeder that is off gives nothing; one that is on what its voltage says -/
theorem Zs.Ok.amp_is (h : z.Ok) {fon run : List Bool} {f : Nat} (hf : f < z.g.feeds.length) {v : Nat → Int} {d : Int} (hs : z.sol fon run (z.pof (z.fpl f)) = some (v, d)) :
    z.amp fon run f = if fon[f]? = some true then (ampZ (z.nd (z.pof (z.fpl f))) v d z.g.feeds[f], d) else (0, 1) := by
  obtain ⟨h1, h2, h3⟩ := h.fpl_at hf
  unfold Zs.amp
  rw [hs]
  simp only
  have key := ampR_is (z.fpl f : Int) d (ampZ (z.nd (z.pof (z.fpl f))) v d) (z.on fon (z.pof (z.fpl f))) []
  simp only [List.nil_append, List.length_nil] at key
  rcases key with ⟨k1, k2⟩ | ⟨x, hx, hp, k1⟩
  · rw [k1, if_neg]
    intro hon
    refine k2 z.g.feeds[f] (Zs.on_mem.2 ⟨f, hf, rfl, hon, ?_⟩) h2
    rw [h2]; exact nI_mem.2 (h.own h1)
  · rw [k1]
    obtain ⟨j, hj, e, ho, _⟩ := Zs.on_mem.1 hx
    have : j = f := pl_inj (feedsB_nd h.fb).1 hj hf (by rw [e, hp, h2])
    subst this
    rw [if_pos ho, e]
theorem Zs.Ok.idx_lt (h : z.Ok) {c : Nat} (hc : c < z.N) : (nI (z.nd (z.pof c))).idxOf (c : Int) < (z.nd (z.pof c)).length := by
  rw [← nI_len]; exact List.idxOf_lt_length_iff.2 (nI_mem.2 (h.own hc))
theorem Zs.Ok.volt_bd (h : z.Ok) {fon run : List Bool} {c : Nat} (hc : c < z.N) : 0 < (z.volt fon run c).2 ∧ (z.volt fon run c).2 ≤ 300000000000000 ∧ -430000000000000000 ≤ (z.volt fon run c).1 ∧ (z.volt fon run c).1 ≤ 430000000000000000 := by
  unfold Zs.volt
  cases hs : z.sol fon run (z.pof c) with
  | none => simp
  | some p =>
    obtain ⟨v, d⟩ := p
    obtain ⟨b1, b2, b3⟩ := h.sol_bd (h.pof_lt hc) hs
    have := b3 _ (h.idx_lt hc)
    exact ⟨b1, b2, this.1, this.2⟩
theorem ampZ_bd {ns : List Nat} {v : Nat → Int} {d : Int} {x : Fv} (hd : 0 < d) (hd2 : d ≤ 300000000000000) (hv : -430000000000000000 ≤ v ((nI ns).idxOf x.pl)) (hs : 1 ≤ x.siem ∧ x.siem ≤ 4) (hu : 1 ≤ x.volts ∧ x.volts ≤ 1000) :
    0 ≤ ampZ ns v d x ∧ ampZ ns v d x ≤ 2920000000000000000 := by
  unfold ampZ
  have h1 : x.volts * d ≤ 1000 * 300000000000000 := Int.mul_le_mul hu.2 hd2 (by omega) (by decide)
  generalize v ((nI ns).idxOf x.pl) = y at hv ⊢
  generalize x.volts * d = q at h1 ⊢
  have h2 : 0 ≤ max 0 (q - y) ∧ max 0 (q - y) ≤ 730000000000000000 := by omega
  generalize max 0 (q - y) = m at h2 ⊢
  rcases (show x.siem = 1 ∨ x.siem = 2 ∨ x.siem = 3 ∨ x.siem = 4 by omega) with e | e | e | e <;> rw [e] <;> omega
theorem Zs.Ok.amp_bd (h : z.Ok) {fon run : List Bool} {f : Nat} (hf : f < z.g.feeds.length) : 0 < (z.amp fon run f).2 ∧ (z.amp fon run f).2 ≤ 300000000000000 ∧ 0 ≤ (z.amp fon run f).1 ∧ (z.amp fon run f).1 ≤ 2920000000000000000 := by
  obtain ⟨h1, h2, h3⟩ := h.fpl_at hf
  cases hs : z.sol fon run (z.pof (z.fpl f)) with
  | none => unfold Zs.amp; rw [hs]; simp
  | some p =>
    obtain ⟨v, d⟩ := p
    rw [h.amp_is hf hs]
    obtain ⟨b1, b2, b3⟩ := h.sol_bd (h.pof_lt h1) hs
    split
    · have hb := feedsB_at h.fb (List.getElem_mem hf)
      have := ampZ_bd (ns := z.nd (z.pof (z.fpl f))) (v := v) (x := z.g.feeds[f]) b1 b2 (by rw [h2]; exact (b3 _ (h.idx_lt h1)).1) ⟨hb.2.2.2.2.1, hb.2.2.2.2.2.1⟩ ⟨hb.2.2.1, hb.2.2.2.1⟩
      exact ⟨b1, b2, this.1, this.2⟩
    · simp
end
end Go.Proofs.YtbnfnpakibkboaaGreat

namespace Go.Proofs.YtbnfnpakibkboaaGreat
set_option linter.unusedVariables false
set_option linter.unusedSimpArgs false
open Go.RowKit

/-- blocks that are not written while a grid is settled -/
structure Ky (B : Nat) (w w' : World) : Prop where
  lo : ∀ k, k < B → w'.heap[k]? = w.heap[k]?
  ty : ∀ (k : Nat) (cs : Array Value) (e : TypeId), e ≠ 4 → e ≠ 134 → e ≠ 136 → w.heap[k]? = some (Obj.cells cs e (0, 0)) → w'.heap[k]? = w.heap[k]?
theorem Ky.of_below {B : Nat} {w w' : World} (h : Below w.heap.size w w') (hB : B ≤ w.heap.size) : Ky B w w' :=
  ⟨fun k hk => h.block k (by omega), fun k cs e _ _ _ hh => h.block k (Array.getElem?_eq_some_iff.1 hh).1⟩
theorem Own.ky {α : Type} {f : α → List Value} {w w' : World} {B base size : Nat} {e : TypeId} {v : Value} {l : List α} (h : Own w base e size f v l) (k : Ky B w w') (h4 : e ≠ 4) (h1 : e ≠ 134) (h2 : e ≠ 136) : Own w' base e size f v l :=
  h.of_blocks (fun b hb => by obtain ⟨cs, hc⟩ := own_type h hb; exact k.ty b cs e h4 h1 h2 hc)
theorem Rf.ky {w w' : World} {B g n : Nat} {t : TypeId} {f : Nat → Value} (h : Rf w g t n f) (k : Ky B w w') (h4 : t ≠ 4) (h1 : t ≠ 134) (h2 : t ≠ 136) : Rf w' g t n f := (k.ty g _ t h4 h1 h2 h).trans h
theorem Rw.ky {w w' : World} {B g : Nat} {t : TypeId} {cs : Array Value} (h : Rw w g t cs) (k : Ky B w w') (h4 : t ≠ 4) (h1 : t ≠ 134) (h2 : t ≠ 136) : Rw w' g t cs := (k.ty g _ t h4 h1 h2 h).trans h
theorem PmIn.ky {w w' : World} {B B' : Nat} {x : Pm} (h : PmIn w B x) (k : Ky B' w w') : PmIn w' B x :=
  ⟨h.o1.ky k (by decide) (by decide) (by decide), h.o2.ky k (by decide) (by decide) (by decide), h.o3.ky k (by decide) (by decide) (by decide)⟩
/-- a solution in memory, or none -/
def SolM (w : World) (B n : Nat) (ns : List Nat) (on : List Fv) (Y : Vi) (b : Bool) : Option ((Nat → Int) × Int) → Prop
  | some (v, d) => b = true ∧ Y.d = d ∧ Y.sv.n = n ∧ Own w B 3 1 fI Y.sv.v ((List.range n).map v) ∧ Y.sa.n = on.length ∧ Own w B 3 1 fI Y.sa.v (on.map (ampZ ns v d))
  | none => b = false
theorem SolM.ky {w w' : World} {B B' n : Nat} {ns : List Nat} {on : List Fv} {Y : Vi} {b : Bool} : ∀ {o : Option ((Nat → Int) × Int)}, SolM w B n ns on Y b o → Ky B' w w' → SolM w' B n ns on Y b o
  | some (v, d), h, k => ⟨h.1, h.2.1, h.2.2.1, h.2.2.2.1.ky k (by decide) (by decide) (by decide), h.2.2.2.2.1, h.2.2.2.2.2.ky k (by decide) (by decide) (by decide)⟩
  | none, h, _ => h
theorem SolM.lower {w : World} {B B' n : Nat} {ns : List Nat} {on : List Fv} {Y : Vi} {b : Bool} (hb : B' ≤ B) : ∀ {o : Option ((Nat → Int) × Int)}, SolM w B n ns on Y b o → SolM w B' n ns on Y b o
  | some (v, d), h => ⟨h.1, h.2.1, h.2.2.1, h.2.2.2.1.lower hb, h.2.2.2.2.1, h.2.2.2.2.2.lower hb⟩
  | none, h => h
theorem SlvAt.sol {w : World} {base n : Nat} {ns : List Nat} {ws : List Wv} {on : List Fv} {so : Sc} {tk : Nat → Int} {val : Value} {ok : Bool} (h : SlvAt w base n ns ws on so tk val ok) (hso : on.length = so.n) :
    ∃ Y : Vi, val = .agg #[.slice Y.sv.A Y.sv.n Y.sv.c, .slice Y.sa.A Y.sa.n Y.sa.c, .int .i64 Y.d] ∧ SolM w base n ns on Y ok (solZ n ns ws on tk) := by
  have two : ∀ {o : Option ((Nat → Int) × Int)}, ok = o.isSome → SolAt w base n ns on so o val → ∃ Y : Vi, val = .agg #[.slice Y.sv.A Y.sv.n Y.sv.c, .slice Y.sa.A Y.sa.n Y.sa.c, .int .i64 Y.d] ∧ SolM w base n ns on Y ok o := by
    intro o hok hs
    cases o with
    | none => exact ⟨⟨⟨none, 0, 0⟩, ⟨none, 0, 0⟩, 0⟩, hs, hok⟩
    | some p =>
      obtain ⟨v, d⟩ := p
      obtain ⟨A1, A2, c1, c2, e, o1, o2⟩ := hs
      exact ⟨⟨⟨A1, n, c1⟩, ⟨A2, so.n, c2⟩, d⟩, e, hok, rfl, rfl, o1, hso.symm, o2⟩
  rcases h with ⟨ho, hok, Av, cv, e, ow⟩ | ⟨ho, ht, hok, e⟩ | ⟨ho, ht, hok, hs⟩ | ⟨ho, ht, hok, hs⟩
  · rw [solZ_off ho]
    refine ⟨⟨⟨Av, n, cv⟩, ⟨none, 0, 0⟩, 1⟩, e, ?_⟩
    subst ho
    split
    · rename_i ha; rw [ha] at hok; exact hok
    · rename_i ha; exact ⟨by rw [hok, Bool.eq_false_iff.2 ha]; rfl, rfl, rfl, ow, rfl, Own.nil _ _ _ _ _⟩
  · rw [solZ_neg ho ht]
    exact ⟨⟨⟨none, 0, 0⟩, ⟨none, 0, 0⟩, 0⟩, e, hok⟩
  · rw [solZ_zero ho ht]; exact two hok hs
  · rw [solZ_pos ho ht, hso]; exact two hok hs
/-- a part's circuit in memory -/
structure PaC (w : World) (B : Nat) (X : Ci) (y : Pm) (z : Zs) (fon run : List Bool) (i : Nat) : Prop where
  e1 : X.s1 = y.s1
  e2 : X.s2 = y.s2
  e3 : X.s3 = y.s3
  so : Own w B 58 4 fFv X.so.v (z.on fon i)
  son : X.so.n = (z.on fon i).length
  tk : ∃ tb, X.sk = ⟨some ⟨tb, 0, none⟩, (z.nd i).length, (z.nd i).length⟩ ∧ B ≤ tb ∧ Rf w tb 3 (z.nd i).length (fun j => .int .i64 (z.tk run i j))
theorem PaC.ky {w w' : World} {B B' : Nat} {X : Ci} {y : Pm} {z : Zs} {fon run : List Bool} {i : Nat} (h : PaC w B X y z fon run i) (k : Ky B' w w') : PaC w' B X y z fon run i := by
  obtain ⟨tb, h1, h2, h3⟩ := h.tk
  exact ⟨h.e1, h.e2, h.e3, h.so.ky k (by decide) (by decide) (by decide), h.son, tb, h1, h2, h3.ky k (by decide) (by decide) (by decide)⟩
/-- a part's circuit and its solution in memory -/
structure PaM (w : World) (B : Nat) (X : Ci) (Y : Vi) (b : Bool) (y : Pm) (z : Zs) (fon run : List Bool) (i : Nat) : Prop where
  c : PaC w B X y z fon run i
  sol : SolM w B (z.nd i).length (z.nd i) (z.on fon i) Y b (z.sol fon run i)
theorem PaM.ky {w w' : World} {B B' : Nat} {X : Ci} {Y : Vi} {b : Bool} {y : Pm} {z : Zs} {fon run : List Bool} {i : Nat} (h : PaM w B X Y b y z fon run i) (k : Ky B' w w') : PaM w' B X Y b y z fon run i := ⟨h.c.ky k, h.sol.ky k⟩
/-- a settling in memory, of which the parts in dn are solved: its own blocks lie from block B on -/
structure StA (w : World) (B sb : Nat) (x : SL) (C : Nat → Ci) (V : Nat → Vi) (K : Nat → Bool) (z : Zs) (fon run : List Bool) (xs : List Pm) (dn : Nat → Prop) : Prop where
  bw : B ≤ w.heap.size
  ne : StNe sb x
  st : StR w sb x C V K
  lo : B ≤ sb ∧ B ≤ x.cb ∧ B ≤ x.vb ∧ B ≤ x.kb
  N : x.N = z.N
  np : x.np = z.np
  le : x.least = z.g.least
  g : GAt w B x.wires.A x.wires.n x.feeds.A x.feeds.n z.g
  l : Sl w B 3 CL x.loads.A z.ls
  ll : z.ls.length = x.loads.n
  F : Own w B 4 1 fB x.fon.v fon
  fn : fon.length = z.g.feeds.length
  R : Own w B 4 1 fB x.run.v run
  rn : run.length = z.ls.length
  W : Own w B 4 1 fB x.sw.v z.sw
  P : ∃ pb, x.pof = ⟨some ⟨pb, 0, none⟩, z.N, z.N⟩ ∧ B ≤ pb ∧ Rf w pb 3 z.N (fun c => .int .i64 (z.pof c : Int))
  X : Own w B 132 3 fPm x.parts.v xs
  xi : ∀ y ∈ xs, PmIn w B y
  xp : xs.map (·.p) = z.ps.map (partV z.g z.sw)
  dF : ∀ k, x.fon.v.ownBlock = some k → k ≠ x.kb ∧ x.run.v.ownBlock ≠ some k ∧ x.sw.v.ownBlock ≠ some k
  dR : ∀ k, x.run.v.ownBlock = some k → k ≠ x.kb ∧ x.sw.v.ownBlock ≠ some k
  dW : ∀ k, x.sw.v.ownBlock = some k → k ≠ x.kb
  pa : ∀ i (hi : i < xs.length), dn i → PaM w B (C i) (V i) (K i) xs[i] z fon run i
theorem GAt.ky {w w' : World} {B : Nat} {Aw Af : Option Addr} {nw nf : Nat} {g : Gv} (h : GAt w B Aw nw Af nf g) (k : Ky B w w') : GAt w' B Aw nw Af nf g :=
  h.cells (fun q v hq hv => (World.cell?_of_block (a := q) (k.lo q.block hq)).trans hv)
theorem Sl.ky {α : Type} {w w' : World} {B size : Nat} {C : α → List Value → Prop} {A : Option Addr} {l : List α} (h : Sl w B size C A l) (k : Ky B w w') : Sl w' B size C A l :=
  h.cells (fun q v hq hv => (World.cell?_of_block (a := q) (k.lo q.block hq)).trans hv)
section
variable {w w' : World} {B sb : Nat} {x : SL} {C C' : Nat → Ci} {V V' : Nat → Vi} {K K' : Nat → Bool} {z : Zs} {fon run : List Bool} {xs : List Pm} {dn dn' : Nat → Prop}
/-- cells of circuits, solutions and marks are written -/
theorem StA.upd (h : StA w B sb x C V K z fon run xs dn) (hz : w.heap.size ≤ w'.heap.size) (k : Ky B w w') (hst : StR w' sb x C' V' K')
    (hb : ∀ b, x.fon.v.ownBlock = some b ∨ x.run.v.ownBlock = some b ∨ x.sw.v.ownBlock = some b → w'.heap[b]? = w.heap[b]?)
    (hj : ∀ j, dn' j → dn j ∧ C' j = C j ∧ V' j = V j ∧ K' j = K j) : StA w' B sb x C' V' K' z fon run xs dn' := by
  obtain ⟨pb, p1, p2, p3⟩ := h.P
  exact ⟨Nat.le_trans h.bw hz, h.ne, hst, h.lo, h.N, h.np, h.le, h.g.ky k, h.l.ky k, h.ll, h.F.of_blocks (fun b e => hb b (.inl e)), h.fn, h.R.of_blocks (fun b e => hb b (.inr (.inl e))), h.rn, h.W.of_blocks (fun b e => hb b (.inr (.inr e))),
    ⟨pb, p1, p2, p3.ky k (by decide) (by decide) (by decide)⟩, h.X.ky k (by decide) (by decide) (by decide), fun y hy => (h.xi y hy).ky k, h.xp, h.dF, h.dR, h.dW, fun i hi hd => by
      obtain ⟨d, e1, e2, e3⟩ := hj i hd
      rw [e1, e2, e3]; exact (h.pa i hi d).ky k⟩
theorem StA.below (h : StA w B sb x C V K z fon run xs dn) (hb : Below w.heap.size w w') : StA w' B sb x C V K z fon run xs dn :=
  h.upd hb.size (Ky.of_below hb h.bw) (h.st.below hb) (fun b hh => hb.block b (by
    rcases hh with e | e | e
    · exact (h.F.lt b e).2
    · exact (h.R.lt b e).2
    · exact (h.W.lt b e).2)) (fun j hd => ⟨hd, rfl, rfl, rfl⟩)
theorem StA.weak (h : StA w B sb x C V K z fon run xs dn) (hd : ∀ j, dn' j → dn j) : StA w B sb x C V K z fon run xs dn' :=
  ⟨h.bw, h.ne, h.st, h.lo, h.N, h.np, h.le, h.g, h.l, h.ll, h.F, h.fn, h.R, h.rn, h.W, h.P, h.X, h.xi, h.xp, h.dF, h.dR, h.dW, fun i hi d => h.pa i hi (hd i d)⟩
theorem StA.xl (h : StA w B sb x C V K z fon run xs dn) : xs.length = z.np := by
  have := congrArg List.length h.xp
  rw [List.length_map, List.length_map, Zs.ps_len] at this; exact this
theorem StA.xat (h : StA w B sb x C V K z fon run xs dn) {i : Nat} (hi : i < xs.length) : xs[i].p = z.pv i := by
  have hp : i < z.ps.length := by rw [Zs.ps_len, ← h.xl]; exact hi
  have e : (xs.map (·.p))[i]? = (z.ps.map (partV z.g z.sw))[i]? := by rw [h.xp]
  rw [List.getElem?_map, List.getElem?_map, List.getElem?_eq_getElem hi, List.getElem?_eq_getElem hp] at e
  injection e with e
  rw [show xs[i].p = _ from e]; unfold Zs.pv Zs.nd; rw [List.getElem?_eq_getElem hp]; rfl
/-- a block of types 4, 134 or 136 is not one of the others -/
theorem ne_ty {w : World} {a k : Nat} {cs cs2 : Array Value} {t e : TypeId} (h1 : w.heap[a]? = some (Obj.cells cs t (0, 0))) (h2 : w.heap[k]? = some (Obj.cells cs2 e (0, 0))) (hne : e ≠ t) : k ≠ a := by
  rintro rfl; rw [h1] at h2; cases h2; exact hne rfl
theorem StA.ownNe (h : StA w B sb x C V K z fon run xs dn) {b : Nat} (hb : x.fon.v.ownBlock = some b ∨ x.run.v.ownBlock = some b ∨ x.sw.v.ownBlock = some b) : b ≠ x.cb ∧ b ≠ x.vb ∧ b ≠ x.kb := by
  have ht : ∃ cs, w.heap[b]? = some (Obj.cells cs 4 (0, 0)) := by
    rcases hb with e | e | e
    · exact own_type h.F e
    · exact own_type h.R e
    · exact own_type h.W e
  obtain ⟨cs, hc⟩ := ht
  refine ⟨ne_ty h.st.c hc (by decide), ne_ty h.st.v hc (by decide), ?_⟩
  rcases hb with e | e | e
  · exact (h.dF b e).1
  · exact (h.dR b e).1
  · exact h.dW b e
theorem StA.setC (h : StA w B sb x C V K z fon run xs dn) (i : Nat) (Y : Ci) :
    StA (((((w.setCell ⟨x.cb, i * 5, none⟩ Y.s1.v).setCell ⟨x.cb, i * 5 + 1, none⟩ Y.s2.v).setCell ⟨x.cb, i * 5 + 2, none⟩ Y.s3.v).setCell ⟨x.cb, i * 5 + 3, none⟩ Y.so.v).setCell ⟨x.cb, i * 5 + 4, none⟩ Y.sk.v) B sb x (fun u => if u = i then Y else C u) V K z fon run xs (fun j => dn j ∧ j ≠ i) :=
  h.upd (by simp [World.setCell]) ⟨fun k hk => five_far (by have := h.lo; omega), fun k cs e h4 h1 h2 hh => five_far (ne_ty h.st.c hh h1)⟩ (h.st.setC h.ne i Y) (fun b hb => five_far (h.ownNe hb).1) (fun j hd => ⟨hd.1, if_neg hd.2, rfl, rfl⟩)
theorem StA.setV (h : StA w B sb x C V K z fon run xs dn) (i : Nat) (Y : Vi) :
    StA (((w.setCell ⟨x.vb, i * 3, none⟩ Y.sv.v).setCell ⟨x.vb, i * 3 + 1, none⟩ Y.sa.v).setCell ⟨x.vb, i * 3 + 2, none⟩ (.int .i64 Y.d)) B sb x C (fun u => if u = i then Y else V u) K z fon run xs (fun j => dn j ∧ j ≠ i) :=
  h.upd (by simp [World.setCell]) ⟨fun k hk => three_far (by have := h.lo; omega), fun k cs e h4 h1 h2 hh => three_far (ne_ty h.st.v hh h2)⟩ (h.st.setV h.ne i Y) (fun b hb => three_far (h.ownNe hb).2.1) (fun j hd => ⟨hd.1, rfl, if_neg hd.2, rfl⟩)
theorem StA.setK (h : StA w B sb x C V K z fon run xs dn) (i : Nat) (b : Bool) :
    StA (w.setCell ⟨x.kb, i, none⟩ (.bool b)) B sb x C V (fun u => if u = i then b else K u) z fon run xs (fun j => dn j ∧ j ≠ i) :=
  h.upd (by simp [World.setCell]) ⟨fun k hk => Below.heap_setCell _ _ _ _ (by have := h.lo; show k ≠ x.kb; omega), fun k cs e h4 h1 h2 hh => Below.heap_setCell _ _ _ _ (ne_ty h.st.k hh h4)⟩ (h.st.setK h.ne i b) (fun b' hb => Below.heap_setCell _ _ _ _ (h.ownNe hb).2.2) (fun j hd => ⟨hd.1, rfl, rfl, if_neg hd.2⟩)
theorem StA.add {i : Nat} (h : StA w B sb x C V K z fon run xs (fun j => dn j ∧ j ≠ i)) (hp : ∀ hi : i < xs.length, PaM w B (C i) (V i) (K i) xs[i] z fon run i) : StA w B sb x C V K z fon run xs (fun j => dn j ∨ j = i) :=
  ⟨h.bw, h.ne, h.st, h.lo, h.N, h.np, h.le, h.g, h.l, h.ll, h.F, h.fn, h.R, h.rn, h.W, h.P, h.X, h.xi, h.xp, h.dF, h.dR, h.dW, fun j hj d => by
    by_cases e : j = i
    · subst e; exact hp hj
    · exact h.pa j hj ⟨d.resolve_right e, e⟩⟩
theorem StA.gr (h : StA w B sb x C V K z fon run xs dn) : GAt w w.heap.size x.wires.A x.wires.n x.feeds.A x.feeds.n z.g := h.g.more h.bw
theorem StA.lr (h : StA w B sb x C V K z fon run xs dn) : Sl w w.heap.size 3 CL x.loads.A z.ls := h.l.more (fun _ _ h => h) h.bw
theorem own_sl {α : Type} {f : α → List Value} {w : World} {B size : Nat} {e : TypeId} {s : Sc} {l : List α} (hf : ∀ x, (f x).length = size) (h : Own w B e size f s.v l) : Sl w w.heap.size size (fun x cs => cs = f x) s.A l ∧ s.n = l.length := by
  obtain ⟨A, c, hv, _⟩ := h.form
  have hs := h.sl hf hv
  unfold Sc.v at hv
  injection hv with h1 h2 h3
  subst h1
  exact ⟨hs, h2⟩
theorem StA.rr (h : StA w B sb x C V K z fon run xs dn) : Sl w w.heap.size 1 CB x.run.A run ∧ x.run.n = run.length := own_sl (fun _ => rfl) h.R
theorem StA.fr (h : StA w B sb x C V K z fon run xs dn) : Sl w w.heap.size 1 CB x.fon.A fon ∧ x.fon.n = fon.length := own_sl (fun _ => rfl) h.F
end
end Go.Proofs.YtbnfnpakibkboaaGreat

namespace Go.Proofs.YtbnfnpakibkboaaGreat
set_option linter.unusedVariables false
set_option linter.unusedSimpArgs false
open Go.RowKit

section
variable {w w' : World} {B sb : Nat} {x : SL} {C C' : Nat → Ci} {V V' : Nat → Vi} {K K' : Nat → Bool} {z : Zs} {fon run : List Bool} {xs : List Pm} {dn dn' : Nat → Prop}
theorem StA.kyC (h : StA w B sb x C V K z fon run xs dn) (i : Nat) (Y : Ci) :
    Ky B w (((((w.setCell ⟨x.cb, i * 5, none⟩ Y.s1.v).setCell ⟨x.cb, i * 5 + 1, none⟩ Y.s2.v).setCell ⟨x.cb, i * 5 + 2, none⟩ Y.s3.v).setCell ⟨x.cb, i * 5 + 3, none⟩ Y.so.v).setCell ⟨x.cb, i * 5 + 4, none⟩ Y.sk.v) :=
  ⟨fun k hk => five_far (by have := h.lo; omega), fun k cs e h4 h1 h2 hh => five_far (ne_ty h.st.c hh h1)⟩
theorem StA.kyV (h : StA w B sb x C V K z fon run xs dn) (i : Nat) (Y : Vi) :
    Ky B w (((w.setCell ⟨x.vb, i * 3, none⟩ Y.sv.v).setCell ⟨x.vb, i * 3 + 1, none⟩ Y.sa.v).setCell ⟨x.vb, i * 3 + 2, none⟩ (.int .i64 Y.d)) :=
  ⟨fun k hk => three_far (by have := h.lo; omega), fun k cs e h4 h1 h2 hh => three_far (ne_ty h.st.v hh h2)⟩
theorem StA.kyK (h : StA w B sb x C V K z fon run xs dn) (i : Nat) (b : Bool) : Ky B w (w.setCell ⟨x.kb, i, none⟩ (.bool b)) :=
  ⟨fun k hk => Below.heap_setCell _ _ _ _ (by have := h.lo; show k ≠ x.kb; omega), fun k cs e h4 h1 h2 hh => Below.heap_setCell _ _ _ _ (ne_ty h.st.k hh h4)⟩
end
/-- what stays while a part is solved: all but three blocks -/
structure St3 (x : SL) (w w' : World) : Prop where
  os : w'.os = w.os
  tape : w'.tape = w.tape
  output : w'.output = w.output
  size : w.heap.size ≤ w'.heap.size
  blk : ∀ k, k < w.heap.size → k ≠ x.cb → k ≠ x.vb → k ≠ x.kb → w'.heap[k]? = w.heap[k]?
section
variable {x : SL} {w w' w'' : World}
theorem St3.of_below (h : Below w.heap.size w w') : St3 x w w' := ⟨h.os, h.tape, h.output, h.size, fun k hk _ _ _ => h.block k hk⟩
theorem St3.trans (h : St3 x w w') (g : St3 x w' w'') : St3 x w w'' :=
  ⟨g.os.trans h.os, g.tape.trans h.tape, g.output.trans h.output, Nat.le_trans h.size g.size, fun k hk a b c => (g.blk k (by have := h.size; omega) a b c).trans (h.blk k hk a b c)⟩
theorem St3.below (h : St3 x w w') (g : Below w'.heap.size w' w'') : St3 x w w'' := h.trans (St3.of_below g)
theorem St3.refl (w : World) : St3 x w w := ⟨rfl, rfl, rfl, Nat.le_refl _, fun _ _ _ _ _ => rfl⟩
theorem St3.set (h : St3 x w w') (k o : Nat) (v : Value) (hk : k = x.cb ∨ k = x.vb ∨ k = x.kb) : St3 x w (w'.setCell ⟨k, o, none⟩ v) :=
  h.trans ⟨rfl, rfl, rfl, by simp [World.setCell], fun j _ a b c => Below.heap_setCell _ _ _ _ (by rcases hk with e | e | e <;> (show j ≠ k; rw [e]; assumption))⟩
theorem St3.setC (h : St3 x w w') (o : Nat) (v0 v1 v2 v3 v4 : Value) : St3 x w (((((w'.setCell ⟨x.cb, o, none⟩ v0).setCell ⟨x.cb, o + 1, none⟩ v1).setCell ⟨x.cb, o + 2, none⟩ v2).setCell ⟨x.cb, o + 3, none⟩ v3).setCell ⟨x.cb, o + 4, none⟩ v4) :=
  ((((h.set _ _ _ (.inl rfl)).set _ _ _ (.inl rfl)).set _ _ _ (.inl rfl)).set _ _ _ (.inl rfl)).set _ _ _ (.inl rfl)
theorem St3.setV (h : St3 x w w') (o : Nat) (v0 v1 v2 : Value) : St3 x w (((w'.setCell ⟨x.vb, o, none⟩ v0).setCell ⟨x.vb, o + 1, none⟩ v1).setCell ⟨x.vb, o + 2, none⟩ v2) :=
  ((h.set _ _ _ (.inr (.inl rfl))).set _ _ _ (.inr (.inl rfl))).set _ _ _ (.inr (.inl rfl))
theorem St3.setK (h : St3 x w w') (o : Nat) (v : Value) : St3 x w (w'.setCell ⟨x.kb, o, none⟩ v) := h.set _ _ _ (.inr (.inr rfl))
theorem St3.toBelow {B : Nat} (h : St3 x w w') (hB : B ≤ w.heap.size) (h1 : B ≤ x.cb) (h2 : B ≤ x.vb) (h3 : B ≤ x.kb) : Below B w w' :=
  ⟨h.os, h.tape, h.output, h.size, fun k hk => h.blk k (by omega) (by omega) (by omega) (by omega)⟩
end
section
variable {w : World} {B : Nat} {X : Ci} {y : Pm} {z : Zs} {fon run : List Bool} {i : Nat}
theorem PmIn.lens (hp : PmIn w B y) : y.s1.n = y.p.nodes.length ∧ y.s2.n = y.p.wires.length ∧ y.s3.n = y.p.feeds.length ∧ Sl w w.heap.size 1 CI y.s1.A (nI y.p.nodes) ∧ Sl w w.heap.size 4 CW y.s2.A y.p.wires ∧ Sl w w.heap.size 1 CI y.s3.A (nI y.p.feeds) := by
  have h1 := own_sl (f := fI) (size := 1) (fun _ => rfl) hp.o1
  have h2 := own_sl (f := fWv) (size := 4) (fun _ => rfl) hp.o2
  have h3 := own_sl (f := fI) (size := 1) (fun _ => rfl) hp.o3
  exact ⟨h1.2.trans (nI_len _), h2.2, h3.2.trans (nI_len _), h1.1, h2.1, h3.1⟩
theorem PaC.cir (h : PaC w B X y z fon run i) (hp : PmIn w B y) (hyp : y.p = z.pv i) (hz : z.Ok) (hi : i < z.np) :
    CirAt w X.s1.A (z.nd i).length X.s2 X.so X.sk.A (z.nd i) (z.pv i).wires (z.on fon i) (z.tk run i) ∧ X.s1.n = (z.nd i).length ∧ X.sk.n = (z.nd i).length := by
  obtain ⟨l1, l2, l3, a1, a2, a3⟩ := hp.lens
  rw [hyp] at l1 l2 l3 a1 a2 a3
  obtain ⟨tb, t1, t2, t3⟩ := h.tk
  have ho := own_sl (f := fFv) (size := 4) (fun _ => rfl) h.so
  have hwl := wiresB_len hz.wb
  have hfl := (feedsB_nd hz.fb).2
  have hwl2 := Zs.wires_len (z := z) i
  have hol := Zs.on_len (z := z) fon i
  have hcn := hz.cir hi
  refine ⟨⟨(hz.nd_len hi).2, rfl, ?_, ?_, h.son.symm, by rw [h.son]; omega, ?_, ?_, ho.1, ?_, hz.tk_bd run i, ?_, fun x hx => ?_, hcn, hz.fe hi⟩, ?_, ?_⟩
  · rw [h.e2]; exact l2.symm
  · rw [h.e2]; omega
  · rw [h.e1]; exact a1
  · rw [h.e2]; exact a2
  · rw [t1]
    exact t3.sl (by simp) (fun k x hk => by
      obtain ⟨h1, h2⟩ := List.getElem?_eq_some_iff.1 hk
      rw [List.getElem_map, List.getElem_range] at h2
      rw [← h2]; rfl)
  · intro x hx
    obtain ⟨a, b, ea, eb, ha, hb, hpp, hab, hs⟩ := hz.wire hi hx
    rw [ea, eb]
    exact ⟨nI_mem.2 ha, nI_mem.2 hb, by omega, hs.1, hs.2⟩
  · exact hz.on_at hx
  · rw [h.e1]; exact l1
  · rw [t1]
end
end Go.Proofs.YtbnfnpakibkboaaGreat
