/- Contract: the least item is taken out of a pile. -/
import Derived.Test.YtcpanfpijljeaaaGreatQ5
namespace Go.Proofs.YtcpanfpijljeaaaGreat
set_option linter.unusedVariables false
set_option linter.unusedSimpArgs false
open Go.RowKit

theorem take_set_last {l : List V3} {n : Nat} (x : V3) : (l.set n x).take n = l.take n := by
  rw [List.take_set, List.set_eq_of_length_le (by simp; omega)]
abbrev zV : V3 := ⟨0, 0, 0⟩
def TakePost (w : World) (base pb : Nat) (F : Value) (x : V3) (r : List V3) (g c : Nat) (e : Ending) (w' : World) : Prop :=
  e = .returned (.tuple #[.agg #[.int .i64 x.l, .int .i64 x.m, .int .i64 x.v], .bool true]) ∧ Pile w' base pb F (restL x r) g c ∧ Fp pb g w w'
def TakeNil (w : World) (e : Ending) (w' : World) : Prop := e = .returned (.tuple #[.agg #[.int .i64 0, .int .i64 0, .int .i64 0], .bool false]) ∧ Below w.heap.size w w'
set_option maxHeartbeats 1000000 in
theorem take_nil {w : World} {base pb : Nat} {F : Value} {g c : Nat} (h : Pile w base pb F [] g c) : Calls Tryz.prog 158 #[.pointer (some ⟨pb, 0, none⟩)] w (TakeNil w) := by
  obtain ⟨p0, _, _⟩ := h.head
  have hpl := h.plt
  have hp1 : pb < w.heap.size + 1 := by omega
  rw [List.length_nil] at p0
  clear h
  go_enter Tryz.func158, Tryz.ntmps158
  go_wp2
  exact bodyPost_ret (v := .tuple #[.agg #[.int .i64 0, .int .i64 0, .int .i64 0], .bool false]) (by simp [results, Tryz.results158, go_sem]) rfl ⟨rfl, ((Below.refl _ _).alloc (Nat.le_refl _) _).alloc (by simp) _⟩

theorem new_last (X : World) (o : Obj) (k : Nat) (hk : X.heap.size = k) : (X.alloc o).drew.drew.heap[k]? = some o := by subst hk; exact heap_alloc_new X o
theorem new_first (X : World) (o o2 o3 : Obj) (k : Nat) (hk : X.heap.size = k) : (((X.alloc o).alloc o2).alloc o3).drew.drew.heap[k]? = some o := by
  subst hk
  exact (Below.heap_alloc _ o3 _ (by simp; omega)).trans ((Below.heap_alloc _ o2 _ (by simp)).trans (heap_alloc_new X o))
theorem cells3 {w : World} {K : Nat} {x y z : Value} {t : TypeId} (h : w.heap[K]? = some (.cells #[x, y, z] t)) :
    w.cell? ⟨K, 0, none⟩ = some x ∧ w.cell? ⟨K, 1, none⟩ = some y ∧ w.cell? ⟨K, 2, none⟩ = some z ∧ w.frozen? ⟨K, 0, none⟩ = false ∧ w.frozen? ⟨K, 1, none⟩ = false ∧ w.frozen? ⟨K, 2, none⟩ = false :=
  ⟨cell_of_row _ _ 0 _ _ _ h, cell_of_row _ _ 1 _ _ _ h, cell_of_row _ _ 2 _ _ _ h, fro_row h 0, fro_row h 1, fro_row h 2⟩
set_option maxRecDepth 100000 in
set_option maxHeartbeats 4000000 in
theorem take_one {w : World} {base pb : Nat} {x : V3} {g c : Nat} (h : Pile w base pb vless [x] g c) :
    Calls Tryz.prog 158 #[.pointer (some ⟨pb, 0, none⟩)] w (TakePost w base pb vless x [] g c) := by
  obtain ⟨p0, p1, pf⟩ := h.head
  obtain ⟨q0, q1, q2⟩ := h.at0 (by simp)
  rw [List.getElem_cons_zero] at q0 q1 q2
  have g0 := h.fro 0; have g1 := h.fro 1; have g2 := h.fro 2
  have hpl := h.plt; have hgl := h.glt
  have hp1 : pb < w.heap.size + 1 := by omega
  have hp2 : pb < w.heap.size + 1 + 1 := by omega
  have hp3 : pb < w.heap.size + 1 + 1 + 1 := by omega
  have hg1 : g < w.heap.size + 1 := by omega
  have hg2 : g < w.heap.size + 1 + 1 := by omega
  have hg3 : g < w.heap.size + 1 + 1 + 1 := by omega
  have hne := h.ne
  have hne' : ¬ g = pb := fun e => hne e.symm
  have hcm := h.cm; have hlc := h.lc
  unfold maxLen at hcm
  rw [List.length_cons, List.length_nil] at p0 hlc
  have hP := ((((((h.set0 (by simp) x).set0 (by simp) zV).cut 0 (by simp)).alloc (.cells #[.int .i64 0, .int .i64 0, .int .i64 0] 136)).alloc (.cells #[.int .i64 0, .int .i64 0, .int .i64 0] 136)).alloc (.cells #[.int .i64 x.l, .int .i64 x.m, .int .i64 x.v] 136)).drew.drew
  have hF := Fp.refl pb g w
  replace hF := hF.set (p := ⟨g, 0, none⟩) (.int .i64 x.l) (.inr (.inl rfl))
  replace hF := hF.set (p := ⟨g, 1, none⟩) (.int .i64 x.m) (.inr (.inl rfl))
  replace hF := hF.set (p := ⟨g, 2, none⟩) (.int .i64 x.v) (.inr (.inl rfl))
  replace hF := hF.set (p := ⟨g, 0, none⟩) (.int .i64 0) (.inr (.inl rfl))
  replace hF := hF.set (p := ⟨g, 1, none⟩) (.int .i64 0) (.inr (.inl rfl))
  replace hF := hF.set (p := ⟨g, 2, none⟩) (.int .i64 0) (.inr (.inl rfl))
  replace hF := hF.set (p := ⟨pb, 0, none⟩) (.slice (some ⟨g, 0, none⟩) 0 c) (.inl rfl)
  replace hF := (((hF.alloc (.cells #[.int .i64 0, .int .i64 0, .int .i64 0] 136)).alloc (.cells #[.int .i64 0, .int .i64 0, .int .i64 0] 136)).alloc (.cells #[.int .i64 x.l, .int .i64 x.m, .int .i64 x.v] 136)).drew.drew
  have HP := Lib.hid hP; have HF := Lib.hid hF
  clear h hP hF
  go_enter Tryz.func158, Tryz.ntmps158
  go_wp2
  go_region
  go_wp2
  go_region
  go_wp2_with fail
  refine (sink_any HP.out (by simp)).mono ?_
  rintro e w1 ⟨rfl, hp, hf⟩
  obtain ⟨c0, c1, c2, _, _, _⟩ := cells3 ((hf.block (w.heap.size + 1 + 1) (by simp) (by omega) (by omega)).trans (new_last _ _ _ (by simp)))
  have hd := (hf.block w.heap.size (by simp; omega) (by omega) (by omega)).trans (new_first _ _ _ _ _ (by simp))
  obtain ⟨d0, d1, d2, d3, d4, d5⟩ := cells3 hd
  have k0 : (w1.setCell ⟨w.heap.size, 0, none⟩ (.int .i64 x.l)).cell? ⟨w.heap.size, 0, none⟩ = some (.int .i64 x.l) := cell_of_row _ _ 0 _ _ _ (heap_set_same _ hd)
  have k1 : ((w1.setCell ⟨w.heap.size, 0, none⟩ (.int .i64 x.l)).setCell ⟨w.heap.size, 1, none⟩ (.int .i64 x.m)).cell? ⟨w.heap.size, 1, none⟩ = some (.int .i64 x.m) := cell_of_row _ _ 1 _ _ _ (heap_set_same _ (heap_set_same _ hd))
  have k2 : (((w1.setCell ⟨w.heap.size, 0, none⟩ (.int .i64 x.l)).setCell ⟨w.heap.size, 1, none⟩ (.int .i64 x.m)).setCell ⟨w.heap.size, 2, none⟩ (.int .i64 x.v)).cell? ⟨w.heap.size, 2, none⟩ = some (.int .i64 x.v) := cell_of_row _ _ 2 _ _ _ (heap_set_same _ (heap_set_same _ (heap_set_same _ hd)))
  have HX := Lib.hid (hp); have HY := Lib.hid (HF.out.trans hf (.inl rfl))
  clear hp hf hd p0 p1 pf q0 q1 q2 g0 g1 g2
  go_wp2
  exact bodyPost_ret (v := .tuple #[.agg #[.int .i64 x.l, .int .i64 x.m, .int .i64 x.v], .bool true]) (by simp [results, Tryz.results158, go_sem, k0, k1, k2]) rfl
    ⟨rfl, ((HX.out.other (p := ⟨w.heap.size, 0, none⟩) _ (by simp; omega) (by simp; omega)).other (p := ⟨w.heap.size, 1, none⟩) _ (by simp; omega) (by simp; omega)).other (p := ⟨w.heap.size, 2, none⟩) _ (by simp; omega) (by simp; omega),
      ((HY.out.set (p := ⟨w.heap.size, 0, none⟩) _ (.inr (.inr (Nat.le_refl _)))).set (p := ⟨w.heap.size, 1, none⟩) _ (.inr (.inr (Nat.le_refl _)))).set (p := ⟨w.heap.size, 2, none⟩) _ (.inr (.inr (Nat.le_refl _)))⟩

set_option maxRecDepth 100000 in
set_option maxHeartbeats 4000000 in
theorem take_many {w : World} {base pb : Nat} {x : V3} {r : List V3} {g c : Nat} (h : Pile w base pb vless (x :: r) g c) (hr : r ≠ []) (hl : r.length ≤ 1000000) :
    Calls Tryz.prog 158 #[.pointer (some ⟨pb, 0, none⟩)] w (TakePost w base pb vless x r g c) := by
  obtain ⟨p0, p1, pf⟩ := h.head
  obtain ⟨q0, q1, q2⟩ := h.at0 (by simp)
  rw [List.getElem_cons_zero] at q0 q1 q2
  obtain ⟨n, hn⟩ : ∃ n, r.length = n := ⟨_, rfl⟩
  have hn1 : 1 ≤ n := by rw [← hn]; exact List.length_pos_iff.2 hr
  have hnl : n < (x :: r).length := by simp [hn]
  obtain ⟨r0, r1, r2⟩ := h.at_ hnl
  obtain ⟨y, hy⟩ : ∃ y, (x :: r)[n] = y := ⟨_, rfl⟩
  rw [hy] at r0 r1 r2
  have HL := Lib.hid (show restL x r = downL (((((x :: r).set 0 y).set n zV).take n)) 0 by
    unfold restL
    rw [take_set_last, hn, List.getLast_eq_getElem]
    congr 3
    rw [← hy]
    all_goals (first | (congr 1; done) | (congr 1; simp [hn]) | simp [hn]))
  have g0 := h.fro 0; have g1 := h.fro 1; have g2 := h.fro 2
  have g3 := h.fro (n * 3); have g4 := h.fro (n * 3 + 1); have g5 := h.fro (n * 3 + 2)
  have hpl := h.plt; have hgl := h.glt
  have hp1 : pb < w.heap.size + 1 := by omega
  have hp2 : pb < w.heap.size + 1 + 1 := by omega
  have hp3 : pb < w.heap.size + 1 + 1 + 1 := by omega
  have hg1 : g < w.heap.size + 1 := by omega
  have hg2 : g < w.heap.size + 1 + 1 := by omega
  have hg3 : g < w.heap.size + 1 + 1 + 1 := by omega
  have hne := h.ne
  have hne' : ¬ g = pb := fun e => hne e.symm
  have hcm := h.cm; have hlc := h.lc
  unfold maxLen at hcm
  rw [List.length_cons, hn] at p0 hlc
  have hP := ((((((h.set0 (by simp) y).set (i := n) (by rw [List.length_set]; exact hnl) zV).cut n (by rw [List.length_set, List.length_set]; omega)).alloc (.cells #[.int .i64 0, .int .i64 0, .int .i64 0] 136)).alloc (.cells #[.int .i64 0, .int .i64 0, .int .i64 0] 136)).alloc (.cells #[.int .i64 x.l, .int .i64 x.m, .int .i64 x.v] 136)).drew.drew
  have hF := Fp.refl pb g w
  replace hF := hF.set (p := ⟨g, 0, none⟩) (.int .i64 y.l) (.inr (.inl rfl))
  replace hF := hF.set (p := ⟨g, 1, none⟩) (.int .i64 y.m) (.inr (.inl rfl))
  replace hF := hF.set (p := ⟨g, 2, none⟩) (.int .i64 y.v) (.inr (.inl rfl))
  replace hF := hF.set (p := ⟨g, n * 3, none⟩) (.int .i64 0) (.inr (.inl rfl))
  replace hF := hF.set (p := ⟨g, n * 3 + 1, none⟩) (.int .i64 0) (.inr (.inl rfl))
  replace hF := hF.set (p := ⟨g, n * 3 + 2, none⟩) (.int .i64 0) (.inr (.inl rfl))
  replace hF := hF.set (p := ⟨pb, 0, none⟩) (.slice (some ⟨g, 0, none⟩) n c) (.inl rfl)
  replace hF := (((hF.alloc (.cells #[.int .i64 0, .int .i64 0, .int .i64 0] 136)).alloc (.cells #[.int .i64 0, .int .i64 0, .int .i64 0] 136)).alloc (.cells #[.int .i64 x.l, .int .i64 x.m, .int .i64 x.v] 136)).drew.drew
  have HP := Lib.hid hP; have HF := Lib.hid hF
  have HNN := Lib.hid hn
  clear h hP hF hy hr
  have hw1 : IntKind.i64.wrap ((n : Int) + 1 - 1) = (n : Int) := by rw [IntKind.wrap_i64]; omega
  have hw2 : IntKind.i64.wrap (n : Int) = (n : Int) := by rw [IntKind.wrap_i64]; omega
  have j0 : (0 : Int) ≤ (n : Int) := by omega
  have j1 : (n : Int) < (n : Int) + 1 := by omega
  have j2 : (0 : Int) < (n : Int) + 1 := by omega
  have j3 : 0 < n + 1 := by omega
  have j4 : (n : Int) ≤ (c : Int) := by omega
  have j5 : ((n : Int) + 1 == 0) = false := by simp; omega
  have u0 : ¬ n * 3 = 0 := by omega
  have u1 : ¬ 0 = n * 3 := by omega
  have u2 : ¬ n * 3 = 1 := by omega
  have u3 : ¬ 1 = n * 3 := by omega
  have u4 : ¬ n * 3 = 2 := by omega
  have u5 : ¬ 2 = n * 3 := by omega
  have u6 : ¬ n * 3 + 1 = 0 := by omega
  have u7 : ¬ 0 = n * 3 + 1 := by omega
  have u8 : ¬ n * 3 + 1 = 1 := by omega
  have u9 : ¬ 1 = n * 3 + 1 := by omega
  have u10 : ¬ n * 3 + 1 = 2 := by omega
  have u11 : ¬ 2 = n * 3 + 1 := by omega
  have u12 : ¬ n * 3 + 2 = 0 := by omega
  have u13 : ¬ 0 = n * 3 + 2 := by omega
  have u14 : ¬ n * 3 + 2 = 1 := by omega
  have u15 : ¬ 1 = n * 3 + 2 := by omega
  have u16 : ¬ n * 3 + 2 = 2 := by omega
  have u17 : ¬ 2 = n * 3 + 2 := by omega
  clear hn hnl
  go_enter Tryz.func158, Tryz.ntmps158
  go_wp2
  go_region
  go_wp2
  clear hw1 hw2
  go_region
  go_wp2_with fail
  refine (sink_any HP.out (by simp; omega)).mono ?_
  rintro e w1 ⟨rfl, hp, hf⟩
  rw [← HL.out] at hp
  obtain ⟨c0, c1, c2, _, _, _⟩ := cells3 ((hf.block (w.heap.size + 1 + 1) (by simp) (by omega) (by omega)).trans (new_last _ _ _ (by simp)))
  have hd := (hf.block w.heap.size (by simp; omega) (by omega) (by omega)).trans (new_first _ _ _ _ _ (by simp))
  obtain ⟨d0, d1, d2, d3, d4, d5⟩ := cells3 hd
  have k0 : (w1.setCell ⟨w.heap.size, 0, none⟩ (.int .i64 x.l)).cell? ⟨w.heap.size, 0, none⟩ = some (.int .i64 x.l) := cell_of_row _ _ 0 _ _ _ (heap_set_same _ hd)
  have k1 : ((w1.setCell ⟨w.heap.size, 0, none⟩ (.int .i64 x.l)).setCell ⟨w.heap.size, 1, none⟩ (.int .i64 x.m)).cell? ⟨w.heap.size, 1, none⟩ = some (.int .i64 x.m) := cell_of_row _ _ 1 _ _ _ (heap_set_same _ (heap_set_same _ hd))
  have k2 : (((w1.setCell ⟨w.heap.size, 0, none⟩ (.int .i64 x.l)).setCell ⟨w.heap.size, 1, none⟩ (.int .i64 x.m)).setCell ⟨w.heap.size, 2, none⟩ (.int .i64 x.v)).cell? ⟨w.heap.size, 2, none⟩ = some (.int .i64 x.v) := cell_of_row _ _ 2 _ _ _ (heap_set_same _ (heap_set_same _ (heap_set_same _ hd)))
  have HX := Lib.hid (hp); have HY := Lib.hid (HF.out.trans hf (.inl rfl))
  clear hp hf hd p0 p1 pf q0 q1 q2 g0 g1 g2 r0 r1 r2 g3 g4 g5
  go_wp2
  exact bodyPost_ret (v := .tuple #[.agg #[.int .i64 x.l, .int .i64 x.m, .int .i64 x.v], .bool true]) (by simp [results, Tryz.results158, go_sem, k0, k1, k2]) rfl
    ⟨rfl, ((HX.out.other (p := ⟨w.heap.size, 0, none⟩) _ (by simp; omega) (by simp; omega)).other (p := ⟨w.heap.size, 1, none⟩) _ (by simp; omega) (by simp; omega)).other (p := ⟨w.heap.size, 2, none⟩) _ (by simp; omega) (by simp; omega),
      ((HY.out.set (p := ⟨w.heap.size, 0, none⟩) _ (.inr (.inr (Nat.le_refl _)))).set (p := ⟨w.heap.size, 1, none⟩) _ (.inr (.inr (Nat.le_refl _)))).set (p := ⟨w.heap.size, 2, none⟩) _ (.inr (.inr (Nat.le_refl _)))⟩

def TakeAll (w : World) (base pb : Nat) (F : Value) (x : V3) (r : List V3) (g c : Nat) := TakePost w base pb F x r g c
theorem take_any {w : World} {base pb : Nat} {x : V3} {r : List V3} {g c : Nat} (h : Pile w base pb vless (x :: r) g c) (hl : r.length ≤ 1000000) :
    Calls Tryz.prog 158 #[.pointer (some ⟨pb, 0, none⟩)] w (TakePost w base pb vless x r g c) := by
  cases r with
  | nil => exact take_one h
  | cons y r => exact take_many h (by simp) hl
end Go.Proofs.YtcpanfpijljeaaaGreat
