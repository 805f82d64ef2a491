/- Contracts: comparing two items of a pile: cmp.Compare, cmp.Or, compare, less. -/
import Derived.Test.YtcpanfpijljeaaaGreatQ1
import Derived.Test.YtcpanfpijljeaaaGreatC3
import Derived.Deep.RegionLaw
import Derived.Deep.RegionHeld3
import Derived.BigRegion
import Derived.LoopN
namespace Go.Proofs.YtcpanfpijljeaaaGreat
set_option linter.unusedVariables false
set_option linter.unusedSimpArgs false
open Go.RowKit

set_option maxHeartbeats 1000000 in
theorem cmp_any (a b : Int) (w : World) : Calls Tryz.prog 103 #[.int .i64 a, .int .i64 b] w fun e w' => e = .returned (.int .i64 (cmpI a b)) ∧ w = w' := by
  by_cases h1 : a < b
  · have H := Lib.hid (show cmpI a b = -1 by simp [cmpI, h1])
    go_enter Tryz.func103, Tryz.ntmps103
    go_wp2
    go_ret
    exact ⟨ret_int H.out.symm, rfl⟩
  · by_cases h2 : b < a
    · have H := Lib.hid (show cmpI a b = 1 by simp [cmpI, h1, h2])
      go_enter Tryz.func103, Tryz.ntmps103
      go_wp2
      go_ret
      exact ⟨ret_int H.out.symm, rfl⟩
    · have H := Lib.hid (show cmpI a b = 0 by simp [cmpI, h1, h2])
      go_enter Tryz.func103, Tryz.ntmps103
      go_wp2
      go_ret
      exact ⟨ret_int H.out.symm, rfl⟩
theorem cmpI_z (a b : Int) : -1 ≤ cmpI a b ∧ cmpI a b ≤ 1 := by
  unfold cmpI; split
  · omega
  · split <;> omega

def orI (x y : Int) : Int := if x = 0 then y else x
set_option maxHeartbeats 1000000 in
theorem or_any (b : Nat) (x y : Int) (w : World) (h0 : w.cell? ⟨b, 0, none⟩ = some (.int .i64 x)) (h1 : w.cell? ⟨b, 1, none⟩ = some (.int .i64 y)) :
    Calls Tryz.prog 102 #[.slice (some ⟨b, 0, none⟩) 2 2] w fun e w' => e = .returned (.int .i64 (orI x y)) ∧ w = w' := by
  by_cases hx : x = 0
  · subst hx
    by_cases hy : y = 0
    · subst hy
      go_enter Tryz.func102, Tryz.ntmps102
      go_wp2
      refine wp_loop_rounds 3 ?_
      rw [rounds_succ]; go_wp2
      rw [rounds_succ]; go_wp2
      rw [rounds_succ]; go_wp2
      go_ret
      exact ⟨rfl, rfl⟩
    · have hy' : (y != 0) = true := by simp [hy]
      have hy2 : (y == 0) = false := by simp [hy]
      go_enter Tryz.func102, Tryz.ntmps102
      go_wp2
      refine wp_loop_rounds 2 ?_
      rw [rounds_succ]; go_wp2
      rw [rounds_succ]; go_wp2
      go_ret
      exact ⟨rfl, rfl⟩
  · have hx' : (x != 0) = true := by simp [hx]
    have hx2 : (x == 0) = false := by simp [hx]
    have H := Lib.hid (show orI x y = x by simp [orI, hx])
    go_enter Tryz.func102, Tryz.ntmps102
    go_wp2
    refine wp_loop_rounds 1 ?_
    rw [rounds_succ]; go_wp2
    go_ret
    exact ⟨ret_int H.out.symm, rfl⟩

theorem or_blk (a b c d x y : Int) (w : World) :
    Calls Tryz.prog 102 #[.slice (some ⟨w.heap.size + 1 + 1, 0, none⟩) 2 2] ((((w.alloc (.cells #[.int .i64 a, .int .i64 b] 118)).alloc (.cells #[.int .i64 c, .int .i64 d] 118)).alloc (.cells #[.int .i64 x, .int .i64 y] 3)).drew)
      fun e w' => e = .returned (.int .i64 (orI x y)) ∧ (((w.alloc (.cells #[.int .i64 a, .int .i64 b] 118)).alloc (.cells #[.int .i64 c, .int .i64 d] 118)).alloc (.cells #[.int .i64 x, .int .i64 y] 3)).drew = w' := by
  have h := heap_alloc_new ((w.alloc (.cells #[.int .i64 a, .int .i64 b] 118)).alloc (.cells #[.int .i64 c, .int .i64 d] 118)) (.cells #[.int .i64 x, .int .i64 y] 3)
  rw [show ((w.alloc (.cells #[.int .i64 a, .int .i64 b] 118)).alloc (.cells #[.int .i64 c, .int .i64 d] 118)).heap.size = w.heap.size + 1 + 1 by simp] at h
  exact or_any _ x y _ (cell_of_row _ _ 0 _ _ _ h) (cell_of_row _ _ 1 _ _ _ h)

def cmp4 (a1 a2 b1 b2 : Int) : Int := orI (cmpI a1 b1) (cmpI a2 b2)
theorem cmpV_eq (a b : V3) : cmpV a b = cmp4 a.l a.m b.l b.m := rfl
def CcPost (z : Int) (w : World) (e : Ending) (w' : World) : Prop := e = .returned (.int .i64 z) ∧ Below w.heap.size w w'
set_option maxHeartbeats 2000000 in
theorem cc_any (a1 a2 b1 b2 : Int) (w : World) :
    Calls Tryz.prog 82 #[.agg #[.int .i64 a1, .int .i64 a2], .agg #[.int .i64 b1, .int .i64 b2]] w (CcPost (cmp4 a1 a2 b1 b2) w) := by
  have HZ := Lib.hid (show cmp4 a1 a2 b1 b2 = orI (cmpI a1 b1) (cmpI a2 b2) from rfl)
  go_enter Tryz.func82, Tryz.ntmps82
  go_wp2_with fail
  go_region_held3 (fun w' => w'.cell? ⟨w.heap.size, 0, none⟩ = some (.int .i64 a1) ∧ w'.cell? ⟨w.heap.size, 1, none⟩ = some (.int .i64 a2) ∧ w'.cell? ⟨w.heap.size + 1, 0, none⟩ = some (.int .i64 b1) ∧ w'.cell? ⟨w.heap.size + 1, 1, none⟩ = some (.int .i64 b2))
    (go_keep)
    ((first
      | (go_at_call 103; refine (cmp_any _ _ _).mono ?_; rintro e w2 ⟨rfl, rfl⟩)
      | (go_at_call 102; refine (or_blk _ _ _ _ _ _ w).mono ?_; rintro e w3 ⟨rfl, rfl⟩)))
  all_goals
    go_wp2
    go_ret
    exact ⟨ret_int HZ.out.symm, ((((Below.refl _ w).alloc (Nat.le_refl _) _).alloc (by simp) _).alloc (by simp; omega) _).drew⟩

set_option maxHeartbeats 2000000 in
theorem cl_any (x y : V3) (w : World) :
    Calls Tryz.prog 81 #[.agg #[.int .i64 x.l, .int .i64 x.m, .int .i64 x.v], .agg #[.int .i64 y.l, .int .i64 y.m, .int .i64 y.v]] w (CcPost (cmpV x y) w) := by
  rw [cmpV_eq]
  obtain ⟨a1, a2, a3⟩ := x
  obtain ⟨b1, b2, b3⟩ := y
  dsimp only
  go_enter Tryz.func81, Tryz.ntmps81
  go_wp2_with fail
  refine (cc_any a1 a2 b1 b2 _).mono ?_
  rintro e w2 ⟨rfl, hb⟩
  have HB := Lib.hid hb; clear hb
  go_wp2
  go_ret
  exact ⟨rfl, (((Below.refl _ w).alloc (Nat.le_refl _) _).alloc (by simp) _).trans (HB.out.mono (by simp; omega))⟩

def LessPost (r : Bool) (w : World) (e : Ending) (w' : World) : Prop := e = .returned (.bool r) ∧ Below w.heap.size w w'
abbrev vless : Value := .func (.func 81) #[] #[]
set_option maxRecDepth 100000 in
set_option maxHeartbeats 4000000 in
theorem less_any {w : World} {base pb : Nat} {l : List V3} {g c : Nat} (h : Pile w base pb vless l g c) {i j : Nat} (hi : i < l.length) (hj : j < l.length) :
    Calls Tryz.prog 159 #[.pointer (some ⟨pb, 0, none⟩), .int .i64 (i : Int), .int .i64 (j : Int)] w (LessPost (ltV l[i] l[j]) w) := by
  obtain ⟨p0, p1, _⟩ := h.head
  obtain ⟨q0, q1, q2⟩ := h.at_ hi
  obtain ⟨r0, r1, r2⟩ := h.at_ hj
  have hpl := h.plt; have hgl := h.glt
  have hcm := h.cm; have hlc := h.lc
  unfold maxLen at hcm
  have i0 : (0 : Int) ≤ (i : Int) := by omega
  have i1 : (i : Int) < (l.length : Int) := by omega
  have j0 : (0 : Int) ≤ (j : Int) := by omega
  have j1 : (j : Int) < (l.length : Int) := by omega
  obtain ⟨x, hx⟩ : ∃ x, l[i] = x := ⟨_, rfl⟩
  obtain ⟨y, hy⟩ : ∃ y, l[j] = y := ⟨_, rfl⟩
  rw [hx] at q0 q1 q2 ⊢
  rw [hy] at r0 r1 r2 ⊢
  have HZ := Lib.hid (show ltV x y = decide (cmpV x y < 0) from rfl)
  clear h hx hy
  go_enter Tryz.func159, Tryz.ntmps159
  go_wp2_with fail
  go_region_held3 (fun w' => w'.cell? ⟨pb, 0, none⟩ = some (.slice (some ⟨g, 0, none⟩) l.length c) ∧ w'.cell? ⟨pb, 1, none⟩ = some vless ∧
      w'.cell? ⟨g, i * 3, none⟩ = some (.int .i64 x.l) ∧ w'.cell? ⟨g, i * 3 + 1, none⟩ = some (.int .i64 x.m) ∧ w'.cell? ⟨g, i * 3 + 2, none⟩ = some (.int .i64 x.v) ∧
      w'.cell? ⟨g, j * 3, none⟩ = some (.int .i64 y.l) ∧ w'.cell? ⟨g, j * 3 + 1, none⟩ = some (.int .i64 y.m) ∧ w'.cell? ⟨g, j * 3 + 2, none⟩ = some (.int .i64 y.v))
    (first | go_keep | exact ⟨(hb.cell (p := ⟨pb, 0, none⟩) hpl).trans p0, (hb.cell (p := ⟨pb, 1, none⟩) hpl).trans p1, (hb.cell (p := ⟨g, i * 3, none⟩) hgl).trans q0, (hb.cell (p := ⟨g, i * 3 + 1, none⟩) hgl).trans q1, (hb.cell (p := ⟨g, i * 3 + 2, none⟩) hgl).trans q2, (hb.cell (p := ⟨g, j * 3, none⟩) hgl).trans r0, (hb.cell (p := ⟨g, j * 3 + 1, none⟩) hgl).trans r1, (hb.cell (p := ⟨g, j * 3 + 2, none⟩) hgl).trans r2⟩)
    ((go_at_call 81; refine (cl_any x y _).mono ?_; rintro e w2 ⟨rfl, hb⟩))
  all_goals
    have HB := Lib.hid hb; clear hb
    go_wp2
    go_ret
    exact ⟨by rw [HZ.out]; rfl, (Below.refl _ w).drew.trans HB.out⟩
theorem less_at {w : World} {base pb : Nat} {l : List V3} {g c : Nat} (h : Pile w base pb vless l g c) {i j : Nat} (hi : i < l.length) (hj : j < l.length) (r : Bool) (hr : ltAt l i j = r) :
    Calls Tryz.prog 159 #[.pointer (some ⟨pb, 0, none⟩), .int .i64 (i : Int), .int .i64 (j : Int)] w (LessPost r w) := by
  rw [← hr, ltAt_at hi hj]
  exact less_any h hi hj
end Go.Proofs.YtcpanfpijljeaaaGreat
