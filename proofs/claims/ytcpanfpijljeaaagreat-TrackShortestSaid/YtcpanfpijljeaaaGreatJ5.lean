/- Contracts: Shortest and Ways. -/
import Derived.BigQuiet
import Derived.Deep.AppendLies
import Derived.Deep.LoopGhost
import Derived.Deep.QuietTactic
import Derived.Deep.RegionLaw
import Derived.Deep.RegionWith
import Derived.Lib.AppendZeros
import Derived.Test.YtcpanfpijljeaaaGreatG4
import Derived.Test.YtcpanfpijljeaaaGreatJ1
import Derived.Test.YtcpanfpijljeaaaGreatJ2
import Derived.Test.YtcpanfpijljeaaaGreatJ3
import Derived.Test.YtcpanfpijljeaaaGreatJ4
namespace Go.Proofs.YtcpanfpijljeaaaGreat.DH
set_option linter.unusedVariables false
set_option linter.unusedSimpArgs false
open Go.RowKit

def GrowPost (n : Nat) (w : World) (e : Ending) (w' : World) : Prop := (∃ A c, e = .returned (.slice A 0 c) ∧ Own w' w.heap.size 3 1 fI (.slice A 0 c) ([] : List Int)) ∧ Below w.heap.size w w'
set_option maxRecDepth 100000 in
set_option maxHeartbeats 2000000 in
theorem grow_any (n : Nat) (h0 : 0 < n) (hn : n ≤ 100000) (w : World) : Calls Tryz.prog 116 #[.slice none 0 0, .int .i64 (n : Int)] w (GrowPost n w) := by
  obtain ⟨i0, hi, hz0, hz1, hz2⟩ := info_parts inf3
  have hr := fun ty => Lib.run_append_nil_zeros (P := Tryz.prog) w.drew 50 3 ty 3 i0 _ .i64 .i64 Tryz.underlying50 Tryz.underlying3 hi hz0 n h0 (by rw [hz1]; omega) (by omega) (by rw [hz2]; omega)
  have hr0 := fun ty => Lib.run_append_nil_zeros (P := Tryz.prog) w 50 3 ty 3 i0 _ .i64 .i64 Tryz.underlying50 Tryz.underlying3 hi hz0 n h0 (by rw [hz1]; omega) (by omega) (by rw [hz2]; omega)
  have hg := grownCap_ge w n 0 3
  have hgm := grownCap_le_maxLen w n 0 3 (by unfold maxLen; omega)
  obtain ⟨G, hG⟩ : ∃ G, grownCap w n 0 3 = G := ⟨_, rfl⟩
  rw [hG] at hg hgm
  simp only [hG] at hr0
  have h1 : ¬ (n : Int) < 0 := by omega
  have h2 : (0 : Int) < (n : Int) := by omega
  have h3 : decide ((n : Int) > 0) = true := by simp; omega
  have hGm : (G : Int) ≤ 9223372036854775807 := by unfold maxLen at hgm; omega
  clear hr hG
  go_enter Tryz.func116, Tryz.ntmps116
  go_wp2_with (at_builtin; refine Lib.wpList_append_run _ rfl _ _ _ _ rfl _ _ rfl rfl _ _ (hr0 _) ?_)
  go_ret
  refine ⟨⟨_, _, rfl, ?_⟩, ((Below.refl _ w).drew).alloc (Nat.le_refl _) _⟩
  have := Own.made (f := fI) (size := 1) (e := 3) w.drew (Builtin.zeroCells (Value.int .i64 0).cells n ++ Builtin.zeroCells (Value.int .i64 0).cells (G - n)) G (Nat.le_refl _) hgm (by simp [Builtin.zeroCells, Value.cells]; omega)
  exact this

theorem grow_z (n : Nat) (h0 : 0 < n) (hn : n ≤ 100000) (z : Int) (hz : z = (n : Int)) (w : World) : Calls Tryz.prog 116 #[.slice none 0 0, .int .i64 z] w (GrowPost n w) := by
  subst hz; exact grow_any n h0 hn w
theorem zs_app (a b : List Nat) : zs (a ++ b) = zs a ++ zs b := by simp [zs]
def CatPost (l : List Nat) (w : World) (e : Ending) (w' : World) : Prop := (∃ v, e = .returned v ∧ Own w' w.heap.size 3 1 fI v (zs l)) ∧ Below w.heap.size w w'
set_option maxRecDepth 100000 in
set_option maxHeartbeats 4000000 in
theorem concat_any (K : Nat) (A B : Option Addr) (a b : List Nat) (c d : Nat) (w : World) (hA : Sl w w.heap.size 1 CI A (zs a)) (hB : Sl w w.heap.size 1 CI B (zs b)) (hK : K < w.heap.size)
    (k0 : w.cell? ⟨K, 0, none⟩ = some (.slice A a.length c)) (k1 : w.cell? ⟨K, 1, none⟩ = some (.slice B b.length d)) (ha : a.length ≤ 1000) (hb : b.length ≤ 1000) (hb0 : b ≠ []) :
    Calls Tryz.prog 108 #[.slice (some ⟨K, 0, none⟩) 2 2] w (CatPost (a ++ b) w) := by
  obtain ⟨i0, hi, hz0, hz1, hz2⟩ := info_parts inf3
  have hbp : 0 < b.length := List.length_pos_iff.2 hb0
  have HA := Lib.hid hA; have HB := Lib.hid hB
  obtain ⟨na, hna⟩ : ∃ n, a.length = n := ⟨_, rfl⟩
  obtain ⟨nb, hnb⟩ : ∃ n, b.length = n := ⟨_, rfl⟩
  have HNA := Lib.hid (show (zs a).length = na by rw [zs_len]; exact hna); have HNB := Lib.hid (show (zs b).length = nb by rw [zs_len]; exact hnb)
  rw [hna] at k0 ha
  rw [hnb] at k1 hb hbp
  have HZ := Lib.hid (zs_app a b)
  clear hA hB hna hnb hb0
  go_enter Tryz.func108, Tryz.ntmps108
  go_wp2
  refine wp_loop_rounds 3 ?_
  rw [rounds_succ]; go_wp2
  rw [rounds_succ]; go_wp2
  rw [rounds_succ]; go_wp2_with fail
  refine (grow_z (na + nb) (by omega) (by omega) _ (by omega) w).mono ?_
  rintro e w2 ⟨⟨A2, c2, rfl, hown⟩, hb2⟩
  have HO := Lib.hid hown
  have HB2 := Lib.hid hb2
  have HSA := Lib.hid (((HA.out.below hb2).more (B' := w2.heap.size) (C' := fun x cs => cs = fI x) (fun _ _ h => h) hb2.size))
  have HSB := Lib.hid (((HB.out.below hb2).more (B' := w2.heap.size) (C' := fun x cs => cs = fI x) (fun _ _ h => h) hb2.size))
  replace k0 := (hb2.cell (p := ⟨K, 0, none⟩) hK).trans k0
  replace k1 := (hb2.cell (p := ⟨K, 1, none⟩) hK).trans k1
  have hK2 : K < w2.heap.size := Nat.lt_of_lt_of_le hK hb2.size
  have hbw := hb2.size
  clear hown hb2
  go_wp2
  refine wp_loop_rounds 3 ?_
  rw [rounds_succ]
  go_wp2_with (at_builtin; refine wpList_app _ rfl (.tmp 31) (.tmp 32) _ rfl w.heap.size 3 i0 _ 1 8 Tryz.underlying50 hi hz0 hz1 hz2 rfl (by omega) fI_len fI_one (.slice A2 0 c2) [] rfl HO.out w2.heap.size A (zs a) c (by rw [HNA.out]; rfl) HSA.out (by rw [HNA.out]; unfold maxLen; simp only [List.length_nil]; omega) (by rw [HNA.out]; simp only [List.length_nil]; omega) (by omega) (fun _ => by cases A; exact .inl rfl; exact .inr ⟨_, rfl⟩) ?_; intro v3 w3 o3 gr3 at3 ne3)
  have HB3 := Lib.hid (HB2.out.grown gr3 hbw (fun b hb => (HO.out.lt b hb).1))
  have HO3 := Lib.hid o3
  replace k0 := ((HB3.out.cell (p := ⟨K, 0, none⟩) hK).trans (HB2.out.cell (p := ⟨K, 0, none⟩) hK).symm).trans k0
  replace k1 := ((HB3.out.cell (p := ⟨K, 1, none⟩) hK).trans (HB2.out.cell (p := ⟨K, 1, none⟩) hK).symm).trans k1
  have HSB3 := Lib.hid ((HB.out.below HB3.out).more (B' := w3.heap.size) (C' := fun x cs => cs = fI x) (fun _ _ h => h) HB3.out.size)
  have hbw3 := HB3.out.size
  obtain ⟨A3, c3, hv3, _, _, _⟩ := o3.form
  rw [List.nil_append, HNA.out] at hv3
  subst hv3
  clear o3 gr3 at3 ne3
  try go_wp2
  rw [rounds_succ]
  go_wp2_with (at_builtin; refine wpList_app _ rfl (.tmp 31) (.tmp 32) _ rfl w.heap.size 3 i0 _ 1 8 Tryz.underlying50 hi hz0 hz1 hz2 rfl (by omega) fI_len fI_one (.slice A3 na c3) (zs a) rfl HO3.out w3.heap.size B (zs b) d (by rw [HNB.out]; rfl) HSB3.out (by rw [HNA.out, HNB.out]; unfold maxLen; omega) (by rw [HNA.out, HNB.out]; omega) (by omega) (fun _ => by cases B; exact .inl rfl; exact .inr ⟨_, rfl⟩) ?_; intro v4 w4 o4 gr4 at4 ne4)
  have HB4 := Lib.hid (HB3.out.grown gr4 hbw3 (fun b hb => (HO3.out.lt b hb).1))
  have HO4 := Lib.hid o4
  clear o4 gr4 at4 ne4
  try go_wp2
  rw [rounds_succ]
  go_wp2
  go_ret
  exact ⟨⟨v4, rfl, by rw [HZ.out]; exact HO4.out⟩, HB4.out⟩
end Go.Proofs.YtcpanfpijljeaaaGreat.DH

namespace Go.Proofs.YtcpanfpijljeaaaGreat.DH
set_option linter.unusedVariables false
set_option linter.unusedSimpArgs false
open Go.RowKit

/-- the length of a move's rail -/
def wtP (p : Pl) (x : Nat) : Int := lenAt p ((x : Int) / 2)
theorem wlen_zs (p : Pl) (l : List Nat) : wlen p (zs l) = (l.map (wtP p)).sum := by
  unfold wlen zs; rw [List.map_map]; rfl
theorem spn_cons (p : Pl) (a : Nat) (r : List Nat) (u : Nat) (x y : Int) : spn (wtP p) (a :: r) u (x, y) = (wlen p (zs r) + wtP p u + x, (r.length : Int) + 1 + y) := by
  unfold spn pl
  rw [wlen_zs]
  simp [List.sum_append]
theorem sl_tail {w : World} {B : Nat} {b o : Nat} {a : Nat} {r : List Nat} (h : Sl w B 1 CI (some ⟨b, o, none⟩) (zs (a :: r))) : Sl w B 1 CI (some ⟨b, o + 1, none⟩) (zs r) := by
  intro hne
  obtain ⟨b', o', e, hb, hc⟩ := h (by simp [zs])
  injection e with e
  injection e with e1 e2 _
  subst e1; subst e2
  refine ⟨b, o + 1, rfl, hb, fun i x hx => ?_⟩
  obtain ⟨cs, h1, h2⟩ := hc (i + 1) x (by simpa [zs] using hx)
  refine ⟨cs, h1, fun j u hu => ?_⟩
  have := h2 j u hu
  rw [show o + 1 + i * 1 + j = o + (i + 1) * 1 + j by omega]
  exact this
def SpPost (z : Int × Int) (w : World) (e : Ending) (w' : World) : Prop := e = .returned (.agg #[.int .i64 z.1, .int .i64 z.2]) ∧ Below w.heap.size w w'
set_option maxRecDepth 100000 in
set_option maxHeartbeats 1000000 in
theorem spent_any (B g M : Nat) (p : Pl) (F : List Nat) (A : Option Addr) (c u : Nat) (x y : Int) (w : World) (hM : 2 * p.rails.length = M) (h : Nw w B g p) (hB : B ≤ w.heap.size) (hA : Sl w w.heap.size 1 CI A (zs F)) (hc : F.length ≤ c) (hcm : c ≤ maxLen)
    (hF : ∀ z ∈ F, z < M) (hl : F.length ≤ 1000) (hu : u < M) (hx0 : 0 ≤ x) (hx : x ≤ 1000000000000) (hy0 : 0 ≤ y) (hy : y ≤ 1000000000000) :
    Calls Tryz.prog 107 #[.pointer (some ⟨g, 0, none⟩), .slice A F.length c, .int .i64 (u : Int), .agg #[.int .i64 x, .int .i64 y]] w (SpPost (spn (wtP p) F u (x, y)) w) := by
  have hb0 : Below w.heap.size w ((w.alloc (.cells #[.int .i64 x, .int .i64 y] 118)).alloc (.cells #[.int .i64 0, .int .i64 0] 118)) := ((Below.refl _ w).alloc (Nat.le_refl _) _).alloc (by simp) _
  have HB0 := Lib.hid hb0
  have hx1 := cell_keep1 (o := .cells #[.int .i64 0, .int .i64 0] 118) (cell_new1 w #[.int .i64 x, .int .i64 y] 118 0) (by simp)
  have hx2 := cell_keep1 (o := .cells #[.int .i64 0, .int .i64 0] 118) (cell_new1 w #[.int .i64 x, .int .i64 y] 118 1) (by simp)
  simp only [List.getElem?_toArray, List.getElem?_cons_zero, List.getElem?_cons_succ] at hx1 hx2
  have hnew := heap_alloc_new (w.alloc (.cells #[.int .i64 x, .int .i64 y] 118)) (.cells #[.int .i64 0, .int .i64 0] 118)
  rw [show (w.alloc (.cells #[.int .i64 x, .int .i64 y] 118)).heap.size = w.heap.size + 1 by simp] at hnew
  rcases F with _ | ⟨a, r⟩
  · have HZ := Lib.hid (show spn (wtP p) [] u (x, y) = (x, y) by simp [spn, pl])
    clear hA hF h hc hl hb0
    go_enter Tryz.func107, Tryz.ntmps107
    go_wp2
    exact bodyPost_ret (v := .agg #[.int .i64 x, .int .i64 y]) (by simp [results, Tryz.results107, go_sem]) rfl ⟨by rw [HZ.out], ((Below.refl _ w).alloc (Nat.le_refl _) _).alloc (by simp) _⟩
  · have hsz := h.sizes
    have hv := h.v
    have HZ := Lib.hid (spn_cons p a r u x y)
    have hM8 : M ≤ 800 := by omega
    have huh : u / 2 < p.rails.length := by omega
    obtain ⟨b, o, hAe, hbl, _⟩ := hA (by simp [zs])
    subst hAe
    have HT := Lib.hid (((sl_tail hA).below hb0).more (C' := CI) (fun _ _ h => h) hb0.size)
    have HNW := Lib.hid ((h.below (hb0.mono hB)).more (Nat.le_trans hB hb0.size))
    have hN2 := (h.below (hb0.mono hB))
    obtain ⟨A1, c1, A2, c2, lb, sb, nb, bb, hN, x1, x2, x3, x4, x5, x6⟩ := hN2.net
    obtain ⟨_, _, k2, _, _, _⟩ := hN.cell
    have q5 := x3.cell (i := u / 2) (by rw [lens_len]; exact huh)
    rw [lens_get huh] at q5
    have hW := wlen_bd hv (zs r)
    rw [zs_len] at hW
    have hY := lenAt_bd hv ((u / 2 : Nat) : Int)
    obtain ⟨W, hWe⟩ : ∃ W, wlen p (zs r) = W := ⟨_, rfl⟩
    obtain ⟨Y, hYe⟩ : ∃ Y, lenAt p ((u / 2 : Nat) : Int) = Y := ⟨_, rfl⟩
    rw [show wtP p u = Y from by unfold wtP; rw [← hYe]; congr 1, hWe] at HZ
    rw [hWe] at hW; rw [hYe] at hY q5
    have HRB := Lib.hid (show ∀ z ∈ zs r, 0 ≤ z ∧ z < 2 * (p.rails.length : Int) from fun z hz => by
      obtain ⟨k, hk, rfl⟩ := List.mem_map.1 hz
      have := hF k (List.mem_cons_of_mem _ hk)
      omega)
    have HWE := Lib.hid hWe
    have HRL := Lib.hid (zs_len r)
    rw [List.length_cons] at hc hl
    have hlr : (r.length : Int) ≤ 1000 := by omega
    have hW1 : W ≤ 1107296256000 := by omega
    obtain ⟨hW0, _⟩ := hW
    obtain ⟨hY0, hY1⟩ := hY
    have u0 : (0 : Int) ≤ (u : Int) := by omega
    have u1 : (u : Int) ≤ 800 := by omega
    have c0 : (1 : Int) ≤ (r.length : Int) + 1 := by omega
    have c9 : (r.length : Int) + 1 ≤ (c : Int) := by omega
    have cm9 : (c : Int) ≤ 9223372036854775807 := by unfold maxLen at hcm; omega
    have hgl : g < w.heap.size := Nat.lt_of_lt_of_le h.gB hB
    have hlbl : lb < w.heap.size := by omega
    have g1 : g < w.heap.size + 1 := by omega
    have g2 : g < w.heap.size + 1 + 1 := by omega
    have l1 : lb < w.heap.size + 1 := by omega
    have l2 : lb < w.heap.size + 1 + 1 := by omega
    clear hA hF h hN2 hN x1 x2 x3 x4 x5 x6 hWe hYe hv hsz hM hbl
    rw [List.length_cons]
    obtain ⟨n, hn⟩ : ∃ n, r.length = n := ⟨_, rfl⟩
    rw [hn] at HRL hlr c0 c9 HZ ⊢
    obtain ⟨uh, huq⟩ : ∃ z, u / 2 = z := ⟨_, rfl⟩
    have u2 : (u : Int) / 2 = (uh : Int) := by omega
    rw [huq] at q5 huh
    have u3 : (0 : Int) ≤ (uh : Int) := by omega
    have u4 : (uh : Int) < (p.rails.length : Int) := by omega
    have u6 : (uh : Int) ≤ 800 := by omega
    have u7 : IntKind.i64.wrap (uh : Int) = (uh : Int) := by rw [IntKind.wrap_i64]; omega
    have w1 : IntKind.i64.wrap (W + Y) = W + Y := by rw [IntKind.wrap_i64]; omega
    have w2 : IntKind.i64.wrap (W + Y + x) = W + Y + x := by rw [IntKind.wrap_i64]; omega
    have w3 : IntKind.i64.wrap ((n : Int) + 1 + y) = (n : Int) + 1 + y := by rw [IntKind.wrap_i64]; omega
    clear huq
    go_enter Tryz.func107, Tryz.ntmps107
    by_cases hc1 : c = 1
    · subst hc1
      obtain rfl : n = 0 := by omega
      replace w3 : IntKind.i64.wrap (1 + y) = 1 + y := by rw [IntKind.wrap_i64]; omega
      go_upto_region 3 with (fail)
      obtain ⟨W1, hW1'⟩ : ∃ W1, (w.alloc (.cells #[.int .i64 x, .int .i64 y] 118)).alloc (.cells #[.int .i64 0, .int .i64 0] 118) = W1 := ⟨_, rfl⟩
      rw [hW1'] at hx1 hx2 hnew HB0 HT HNW k2 q5 ⊢
      have HBD := Lib.hid ((Below.refl W1.heap.size W1).drew)
      have HT1 := Lib.hid (show Sl W1.drew W1.drew.heap.size 1 CI (some ⟨b, o, none⟩) (zs r) from by rw [show r = [] from List.eq_nil_of_length_eq_zero hn]; exact Sl.nil)
      have HN1 := Lib.hid (show Nw W1.drew W1.drew.heap.size g p from HNW.out.below HBD.out)
      have HWL := Lib.hid (show Calls Tryz.prog 55 #[.pointer (some ⟨g, 0, none⟩), .slice (some ⟨b, o, none⟩) 0 0] W1.drew fun e w' => e = .returned (.int .i64 W) ∧ W1.drew = w' from by
        have := wayLength_any _ g p _ (zs r) (0) _ HN1.out HT1.out (by rw [HRL.out]; omega) HRB.out
        rwa [HRL.out, HWE.out] at this)
      clear hW1'
      go_region_held3 (fun w' => w'.cell? ⟨g, 2, none⟩ = some (.slice (some ⟨lb, 0, none⟩) p.rails.length p.rails.length) ∧ w'.cell? ⟨lb, uh, none⟩ = some (.int .i64 Y) ∧ w'.cell? ⟨w.heap.size, 0, none⟩ = some (.int .i64 x) ∧ w'.cell? ⟨w.heap.size, 1, none⟩ = some (.int .i64 y))
        (first | go_keep | exact ⟨k2, q5, hx1, hx2⟩)
        ((go_at_call 55; refine (HWL.out).mono ?_; rintro e w2 ⟨rfl, rfl⟩))
      all_goals
        obtain ⟨y0, y1, y2, y3⟩ := row2 hnew
        go_wp2
        have z0 := cell_of_row _ _ 0 _ _ _ (heap_set_same (i := 1) (.int .i64 (1 + y)) (heap_set_same (i := 0) (.int .i64 (W + Y + x)) hnew))
        have z1 := cell_of_row _ _ 1 _ _ _ (heap_set_same (i := 1) (.int .i64 (1 + y)) (heap_set_same (i := 0) (.int .i64 (W + Y + x)) hnew))
        simp only [List.setIfInBounds_toArray, List.set_cons_zero, List.set_cons_succ, List.getElem?_toArray, List.getElem?_cons_zero, List.getElem?_cons_succ] at z0 z1
        exact bodyPost_ret (v := .agg #[.int .i64 (W + Y + x), .int .i64 (1 + y)]) (by simp [results, Tryz.results107, go_sem, z0, z1]) rfl ⟨by rw [HZ.out]; simp, HB0.out.trans ((((Below.refl _ W1).setCell (p := ⟨w.heap.size + 1, 0, none⟩) (by simp) _).setCell (p := ⟨w.heap.size + 1, 1, none⟩) (by simp) _).drew)⟩
    · have hc2 : (1 : Int) < (c : Int) := by omega
      have hc3 : ¬ c - 1 = 0 := by omega
      have hc4 : ((c - 1 : Nat) : Int) = (c : Int) - 1 := by omega
      go_upto_region 3 with (fail)
      obtain ⟨W1, hW1'⟩ : ∃ W1, (w.alloc (.cells #[.int .i64 x, .int .i64 y] 118)).alloc (.cells #[.int .i64 0, .int .i64 0] 118) = W1 := ⟨_, rfl⟩
      rw [hW1'] at hx1 hx2 hnew HB0 HT HNW k2 q5 ⊢
      have HBD := Lib.hid ((Below.refl W1.heap.size W1).drew)
      have HT1 := Lib.hid (show Sl W1.drew W1.drew.heap.size 1 CI (some ⟨b, o + 1, none⟩) (zs r) from (HT.out.below HBD.out))
      have HN1 := Lib.hid (show Nw W1.drew W1.drew.heap.size g p from HNW.out.below HBD.out)
      have HWL := Lib.hid (show Calls Tryz.prog 55 #[.pointer (some ⟨g, 0, none⟩), .slice (some ⟨b, o + 1, none⟩) n (c - 1)] W1.drew fun e w' => e = .returned (.int .i64 W) ∧ W1.drew = w' from by
        have := wayLength_any _ g p _ (zs r) ((c - 1)) _ HN1.out HT1.out (by rw [HRL.out]; omega) HRB.out
        rwa [HRL.out, HWE.out] at this)
      clear hW1'
      go_region_held3 (fun w' => w'.cell? ⟨g, 2, none⟩ = some (.slice (some ⟨lb, 0, none⟩) p.rails.length p.rails.length) ∧ w'.cell? ⟨lb, uh, none⟩ = some (.int .i64 Y) ∧ w'.cell? ⟨w.heap.size, 0, none⟩ = some (.int .i64 x) ∧ w'.cell? ⟨w.heap.size, 1, none⟩ = some (.int .i64 y))
        (first | go_keep | exact ⟨k2, q5, hx1, hx2⟩)
        ((go_at_call 55; refine (HWL.out).mono ?_; rintro e w2 ⟨rfl, rfl⟩))
      all_goals
        obtain ⟨y0, y1, y2, y3⟩ := row2 hnew
        go_wp2
        have z0 := cell_of_row _ _ 0 _ _ _ (heap_set_same (i := 1) (.int .i64 ((n : Int) + 1 + y)) (heap_set_same (i := 0) (.int .i64 (W + Y + x)) hnew))
        have z1 := cell_of_row _ _ 1 _ _ _ (heap_set_same (i := 1) (.int .i64 ((n : Int) + 1 + y)) (heap_set_same (i := 0) (.int .i64 (W + Y + x)) hnew))
        simp only [List.setIfInBounds_toArray, List.set_cons_zero, List.set_cons_succ, List.getElem?_toArray, List.getElem?_cons_zero, List.getElem?_cons_succ] at z0 z1
        exact bodyPost_ret (v := .agg #[.int .i64 (W + Y + x), .int .i64 ((n : Int) + 1 + y)]) (by simp [results, Tryz.results107, go_sem, z0, z1]) rfl ⟨by rw [HZ.out], HB0.out.trans ((((Below.refl _ W1).setCell (p := ⟨w.heap.size + 1, 0, none⟩) (by simp) _).setCell (p := ⟨w.heap.size + 1, 1, none⟩) (by simp) _).drew)⟩
end Go.Proofs.YtcpanfpijljeaaaGreat.DH

namespace Go.Proofs.YtcpanfpijljeaaaGreat.DH
set_option linter.unusedVariables false
set_option linter.unusedSimpArgs false
open Go.RowKit

def gB1 (cl : List Bool) (x : Nat) : Bool := cl.getD x false
theorem gB1_at {cl : List Bool} {x : Nat} (h : x < cl.length) : gB1 cl x = cl[x] := by simp [gB1, h]
set_option maxHeartbeats 1000000 in
theorem shut_any (M kb bc x : Nat) (cl : List Bool) (w : World) (hk : BRow w kb cl) (hl : cl.length = M) (hx : x < M) (e0 : w.cell? ⟨bc, 0, none⟩ = some (.slice (some ⟨kb, 0, none⟩) M M)) :
    Calls Tryz.prog 106 #[.int .i64 (x : Int), .pointer (some ⟨bc, 0, none⟩)] w fun e w' => e = .returned (.bool (gB1 cl x)) ∧ w = w' := by
  have q := hk.cell (i := x) (by omega)
  rw [← gB1_at] at q
  have x0 : (0 : Int) ≤ (x : Int) := by omega
  have x1 : (x : Int) < (M : Int) := by omega
  clear hk hl
  go_enter Tryz.func106, Tryz.ntmps106
  go_wp2
  go_ret
  exact ⟨rfl, rfl⟩

set_option maxRecDepth 100000 in
set_option maxHeartbeats 2000000 in
theorem indexShut_any (M kb bc : Nat) (A : Option Addr) (L : List Nat) (c : Nat) (cl : List Bool) (w : World) (hA : Sl w w.heap.size 1 CI A (zs L)) (hL : L.length ≤ 1000) (hk : BRow w kb cl) (hl : cl.length = M) (hx : ∀ x ∈ L, x < M) (e0 : w.cell? ⟨bc, 0, none⟩ = some (.slice (some ⟨kb, 0, none⟩) M M)) :
    Calls Tryz.prog 83 #[.slice A L.length c, .func (.func 106) #[] #[.pointer (some ⟨bc, 0, none⟩)]] w fun e w' => (∃ z : Int, e = .returned (.int .i64 z) ∧ (decide (z ≥ 0) = L.any (gB1 cl))) ∧ w = w' := by
  have HC := Lib.hid (fun x hx => shut_any M kb bc x cl w hk hl hx e0)
  have HA := Lib.hid hA
  have HX := Lib.hid hx
  obtain ⟨n, hn⟩ : ∃ n, L.length = n := ⟨_, rfl⟩
  have HN := Lib.hid hn
  rw [hn] at hL ⊢
  clear hA hk hl hx e0 hn
  go_enter Tryz.func83, Tryz.ntmps83
  go_wp2
  go_loopw [5, 8] (fun _ i wr => ∃ j : Nat, j ≤ n ∧ i = .int .i64 (j : Int) ∧ L.any (gB1 cl) = (L.drop j).any (gB1 cl) ∧ w = wr) (fun _ i _ => n - (intOf i).toNat)
  case atStart => exact ⟨0, Nat.zero_le _, rfl, rfl, rfl⟩
  case round =>
    obtain ⟨j, hj, rfl, ha, rfl⟩ := hrel
    have HE := Lib.hid ha
    clear ha
    by_cases hlt : j < n
    · have hjl : j < L.length := by rw [HN.out]; exact hlt
      have hdr : L.drop j = L[j] :: L.drop (j + 1) := List.drop_eq_getElem_cons hjl
      obtain ⟨b3, o3, e3, g3, q3⟩ := int_at HA.out (i := j) (by rw [zs_len]; exact hjl)
      rw [zs_at hjl] at q3
      have hxM := HX.out L[j] (List.getElem_mem hjl)
      have HD := Lib.hid (show L.any (gB1 cl) = (gB1 cl L[j] || (L.drop (j + 1)).any (gB1 cl)) by rw [HE.out, hdr, List.any_cons])
      obtain ⟨x, hx⟩ : ∃ x, L[j] = x := ⟨_, rfl⟩
      rw [hx] at q3 hxM HD
      have HCC := Lib.hid (HC.out x hxM)
      have j0 : (0 : Int) ≤ (j : Int) := by omega
      have j1 : (j : Int) < (n : Int) := by omega
      subst e3
      clear hdr hx
      cases hb : gB1 cl x
      · rw [hb] at HCC HD
        go_wp2_with fail
        refine HCC.out.mono ?_
        rintro e w5 ⟨rfl, rfl⟩
        go_wp2
        go_roundw
        case rel => exact ⟨j + 1, by omega, by go_num, by rw [HD.out]; rfl, by first | rfl | trivial⟩
        case measure => simp [intOf]; omega
      · rw [hb] at HCC HD
        go_wp2_with fail
        refine HCC.out.mono ?_
        rintro e w5 ⟨rfl, rfl⟩
        go_wp2
        go_ret
        exact ⟨⟨_, rfl, by rw [HD.out]; simp⟩, rfl⟩
    · obtain rfl : j = n := by omega
      have hz : ¬ ((j : Nat) : Int) < ((j : Nat) : Int) := by omega
      have HF := Lib.hid (show L.any (gB1 cl) = false by rw [HE.out, List.drop_of_length_le (by rw [HN.out]; omega)]; rfl)
      go_wp2
      go_ret
      exact ⟨⟨_, rfl, by rw [HF.out]; rfl⟩, rfl⟩
set_option maxHeartbeats 1000000 in
theorem containsShut_any (M kb bc : Nat) (A : Option Addr) (L : List Nat) (c : Nat) (cl : List Bool) (w : World) (hA : Sl w w.heap.size 1 CI A (zs L)) (hL : L.length ≤ 1000) (hk : BRow w kb cl) (hl : cl.length = M) (hx : ∀ x ∈ L, x < M) (e0 : w.cell? ⟨bc, 0, none⟩ = some (.slice (some ⟨kb, 0, none⟩) M M)) :
    Calls Tryz.prog 105 #[.slice A L.length c, .func (.func 106) #[] #[.pointer (some ⟨bc, 0, none⟩)]] w fun e w' => e = .returned (.bool (L.any (gB1 cl))) ∧ w = w' := by
  have HC := Lib.hid (indexShut_any M kb bc A L c cl w hA hL hk hl hx e0)
  clear hA hk hl hx e0
  go_enter Tryz.func105, Tryz.ntmps105
  go_wp2_with fail
  refine HC.out.mono ?_
  rintro e w2 ⟨⟨z, rfl, hz⟩, rfl⟩
  go_wp2
  go_ret
  exact ⟨rfl, rfl⟩
end Go.Proofs.YtcpanfpijljeaaaGreat.DH

namespace Go.Proofs.YtcpanfpijljeaaaGreat.DH
set_option linter.unusedVariables false
set_option linter.unusedSimpArgs false
open Go.RowKit

/-- what descend has gone so far, each step being the first one -/
structure Pq (M : Nat) (ln : Int → Int) (nx : Nat → List Nat) (cs : List C2) (t f u : Nat) (q : List Nat) : Prop where
  pt : Pth M ln nx cs f u q
  gr : ∀ i (hi : i + 1 < q.length), (q[i]'(by omega)) ≠ t ∧ stepB ln cs (q[i]'(by omega)) q[i + 1] = true ∧ ∀ b ∈ nx (q[i]'(by omega)), stepB ln cs (q[i]'(by omega)) b = true → q[i + 1] ≤ b
theorem Pq.start {M : Nat} {ln : Int → Int} {nx : Nat → List Nat} {cs : List C2} {t f : Nat} (hf : f < M) : Pq M ln nx cs t f f [f] :=
  ⟨Pth.start hf, fun i hi => by simp at hi⟩
theorem Pq.step {M : Nat} {ln : Int → Int} {nx : Nat → List Nat} {cs : List C2} {t f u v : Nat} {q : List Nat} (h : Pq M ln nx cs t f u q) (hv : v ∈ nx u) (hvM : v < M) (h1 : 1 ≤ ln ((v : Int) / 2)) (he : (gC cs v).1 + ln ((v : Int) / 2) = (gC cs u).1)
    (hut : u ≠ t) (hst : stepB ln cs u v = true) (hl : ∀ b ∈ nx u, stepB ln cs u b = true → v ≤ b) : Pq M ln nx cs t f v (q ++ [v]) := by
  refine ⟨h.pt.step hv hvM h1 he, fun i hi => ?_⟩
  have hi2 : i < q.length := by simpa using hi
  by_cases e : i + 1 < q.length
  · have := h.gr i e
    simp only [List.getElem_append_left e, List.getElem_append_left hi2]
    exact this
  · have hlq := h.pt.la
    rw [List.getLast?_eq_getElem?, show q.length - 1 = i by omega, List.getElem?_eq_getElem hi2] at hlq
    have e1 : q[i] = u := Option.some.inj hlq
    have e2 : (q ++ [v])[i + 1] = v := by rw [List.getElem_append_right (show q.length ≤ i + 1 by omega)]; simp
    simp only [List.getElem_append_left hi2, e1, e2]
    exact ⟨hut, hst, hl⟩
theorem nextL_sorted (p : Pl) (u : Nat) : (nextL p u).Pairwise (· ≤ ·) := by
  unfold nextL
  have := List.pairwise_mergeSort (le := fun a b : Int => decide (a ≤ b)) (fun a b c h1 h2 => by simp at *; omega) (fun a b => by simp; omega) (leaveL p u)
  exact this.imp fun h => by simpa using h
theorem first_least {p : Pl} (hv : Vld p) {M u k : Nat} {cs : List C2} (hu : u < M) (hM : u < 2 * p.rails.length) (hk : k < (nextL p u).length) (h1 : stepB (lenAt p) cs u (nextL p u)[k].toNat = true)
    (h2 : ∀ j (hj : j < k), stepB (lenAt p) cs u ((nextL p u)[j]'(by omega)).toNat = false) : ∀ b ∈ nxN p u, stepB (lenAt p) cs u b = true → (nextL p u)[k].toNat ≤ b := by
  intro b hb hs
  have hb2 := (mem_nxN hv hM).1 hb
  obtain ⟨j, hj, e⟩ := List.getElem_of_mem hb2
  by_cases hjk : j < k
  · have := h2 j hjk
    rw [e, Int.toNat_natCast, hs] at this
    cases this
  · by_cases e2 : k = j
    · subst e2; rw [e]; simp
    · have := List.pairwise_iff_getElem.1 (nextL_sorted p u) k j hk hj (by omega)
      rw [e] at this
      omega
/-- what descend has found, as the plain text has it -/
theorem pq_gr {M : Nat} {p : Pl} {cs : List C2} {t : Nat} : ∀ (q : List Nat) (f : Nat), Pq M (lenAt p) (nxN p) cs t f t q → ∃ s, q = f :: s ∧ Gr t (nxN p) (wtP p) (fun x => gC cs x) q := by
  have key : ∀ (q : List Nat), (∀ i (hi : i + 1 < q.length), q[i + 1] ∈ nxN p (q[i]'(by omega))) → (∀ i (hi : i + 1 < q.length), (q[i]'(by omega)) ≠ t ∧ stepB (lenAt p) cs (q[i]'(by omega)) q[i + 1] = true ∧ ∀ b ∈ nxN p (q[i]'(by omega)), stepB (lenAt p) cs (q[i]'(by omega)) b = true → q[i + 1] ≤ b) → q.getLast? = some t → Gr t (nxN p) (wtP p) (fun x => gC cs x) q := by
    intro q
    induction q with
    | nil => intro _ _ h; simp at h
    | cons a r ih =>
      intro h1 h2 h3
      cases r with
      | nil =>
        have e : a = t := by simpa using h3
        exact e
      | cons b r =>
        have g1 := h1 0 (by simp)
        have g2 := h2 0 (by simp)
        simp only [List.getElem_cons_zero, List.getElem_cons_succ] at g1 g2
        have hst : ∀ u z, stepB (lenAt p) cs u z = true ↔ stp (wtP p) (fun x => gC cs x) u z := fun u z => by
          unfold stepB stp wtP
          simp only [Bool.and_eq_true, decide_eq_true_eq, and_assoc]
        refine ⟨g2.1, g1, (hst _ _).1 g2.2.1, fun c hc hs => g2.2.2 c hc ((hst _ _).2 hs), ih (fun i hi => ?_) (fun i hi => ?_) ?_⟩
        · have := h1 (i + 1) (by simpa using hi); simpa using this
        · have := h2 (i + 1) (by simpa using hi)
          simp only [List.getElem_cons_succ] at this
          exact this
        · rw [List.getLast?_cons_cons] at h3; exact h3
  intro q f h
  have hg := key q h.pt.st h.gr h.pt.la
  cases q with
  | nil => have := h.pt.hd; simp at this
  | cons a s =>
    obtain rfl : a = f := by have := h.pt.hd; simpa using this
    exact ⟨s, rfl, hg⟩

set_option maxRecDepth 100000 in
set_option maxHeartbeats 4000000 in
theorem descend_gr (B g M f t cb : Nat) (cs : List C2) (p : Pl) (w : World) (hM : 2 * p.rails.length = M) (h : Nw w B g p) (hB : B ≤ w.heap.size) (hc : CRow w cb cs) (hl : cs.length = M) (hf : f < M) (ht : t < M) (hbd : BdC cs)
    (hnx : ∀ u, u < M → u ≠ t → 0 ≤ (gC cs u).1 → ∃ b ∈ nxN p u, stepB (lenAt p) cs u b = true) (hf0 : 0 ≤ (gC cs f).1) :
    Calls Tryz.prog 58 #[.pointer (some ⟨g, 0, none⟩), .int .i64 (f : Int), .int .i64 (t : Int), .slice (some ⟨cb, 0, none⟩) M M] w fun e w' => (∃ v q, e = .returned v ∧ Own w' w.heap.size 3 1 fI v (q.map fun x : Nat => (x : Int)) ∧ Pq M (lenAt p) (nxN p) cs t f t q) ∧ Below w.heap.size w w' := by
  have hsz := h.sizes
  have hgB := h.gB
  have hv := h.v
  have hM8 : M ≤ 800 := by omega
  have hcl := hc.lt
  obtain ⟨i0, hi, hz0, hz1, hz2⟩ := info_parts inf3
  have hg : Grf M (lenAt p) (nxN p) 31000000 := by rw [← hM]; exact plan_gr hv
  have HG := Lib.hid hg
  have HPTH := Lib.hid (fun (u : Nat) (q : List Nat) (hp : Pq M (lenAt p) (nxN p) cs t f u q) => (hp.pt.mM u hp.pt.last).1)
  have HFST := Lib.hid (show ∀ u, u < M → u ≠ t → 0 ≤ (gC cs u).1 → ∃ k z : Nat, ∃ hk : k < (nextL p u).length, (nextL p u)[k] = (z : Int) ∧ stepB (lenAt p) cs u (nextL p u)[k].toNat = true ∧ (∀ j (hj : j < k), stepB (lenAt p) cs u ((nextL p u)[j]'(by omega)).toNat = false) ∧ z < M ∧ z ∈ nxN p u ∧ 0 ≤ (gC cs z).1 ∧ (gC cs z).1 + lenAt p ((z : Int) / 2) = (gC cs u).1 ∧ stepB (lenAt p) cs u z = true ∧ ∀ b ∈ nxN p u, stepB (lenAt p) cs u b = true → z ≤ b from fun u hu hut hu0 => by
    obtain ⟨b, hb, hst⟩ := hnx u hu hut hu0
    have hb2 := (mem_nxN hv (by omega)).1 hb
    obtain ⟨k, hk, h1, h2⟩ := first_of (nextL p u) (fun x => stepB (lenAt p) cs u x.toNat) ⟨_, hb2, by simpa using hst⟩
    have hz := nextL_bd hv (by omega) _ (List.getElem_mem hk)
    have h3 := h1
    unfold stepB at h3
    simp only [Bool.and_eq_true, decide_eq_true_eq] at h3
    exact ⟨k, (nextL p u)[k].toNat, hk, by omega, h1, h2, by omega, (mem_nxN hv (by omega)).2 (by rw [show (((nextL p u)[k].toNat : Nat) : Int) = (nextL p u)[k] by omega]; exact List.getElem_mem hk), h3.1.1, h3.1.2, h1, first_least hv hu (by omega) hk h1 h2⟩)
  have HNB := Lib.hid (show ∀ u, u < M → ∀ z ∈ nextL p u, ∃ x : Nat, z = x ∧ x < M from fun u hu z hz => by
    have := nextL_bd hv (by omega) z hz
    exact ⟨z.toNat, by omega, by omega⟩)
  have HBC := Lib.hid hbd
  have HCL := Lib.hid hl; have HMM := Lib.hid hM
  have HT0 := Lib.hid ht
  have hb0 : Below w.heap.size w ((w.alloc (.cells #[.pointer (some ⟨g, 0, none⟩)] 100)).alloc (.cells #[.slice (some ⟨cb, 0, none⟩) M M] 115)) := ((Below.refl _ w).alloc (Nat.le_refl _) _).alloc (by simp) _
  have HB0 := Lib.hid hb0
  have HX := Lib.hid (show ∀ j : Nat, ((w.alloc (.cells #[.pointer (some ⟨g, 0, none⟩)] 100)).alloc (.cells #[.slice (some ⟨cb, 0, none⟩) M M] 115)).cell? ⟨w.heap.size, j, none⟩ = #[.pointer (some ⟨g, 0, none⟩)][j]? ∧ ((w.alloc (.cells #[.pointer (some ⟨g, 0, none⟩)] 100)).alloc (.cells #[.slice (some ⟨cb, 0, none⟩) M M] 115)).cell? ⟨w.heap.size + 1, j, none⟩ = #[.slice (some ⟨cb, 0, none⟩) M M][j]? from fun j => by
    have h1 := cell_keep1 (o := .cells #[.slice (some ⟨cb, 0, none⟩) M M] 115) (cell_new1 w #[.pointer (some ⟨g, 0, none⟩)] 100 j) (by simp)
    have h2 := cell_new1 (w.alloc (.cells #[.pointer (some ⟨g, 0, none⟩)] 100)) #[.slice (some ⟨cb, 0, none⟩) M M] 115 j
    rw [show (w.alloc (.cells #[.pointer (some ⟨g, 0, none⟩)] 100)).heap.size = w.heap.size + 1 by simp] at h2
    exact ⟨h1, h2⟩)
  have HN := Lib.hid ((h.below (hb0.mono hB)).more (Nat.le_trans hB hb0.size))
  have HC := Lib.hid (hc.below hb0 hcl)
  obtain ⟨W1, hW1⟩ : ∃ W1, (w.alloc (.cells #[.pointer (some ⟨g, 0, none⟩)] 100)).alloc (.cells #[.slice (some ⟨cb, 0, none⟩) M M] 115) = W1 := ⟨_, rfl⟩
  have hzW : W1.heap.size = w.heap.size + 2 := by rw [← hW1]; simp
  rw [hW1] at HB0 HX HN HC
  have HO1 := Lib.hid (show DG w ((W1.alloc (.cells #[.int .i64 (f : Int)] 3)).alloc (.cells #[.int .i64 (f : Int)] 3)) W1 (W1.heap.size + 1) (.slice (some ⟨W1.heap.size, 0, none⟩) 1 1) f [f] from by
    have h1 := Own.built (f := fI) (size := 1) W1 W1.heap.size 3 (f : Int) #[.int .i64 (f : Int)] rfl fI_len (Nat.le_refl _)
    have h2 := heap_alloc_new (W1.alloc (.cells #[.int .i64 (f : Int)] 3)) (.cells #[.int .i64 (f : Int)] 3)
    rw [show (W1.alloc (.cells #[.int .i64 (f : Int)] 3)).heap.size = W1.heap.size + 1 by simp] at h2
    exact ⟨h2, by omega, h1.alloc _, fun k hk => by
      have : k = W1.heap.size := by simpa [Value.ownBlock] using hk.symm
      omega, ((Below.refl _ W1).alloc (Nat.le_refl _) _).alloc (by simp) _⟩)
  have hf1 : (0 : Int) ≤ (f : Int) := by omega
  have HF0 := Lib.hid hf0; have HFM := Lib.hid hf
  clear h hc hb0 hsz hv hg hbd hnx hf0 hl hM ht hf
  go_enter Tryz.func58, Tryz.ntmps58
  go_wp2_with fail
  clear hW1
  have hw2 : w.heap.size + 2 = W1.heap.size := hzW.symm
  simp only [hw2]
  have hwa : W1.heap.size ≤ w.heap.size + 2 := by omega
  have hwb : w.heap.size + 2 ≤ W1.heap.size := by omega
  clear hw2 hzW
  generalize ((W1.alloc (.cells #[.int .i64 (f : Int)] 3)).alloc (.cells #[.int .i64 (f : Int)] 3)) = W2 at *
  go_loopw [9, 10] (fun s9 s10 wr => ∃ (q : List Nat) (u bm : Nat), s10 = .pointer (some ⟨bm, 0, none⟩) ∧ DG w wr W1 bm s9 u q ∧ Pq M (lenAt p) (nxN p) cs t f u q ∧ 0 ≤ (gC cs u).1) (fun _ s10 wr => muD cs s10 wr)
  case atStart => exact ⟨[f], f, W1.heap.size + 1, rfl, HO1.out, Pq.start HFM.out, HF0.out⟩
  case round =>
    obtain ⟨q, u, bm, rfl, hdg, hpt, hu0⟩ := hrel
    have huM := HPTH.out u q hpt
    have HDG := Lib.hid hdg; have HPT := Lib.hid hpt; have HU0 := Lib.hid hu0
    have hq8 := hpt.pt.len.2
    have hzr := hdg.be.size
    have hbml : bm < wr.heap.size := (Array.getElem?_eq_some_iff.1 hdg.ro).1
    have hbo := hdg.bo
    have m0 := cell_of_row wr bm 0 _ 3 (0, 0) hdg.ro
    simp only [List.getElem?_toArray, List.getElem?_cons_zero] at m0
    have HMU := Lib.hid (show muD cs (.pointer (some ⟨bm, 0, none⟩)) wr = (gC cs u).1.toNat by simp only [muD, m0, Int.toNat_natCast])
    have iu0 : (0 : Int) ≤ (u : Int) := by omega
    have iu1 : (u : Int) < (M : Int) := by omega
    clear hdg hpt hu0
    by_cases hut : u = t
    · subst hut
      have HPT2 := Lib.hid HPT.out
      have n1 : ((u : Int) != (u : Int)) = false := by simp
      have n2 : (!((u : Int) == (u : Int))) = false := by simp
      go_wp2
      go_ret
      exact ⟨⟨_, q, rfl, HDG.out.ow.lower (by omega), HPT2.out⟩, HB0.out.trans (HDG.out.be.mono (by omega))⟩
    · obtain ⟨k, z, hk, hkz, hst, hft, hzM, hzn, hz0, hze, hzs, hzl⟩ := HFST.out u huM hut HU0.out
      have HZL := Lib.hid (And.intro hut (And.intro hzs hzl))
      clear hzs hzl
      have HZ := Lib.hid (And.intro hzn (And.intro hz0 hze))
      have n1 : ((u : Int) != (t : Int)) = true := by simp; omega
      have n2 : (!((u : Int) == (t : Int))) = true := by simp; omega
      have HN2 := Lib.hid ((HN.out.below HDG.out.be).more hzr)
      obtain ⟨A1, c1, A2, c2, lb, sb, nb, bb, hN, x1, x2, x3, x4, x5, x6⟩ := HN2.out.net
      obtain ⟨_, _, _, _, k4, _⟩ := hN.cell
      rw [HMM.out] at k4 x5
      obtain ⟨Ab, cb2, r0, r1, r2, r3⟩ := x5.2 u huM
      have hgl := hN.lt
      have hnb := x5.1
      obtain ⟨b5, o5, rfl, g5, q5⟩ := int_at r3 hk
      rw [hkz] at q5
      have hcbl := HC.out.lt
      have e4 := (HDG.out.be.cell (p := ⟨w.heap.size, 0, none⟩) (by simp; omega)).trans (HX.out 0).1
      have e7 := (HDG.out.be.cell (p := ⟨w.heap.size + 1, 0, none⟩) (by simp; omega)).trans (HX.out 0).2
      simp only [List.getElem?_toArray, List.getElem?_cons_zero] at e4 e7
      have hcrow := HC.out.below HDG.out.be hcbl
      have hn7 : bm ≠ w.heap.size := by omega
      have hn8 : bm ≠ w.heap.size + 1 := by omega
      have HK := Lib.hid (show ∀ w', Below wr.heap.size wr w' → (w'.cell? ⟨w.heap.size, 0, none⟩ = some (.pointer (some ⟨g, 0, none⟩)) ∧ w'.cell? ⟨g, 4, none⟩ = some (.slice (some ⟨nb, 0, none⟩) M M) ∧ w'.cell? ⟨bm, 0, none⟩ = some (.int .i64 (u : Int)) ∧ w'.cell? ⟨nb, u, none⟩ = some (.slice (some ⟨b5, o5, none⟩) (nextL p u).length cb2)) from fun w' hb =>
        ⟨(hb.cell (p := ⟨w.heap.size, 0, none⟩) (by simp; omega)).trans e4, (hb.cell (p := ⟨g, 4, none⟩) (by simp; omega)).trans k4, (hb.cell (p := ⟨bm, 0, none⟩) (by simp; omega)).trans m0, (hb.cell (p := ⟨nb, u, none⟩) (by simp; omega)).trans r0⟩)
      have HC83 := Lib.hid (show ∀ w', Below wr.heap.size wr w' → Calls Tryz.prog 83 #[.slice (some ⟨b5, o5, none⟩) (nextL p u).length cb2, .func (.func 84) #[] #[.pointer (some ⟨w.heap.size + 1, 0, none⟩), .pointer (some ⟨w.heap.size, 0, none⟩), .pointer (some ⟨bm, 0, none⟩)]] w' fun e w2 => e = .returned (.int .i64 (k : Int)) ∧ Below w'.heap.size w' w2 from fun w' hb =>
        indexFn_any (some ⟨b5, o5, none⟩) (nextL p u) cb2 _ (fun x => stepB (lenAt p) cs u x.toNat) w' ((r3.below hb).more (fun _ _ h => h) hb.size) (by have := nextL_len p u; omega) k hk hst hft fun x hx w2 hb2 => by
          obtain ⟨y, rfl, hyM⟩ := HNB.out u huM x hx
          have hb3 := hb.trans (hb2.mono hb.size)
          rw [Int.toNat_natCast]
          exact step_any w2.heap.size g M u y cb (w.heap.size + 1) w.heap.size bm cs p w2 HMM.out ((HN2.out.below hb3).more hb3.size) (hcrow.below hb3 hcrow.lt) HCL.out huM hyM HBC.out HU0.out
            ((hb3.cell (p := ⟨w.heap.size + 1, 0, none⟩) (by simp; omega)).trans e7) ((hb3.cell (p := ⟨w.heap.size, 0, none⟩) (by simp; omega)).trans e4) ((hb3.cell (p := ⟨bm, 0, none⟩) (by simp; omega)).trans m0))
      have hkn0 : (0 : Int) ≤ (k : Int) := by omega
      have hkn1 : (k : Int) < ((nextL p u).length : Int) := by omega
      obtain ⟨L, hL⟩ : ∃ L, (nextL p u).length = L := ⟨_, rfl⟩
      rw [hL] at HK HC83 hkn1 r0 r1
      clear hL hkz hst hft hzn hz0 hze r3 hN x3 x4 x5 x6 hk
      go_upto_region 4 with (fail)
      go_cut [11] from 18 to 26 (fun s11 wx => s11 = .int .i64 (k : Int) ∧ Below wr.heap.size wr wx)
      case first =>
        have hbq : Below wr.heap.size wr wr.drew := (Below.refl _ _).drew
        go_region_held3 (fun w' => w'.cell? ⟨w.heap.size, 0, none⟩ = some (.pointer (some ⟨g, 0, none⟩)) ∧ w'.cell? ⟨g, 4, none⟩ = some (.slice (some ⟨nb, 0, none⟩) M M) ∧ w'.cell? ⟨bm, 0, none⟩ = some (.int .i64 (u : Int)) ∧ w'.cell? ⟨nb, u, none⟩ = some (.slice (some ⟨b5, o5, none⟩) L cb2))
          (exact HK.out _ hbq)
          ((first
            | (go_at_call 83; (with_reducible refine (HC83.out _ hbq).mono ?_); rintro e w6 ⟨rfl, hb6⟩; replace hbq := hbq.trans (hb6.mono hbq.size))))
        all_goals
          go_wp2_with fail
          go_meet
          exact ⟨rfl, hbq⟩
      case rest =>
      obtain ⟨rfl, hbq⟩ := hcut
      have hzq := hbq.size
      obtain ⟨f0, f1, f2, f3⟩ := HK.out _ hbq
      replace q5 := (hbq.cell (p := ⟨b5, o5 + k, none⟩) (by simp; omega)).trans q5
      have frow := (hbq.block bm hbml).trans HDG.out.ro
      have ffr : wc.frozen? ⟨bm, 0, none⟩ = false := by simp [World.frozen?, frow]
      have HO2 := Lib.hid (HDG.out.ow.below hbq (Nat.le_refl _))
      have HB2 := Lib.hid (HDG.out.be.trans (hbq.mono hzr))
      have HFR := Lib.hid frow
      clear hbq frow m0 e4 e7 k4 r0 hcrow HK HC83 HN2
      have hwz : bm < wc.heap.size := by omega
      obtain ⟨we, hwe⟩ : ∃ x, wc = x := ⟨_, rfl⟩
      rw [hwe] at f0 f1 f2 f3 q5 ffr HO2 HB2 HFR hwz ⊢
      clear hwe
      go_upto_region 5 with (fail)
      go_region
      have HNE := Lib.hid (show some bm ≠ u9.ownBlock from fun e => HDG.out.ne bm e.symm rfl)
      have hrow3 : ((we.setCell ⟨bm, 0, none⟩ (.int .i64 (z : Int))).drew).heap[bm]? = some (.cells #[.int .i64 (z : Int)] 3) := heap_set_same (i := 0) _ HFR.out
      have m3 := cell_of_row _ bm 0 _ 3 (0, 0) hrow3
      simp only [List.getElem?_toArray, List.getElem?_cons_zero] at m3
      have HO3 := Lib.hid (show Own ((we.setCell ⟨bm, 0, none⟩ (.int .i64 (z : Int))).drew) W1.heap.size 3 1 fI u9 (q.map fun x : Nat => (x : Int)) from HO2.out.of_blocks fun i hi => Below.heap_setCell _ _ _ _ (by intro e; exact HNE.out (by rw [hi]; exact congrArg some e.symm)))
      have HB3 := Lib.hid (show Below W1.heap.size W1 ((we.setCell ⟨bm, 0, none⟩ (.int .i64 (z : Int))).drew) from (HB2.out.setCell (p := ⟨bm, 0, none⟩) hbo _).drew)
      have hz3 : ((we.setCell ⟨bm, 0, none⟩ (.int .i64 (z : Int))).drew).heap.size = we.heap.size := by simp [World.setCell]
      have HR3 := Lib.hid hrow3
      have hqq : (q.map fun x : Nat => (x : Int)).length ≤ 800 := by rw [List.length_map]; omega
      obtain ⟨w3, hw3⟩ : ∃ x, (we.setCell ⟨bm, 0, none⟩ (.int .i64 (z : Int))).drew = x := ⟨_, rfl⟩
      rw [hw3] at m3 HO3 HB3 hz3 HR3 ⊢
      have hz3a : w3.heap.size ≤ we.heap.size := by omega
      have hz3b : we.heap.size ≤ w3.heap.size := by omega
      clear hz3
      clear hw3 hrow3 f0 f1 f2 f3 q5 ffr HO2 HB2 HFR
      have hzM0 : (0 : Int) ≤ (z : Int) := by omega
      go_wp2_with (at_builtin; go_must (refine wpList_app _ rfl (.tmp 37) (.tmp 39) _ rfl W1.heap.size 3 i0 _ 1 8 Tryz.underlying50 hi hz0 hz1 hz2 rfl (by omega) fI_len fI_one u9 _ rfl (HO3.out.alloc _) _ _ [(z : Int)] 1 rfl (Sl.new _ _ (z : Int) _ rfl) (by unfold maxLen; simp only [List.length_cons, List.length_nil]; omega) (by simp only [List.length_cons, List.length_nil]; omega) (by simp; omega) (fun _ => .inr ⟨_, rfl⟩) ?_); intro v2 w4 o2 gr2 at2 ne2; have g4 := (gr2.block bm (by simp; omega) HNE.out).trans ((Below.heap_alloc w3 (.cells #[.int .i64 (z : Int)] 3) bm (by omega)).trans HR3.out); have m4 := cell_of_row w4 bm 0 _ 3 (0, 0) g4; simp only [List.getElem?_toArray, List.getElem?_cons_zero] at m4)
      go_roundw
      case rel =>
        have hz4 : w3.heap.size + 1 ≤ w4.heap.size := by have := gr2.size; simpa using this
        have hgln := (HG.out.ln z hzM).1
        refine ⟨q ++ [z], z, w4.heap.size, rfl, ⟨heap_alloc_new w4 _, by have := HB3.out.size; omega, by rw [List.map_append]; exact o2.alloc _, fun i hi => by have := (o2.lt i hi).2; omega, ?_⟩, HPT.out.step HZ.out.1 hzM hgln HZ.out.2.2 HZL.out.1 HZL.out.2.1 HZL.out.2.2, HZ.out.2.1⟩
        exact ((HB3.out.alloc (by have := HB3.out.size; omega) _).grown gr2 (by simp; have := HB3.out.size; omega) (fun i hi => (HO3.out.lt i hi).1)).alloc (by have := HB3.out.size; omega) _
      case measure =>
        have hgln := (HG.out.ln z hzM).1
        have h1 := cell_of_row (w4.alloc (.cells #[.int .i64 (z : Int)] 3)) w4.heap.size 0 _ 3 (0, 0) (heap_alloc_new w4 _)
        simp only [List.getElem?_toArray, List.getElem?_cons_zero] at h1
        rw [HMU.out]
        simp only [muD, h1, Int.toNat_natCast]
        have := HZ.out.2
        omega
end Go.Proofs.YtcpanfpijljeaaaGreat.DH

namespace Go.Proofs.YtcpanfpijljeaaaGreat.DH
set_option linter.unusedVariables false
set_option linter.unusedSimpArgs false
open Go.RowKit

def clL (M : Nat) (P : List Nat) : List Bool := (List.range M).map fun x => decide (x ∈ P)
theorem clL_len (M : Nat) (P : List Nat) : (clL M P).length = M := by simp [clL]
theorem clL_nil (M : Nat) : clL M [] = List.replicate M false := by
  unfold clL
  apply List.ext_getElem
  · simp
  · intro i h1 h2; simp
theorem clL_at {M : Nat} {P : List Nat} {x : Nat} (h : x < M) : gB1 (clL M P) x = decide (x ∈ P) := by
  rw [gB1_at (by rw [clL_len]; exact h)]; simp [clL]
theorem clL_set {M : Nat} {P : List Nat} {x : Nat} : (clL M P).set x true = clL M (P ++ [x]) := by
  unfold clL
  apply List.ext_getElem
  · simp
  · intro i h1 h2
    rw [List.getElem_set]
    by_cases e : x = i
    · subst e; simp
    · rw [if_neg e]; simp [Ne.symm e]
theorem shut_cl {M : Nat} {P : List Nat} {x : Nat} (h : x < M) : shutAt (clL M P) (x : Int) = decide (x ∈ P) := by
  unfold shutAt
  rw [Int.toNat_natCast]
  exact clL_at h
theorem relax_filter {cl cl0 : List Bool} (h0 : ∀ b, shutAt cl0 b = false) (c : C2) : ∀ (L : List Int) (s : List C2 × List V3), L.foldl (relax cl c) s = (L.filter fun b => !shutAt cl b).foldl (relax cl0 c) s := by
  intro L
  induction L with
  | nil => intro s; rfl
  | cons b L ih =>
    intro s
    rw [List.foldl_cons, ih]
    cases hb : shutAt cl b
    · rw [List.filter_cons, if_pos (by rw [hb]; rfl), List.foldl_cons]
      congr 1
      unfold relax
      rw [hb, h0]
    · rw [List.filter_cons, if_neg (by rw [hb]; simp)]
      congr 1
      unfold relax
      rw [hb, if_neg (by simp)]
theorem search_filter {cl cl0 : List Bool} (h0 : ∀ b, shutAt cl0 b = false) (ln : Int → Int) (bef : Nat → List Int) : ∀ (n : Nat) (cs : List C2) (it : List V3), search ln bef cl n cs it = search ln (fun u => (bef u).filter fun b => !shutAt cl b) cl0 n cs it := by
  intro n
  induction n with
  | zero => intro cs it; rfl
  | succ n ih =>
    intro cs it
    cases it with
    | nil => simp [search]
    | cons x r =>
      simp only [search]
      split
      · rfl
      · split
        · split
          · rfl
          · rw [relax_filter h0]
            exact ih _ _
        · exact ih _ _
theorem costs_filter {cl : List Bool} {M t n : Nat} (h0 : ∀ b, shutAt (List.replicate M false) b = false) (ht : shutAt cl (t : Int) = false) (ln : Int → Int) (bef : Nat → List Int) :
    costsL ln bef cl M t n = costsL ln (fun u => (bef u).filter fun b => !shutAt cl b) (List.replicate M false) M t n := by
  unfold costsL
  have h1 := h0 (t : Int)
  unfold shutAt at ht h1
  rw [Int.toNat_natCast] at ht h1
  rw [ht, h1]
  simp only [Bool.false_eq_true, if_false]
  exact search_filter h0 ln bef n _ _

theorem befL_len' (p : Pl) (u M : Nat) (f : Int → Bool) : ((befL p M u).filter f).length ≤ 2 * M := Nat.le_trans (List.length_filter_le _ _) (befL_len p u M)
theorem closed_facts {p : Pl} (hv : Vld p) (hs : smallB p = true) {M t : Nat} (hM : 2 * p.rails.length = M) (ht : t < M) (P : List Nat) (htP : t ∉ P) :
    ∃ n res, costsL (lenAt p) (befL p M) (clL M P) M t n = some res ∧ BdC res ∧ (∀ u, u < M → u ≠ t → 0 ≤ (gC res u).1 → ∃ b ∈ nxN p u, stepB (lenAt p) res u b = true) ∧ res.length = M ∧ Lab M t (nxN p) (wtP p) (fun x => x ∈ P) (fun x => gC res x) := by
  have h14 := small_rails hv hs
  have hM28 : M ≤ 28 := by omega
  have hmm : M * (2 * M) ≤ 28 * 56 := Nat.mul_le_mul hM28 (by omega)
  have hcl : ∀ b, shutAt (List.replicate M false) b = false := fun b => by
    unfold shutAt
    rw [List.getD_eq_getElem?_getD, List.getElem?_replicate]
    split <;> rfl
  obtain ⟨bef, hbef⟩ : ∃ bef, bef = fun u => (befL p M u).filter fun b => !shutAt (clL M P) b := ⟨_, rfl⟩
  have hbd : ∀ u, ∀ z ∈ bef u, ∃ k : Nat, z = k ∧ k < M := fun u z hz => by
    subst hbef
    exact befL_bd z (List.mem_filter.1 hz).1
  have hmem : ∀ u b : Nat, u < M → ((u : Int) ∈ bef b ↔ b ∈ nxN p u ∧ u ∉ P) := fun u b hu => by
    subst hbef
    show (u : Int) ∈ (befL p M b).filter _ ↔ _
    rw [List.mem_filter, in_befL, mem_nxN hv (by omega)]
    rw [shut_cl hu]
    simp [hu]
  have hg : Grf M (lenAt p) (nxN p) 31000000 := by rw [← hM]; exact plan_gr hv
  obtain ⟨n, res, h1, h2⟩ := costs_end (D := 2 * M) (Wm := 1107296256) (bef := bef) hcl (fun z => lenAt_bd hv z) (fun u _ => ⟨by subst hbef; exact befL_len' p u M _, hbd u⟩) (by omega) (by omega) (by omega) ht
  have hr : Real M (lenAt p) bef t res := costs_real hcl (fun z => (lenAt_bd hv z).1) (fun u _ => hbd u) ht h1
  have hsrc : ∀ u b : Nat, (u : Int) ∈ bef b → u < M := fun u b h => by
    obtain ⟨k, e, hk⟩ := hbd b _ h
    omega
  have hbn : ∀ u b : Nat, (u : Int) ∈ bef b → b ∈ (if u ∈ P then [] else nxN p u) ∧ b < M := fun u b h => by
    have hu := hsrc u b h
    obtain ⟨g1, g2⟩ := (hmem u b hu).1 h
    exact ⟨by rw [if_neg g2]; exact g1, hg.nx u hu b g1⟩
  have hg2 : Grf M (lenAt p) (fun u => if u ∈ P then [] else nxN p u) 31000000 := ⟨fun u hu b hb => by
    by_cases e : u ∈ P
    · simp [e] at hb
    · simp only [e, if_false] at hb
      exact hg.nx u hu b hb, hg.ln⟩
  have hD : Dst M t (lenAt p) (fun u => if u ∈ P then [] else nxN p u) (res.map (·.1)) := fin_dst h2 hr hbn fun u b hu hb => by
    by_cases e : u ∈ P
    · simp [e] at hb
    · simp only [e, if_false] at hb
      exact ⟨(hmem u b hu).2 ⟨hb, e⟩, hg.nx u hu b hb⟩
  have hrl := costsL_len h1
  have hmv : ∀ u, u < M → 0 ≤ (gC res u).1 → 0 ≤ (gC res u).2 ∧ (gC res u).2 ≤ (gC res u).1 := fun u hu h0 =>
    wy_moves (fun u hu => (hg.ln u hu).1) (fun u b h => (hbn u b h).2) ((hr.2 u hu).2 h0)
  refine ⟨n, res, ?_, fun u hu => ?_, fun u hu hut h0 => ?_, hrl, ⟨?_, fun u hu hcu b hb h0 => ?_, fun u hu hut h0 => ?_⟩⟩
  · rw [costs_filter hcl (by rw [shut_cl ht]; simpa using htP)]
    rw [← hbef]; exact h1
  · rw [hrl] at hu
    have h3 := hD.bd hg2 hu
    rw [gI_map] at h3
    exact ⟨h3.1, by omega, fun h0 => by have := hmv u hu h0; omega⟩
  · obtain ⟨b, hb, b0, b1, b2⟩ := fin_next h2 hr hbn hu hut h0
    by_cases e : u ∈ P
    · simp [e] at hb
    · simp only [e, if_false] at hb
      refine ⟨b, hb, ?_⟩
      unfold stepB
      simp only [Bool.and_eq_true, decide_eq_true_eq]
      exact ⟨⟨b0, b1⟩, b2⟩
  · have g1 := h2.tgt
    have g2 := hmv t ht g1.2.1
    unfold leC at g1
    simp only at g1
    apply Prod.ext
    · show (gC res t).1 = 0; omega
    · show (gC res t).2 = 0; omega
  · obtain ⟨w, e, _, g1, g2⟩ := h2.rel b (hg.nx u hu b hb) h0 u ((hmem u b hu).2 ⟨hb, hcu⟩)
    obtain rfl : u = w := by omega
    exact ⟨g1, g2⟩
  · obtain ⟨b, hb, _⟩ := fin_next h2 hr hbn hu hut h0
    intro hP
    have hP' : u ∈ P := hP
    simp [hP'] at hb
theorem leaveL_nodup {p : Pl} (hV : Vld p) {m : Nat} (hm : m < 2 * p.rails.length) : (leaveL p m).Nodup := by
  obtain ⟨i, hi, a, ha, h1, h2, h3, h4, _⟩ := leave_place hV hm hm
  unfold leaveL
  rw [h4, h2]
  have hB := nodeB_parts (List.all_eq_true.1 hV.nodes _ (List.getElem_mem hi))
  have hb := thru_lt (List.all_eq_true.1 hV.nodes _ (List.getElem_mem hi)) ha
  have hnd : (thru p.nodes[i].kind p.nodes[i].normal (a : Int)).Nodup := by
    unfold thru
    (repeat' split) <;> simp
  unfold List.Nodup
  rw [List.pairwise_map]
  refine hnd.imp_of_mem fun {s t} hs ht hst e => hst ?_
  obtain ⟨s0, s1⟩ := hb s hs
  obtain ⟨t0, t1⟩ := hb t ht
  obtain ⟨x, rfl⟩ := Int.eq_ofNat_of_zero_le s0
  obtain ⟨y, rfl⟩ := Int.eq_ofNat_of_zero_le t0
  have hx : x < p.nodes[i].ends.length := by omega
  have hy : y < p.nodes[i].ends.length := by omega
  rw [endAt_nat hx, endAt_nat hy] at e
  have q1 := (at_place hV.ends hi hx).2.1
  have q2 := (at_place hV.ends hi hy).2.1
  have hk : keyE p.nodes[i].ends[x] = keyE p.nodes[i].ends[y] := by unfold keyE; rw [e]
  rw [hk, q2] at q1
  omega
/-- the plan as the plain text has it -/
theorem plan_net {p : Pl} (hv : Vld p) {M : Nat} (hM : 2 * p.rails.length = M) : Net M (nxN p) (wtP p) := by
  have hg : Grf M (lenAt p) (nxN p) 31000000 := by rw [← hM]; exact plan_gr hv
  have hsz := of_decide_eq_true hv.sizes
  refine ⟨fun u hu v hx => hg.nx u hu v hx, fun u hu => ?_, fun u hu => (hg.ln u hu).1, fun u hu => ?_⟩
  · unfold nxN List.Nodup
    rw [List.pairwise_map]
    have h1 : (nextL p u).Nodup := by
      unfold nextL
      exact (List.mergeSort_perm _ _).nodup_iff.2 (leaveL_nodup hv (by omega))
    refine h1.imp_of_mem fun {a b} ha hb hab e => hab ?_
    have := nextL_bd hv (show u < 2 * p.rails.length by omega) a ha
    have := nextL_bd hv (show u < 2 * p.rails.length by omega) b hb
    omega
  · unfold nxN
    rw [List.length_map]
    have := nextL_len p u
    omega
end Go.Proofs.YtcpanfpijljeaaaGreat.DH

namespace Go.Proofs.YtcpanfpijljeaaaGreat.DH
set_option linter.unusedVariables false
set_option linter.unusedSimpArgs false
open Go.RowKit

/-- a detour in a block of its own -/
def Drow (w : World) (db : Nat) (d : D6) : Prop := w.heap[db]? = some (.cells #[.int .i64 d.l, .int .i64 d.m, .slice d.A d.b.length d.ac, .int .i64 (d.k : Int), .int .i64 (d.t : Int), .slice d.F d.f.length d.fc] 152)
theorem Drow.cells {w : World} {db : Nat} {d : D6} (h : Drow w db d) :
    w.cell? ⟨db, 0, none⟩ = some (.int .i64 d.l) ∧ w.cell? ⟨db, 1, none⟩ = some (.int .i64 d.m) ∧ w.cell? ⟨db, 2, none⟩ = some (.slice d.A d.b.length d.ac) ∧ w.cell? ⟨db, 3, none⟩ = some (.int .i64 (d.k : Int)) ∧ w.cell? ⟨db, 4, none⟩ = some (.int .i64 (d.t : Int)) ∧ w.cell? ⟨db, 5, none⟩ = some (.slice d.F d.f.length d.fc) :=
  ⟨cell_of_row _ _ 0 _ _ _ h, cell_of_row _ _ 1 _ _ _ h, cell_of_row _ _ 2 _ _ _ h, cell_of_row _ _ 3 _ _ _ h, cell_of_row _ _ 4 _ _ _ h, cell_of_row _ _ 5 _ _ _ h⟩
theorem pre_len {d : D6} (hk : d.k ≤ d.b.length) : (pre d).length = d.k := by unfold pre; simp; omega
theorem pre_sl {d : D6} {w : World} {B : Nat} (h : Sl w B 1 CI d.A (zs d.b)) : Sl w B 1 CI d.A (zs (pre d)) := by
  intro hne
  have hne2 : zs d.b ≠ [] := by
    intro e
    apply hne
    have : d.b = [] := by simpa [zs] using e
    simp [zs, pre, this]
  obtain ⟨b, o, e, hb, hc⟩ := h hne2
  refine ⟨b, o, e, hb, fun i x hx => hc i x ?_⟩
  unfold zs pre at hx
  unfold zs
  rw [List.getElem?_map] at hx ⊢
  rw [List.getElem?_take] at hx
  split at hx
  · exact hx
  · simp at hx
/-- the marks while the first moves are closed -/
structure MG (W1 wr : World) (kb M : Nat) (P : List Nat) : Prop where
  r : BRow wr kb (clL M P)
  bx : wr.cell? ⟨kb + 1, 0, none⟩ = some (.slice (some ⟨kb, 0, none⟩) M M)
  be : Below kb W1 wr
  sz : kb + 1 < wr.heap.size

theorem MG.set {W1 wr : World} {kb M : Nat} {P : List Nat} {x : Nat} (h : MG W1 wr kb M P) : MG W1 (wr.setCell ⟨kb, x, none⟩ (.bool true)) kb M (P ++ [x]) := by
  have hk : kb < wr.heap.size := by have := h.sz; omega
  refine ⟨?_, (World.cell?_setCell_far _ _ _ _ (by simp)).trans h.bx, h.be.setCell (p := ⟨kb, x, none⟩) (Nat.le_refl _) _, by simpa [World.setCell] using h.sz⟩
  rw [← clL_set]
  unfold BRow
  have := heap_set_same (i := x) (.bool true) h.r
  rw [this]
  simp [List.map_set]
section
variable (B g M t db fb n : Nat) (d : D6) (fr res : List C2) (p : Pl) (w : World)
structure RIn : Prop where
  hM : 2 * p.rails.length = M
  h : Nw w B g p
  hB : B ≤ w.heap.size
  hd : Drow w db d
  hdB : B ≤ db
  hfr : CRow w fb fr
  hfl : fr.length = M
  hfdb : fb ≠ db
  hA : Sl w w.heap.size 1 CI d.A (zs d.b)
  hAf : (d.A = none ∧ d.b = [] ∧ d.ac = 0) ∨ ∃ b0 o0, d.A = some ⟨b0, o0, none⟩ ∧ b0 ≠ db ∧ b0 < w.heap.size
  hbl : d.b.length ≤ d.ac
  hac : d.ac ≤ maxLen
  hk : d.k ≤ d.b.length
  hb8 : d.b.length ≤ 800
  hpm : ∀ x ∈ pre d, x < M
  htd : d.t < M
  ht : t < M
  hbf : BdC fr
  hnf : ∀ u, u < M → u ≠ t → 0 ≤ (gC fr u).1 → ∃ b ∈ nxN p u, stepB (lenAt p) fr u b = true
  hf0 : 0 ≤ (gC fr d.t).1
  hs : costsL (lenAt p) (befL p M) (clL M (pre d)) M t n = some res
  hbr : BdC res
  hnr : ∀ u, u < M → u ≠ t → 0 ≤ (gC res u).1 → ∃ b ∈ nxN p u, stepB (lenAt p) res u b = true
/-- what resolve leaves -/
structure ROut (w' : World) (d' : D6) : Prop where
  dr : Drow w' db d'
  e1 : d'.A = d.A ∧ d'.b = d.b ∧ d'.ac = d.ac ∧ d'.k = d.k ∧ d'.t = d.t
  ow : Own w' w.heap.size 3 1 fI (.slice d'.F d'.f.length d'.fc) (zs d'.f)
  gr : ∃ s, d'.f = pre d ++ d.t :: s ∧ ((Gr t (nxN p) (wtP p) (fun x => gC fr x) (d.t :: s) ∧ (∀ x ∈ d.t :: s, x ∉ pre d) ∧ d'.l = d.l ∧ d'.m = d.m) ∨
    (Gr t (nxN p) (wtP p) (fun x => gC res x) (d.t :: s) ∧ 0 ≤ (gC res d.t).1 ∧ (d'.l, d'.m) = spn (wtP p) (pre d) d.t (gC res d.t)))
def RPost (e : Ending) (w' : World) : Prop :=
  ((e = .returned (.bool false) ∧ (gC res d.t).1 < 0) ∨ (e = .returned (.bool true) ∧ ∃ d', ROut t db d fr res p w w' d')) ∧ Fp db db w w'
end

set_option maxRecDepth 100000 in
set_option maxHeartbeats 2000000 in
theorem resolve_any (B g M t db fb n : Nat) (d : D6) (fr res : List C2) (p : Pl) (w : World) (H : RIn B g M t db fb n d fr res p w) :
    Calls Tryz.prog 86 #[.pointer (some ⟨g, 0, none⟩), .pointer (some ⟨db, 0, none⟩), .int .i64 (t : Int), .slice (some ⟨fb, 0, none⟩) M M] w (RPost t db d fr res p w) := by
  have hsz := H.h.sizes
  have hM := H.hM
  have hM8 : M ≤ 800 := by omega
  obtain ⟨i1, hi1, hy0, hy1, hy2⟩ := info_parts inf4
  have hmb : ∀ W : World, (Instr.makeSlice 57 (.int .i64 (M : Int)) (.int .i64 (M : Int))).run Tryz.prog W = .ok (.slice (some ⟨W.heap.size, 0, none⟩) M M) (W.alloc (.cells (madeCells #[.bool false] M) 4)) := fun W => by
    have := run_mk (P := Tryz.prog) 57 4 i1 _ 1 Tryz.underlying57 hi1 hy0 hy1 (M : Int) (M : Int) M M rfl rfl (by omega) (by rw [hy2]; omega) (by omega) W
    rw [this, Nat.mul_one]; rfl
  obtain ⟨A1, c1, A2, c2, lb, sb, nb, bb, hN, x1, x2, x3, x4, x5, x6⟩ := H.h.net
  obtain ⟨_, _, _, _, k4, _⟩ := hN.cell
  rw [hM] at k4
  have hgl : g < w.heap.size := Nat.lt_of_lt_of_le H.h.gB H.hB
  have hdl : db < w.heap.size := (Array.getElem?_eq_some_iff.1 H.hd).1
  have hpl := pre_len H.hk
  obtain ⟨d0c, d1c, d2c, d3c, d4c, d5c⟩ := H.hd.cells
  have hk0 := H.hk; have hb8 := H.hb8; have hbl := H.hbl; have hac := H.hac
  unfold maxLen at hac
  have HR := Lib.hid H
  clear H hN x1 x2 x3 x4 x5 x6
  obtain ⟨S, hS⟩ : ∃ S, w.heap.size = S := ⟨_, rfl⟩
  have HG1 := Lib.hid (show MG ((w.alloc (.cells (madeCells #[.bool false] M) 4)).alloc (.cells #[.slice (some ⟨w.heap.size, 0, none⟩) M M] 57)) ((w.alloc (.cells (madeCells #[.bool false] M) 4)).alloc (.cells #[.slice (some ⟨w.heap.size, 0, none⟩) M M] 57)) w.heap.size M [] from by
    have hb1 := BRow.made w M
    have h2 := heap_alloc_new (w.alloc (.cells (madeCells #[.bool false] M) 4)) (.cells #[.slice (some ⟨w.heap.size, 0, none⟩) M M] 57)
    rw [show (w.alloc (.cells (madeCells #[.bool false] M) 4)).heap.size = w.heap.size + 1 by simp] at h2
    exact ⟨by rw [clL_nil]; exact (Below.heap_alloc _ _ _ hb1.lt).trans hb1, cell_of_row _ _ 0 _ _ _ h2, Below.refl _ _, by simp⟩)
  have HB1 := Lib.hid (show Below w.heap.size w ((w.alloc (.cells (madeCells #[.bool false] M) 4)).alloc (.cells #[.slice (some ⟨w.heap.size, 0, none⟩) M M] 57)) from ((Below.refl _ w).alloc (Nat.le_refl _) _).alloc (by simp) _)
  go_enter Tryz.func86, Tryz.ntmps86
  go_wp2_with fail
  rw [hS] at HG1 HB1 hgl hdl
  clear hmb
  have hx1 : ∀ W1 : World, Below S w W1 → W1.cell? ⟨db, 2, none⟩ = some (.slice d.A d.b.length d.ac) ∧ W1.cell? ⟨db, 3, none⟩ = some (.int .i64 (d.k : Int)) ∧ W1.cell? ⟨db, 4, none⟩ = some (.int .i64 (d.t : Int)) := fun W1 hb => ⟨(hb.cell (p := ⟨db, 2, none⟩) hdl).trans d2c, (hb.cell (p := ⟨db, 3, none⟩) hdl).trans d3c, (hb.cell (p := ⟨db, 4, none⟩) hdl).trans d4c⟩
  have HX1 := Lib.hid hx1
  obtain ⟨m2, m3, _⟩ := hx1 _ HB1.out
  clear hx1 d0c d1c d2c d3c d4c d5c k4
  obtain ⟨W1, hW1⟩ : ∃ W1, ((w.alloc (.cells (madeCells #[.bool false] M) 4)).alloc (.cells #[.slice (some ⟨S, 0, none⟩) M M] 57)) = W1 := ⟨_, rfl⟩
  rw [hW1] at HG1 HB1 m2 m3 ⊢
  clear hW1
  have HAF := Lib.hid HR.out.hAf
  obtain ⟨dk, hdk⟩ : ∃ z, d.k = z := ⟨_, rfl⟩
  obtain ⟨dn, hdn⟩ : ∃ z, d.b.length = z := ⟨_, rfl⟩
  obtain ⟨dA, hdA⟩ : ∃ z, d.A = z := ⟨_, rfl⟩
  obtain ⟨dc, hdc⟩ : ∃ z, d.ac = z := ⟨_, rfl⟩
  obtain ⟨dt, hdt⟩ : ∃ z, d.t = z := ⟨_, rfl⟩
  have HDE := Lib.hid (And.intro hdk (And.intro hdn (And.intro hdA (And.intro hdc hdt))))
  rw [hdk, hdn, hdA, hdc, hdt] at HX1
  rw [hdn, hdA, hdc] at m2
  rw [hdk] at m3 hk0 hpl
  rw [hdn] at hk0 hb8 hbl
  rw [hdc] at hbl hac
  rw [hdA, hdc] at HAF
  clear hdk hdn hdA hdc hdt
  go_cut [28, 29, 30] (fun s28 s29 s30 wx => s28 = .slice dA dk dc ∧ s29 = .int .i64 (dk : Int) ∧ s30 = .int .i64 0 ∧ wx = W1.drew)
  case first =>
    have k0 : (0 : Int) ≤ (dk : Int) := by omega
    have k1 : (dk : Int) ≤ (dc : Int) := by omega
    rcases HAF.out with ⟨rfl, hb, rfl⟩ | ⟨b0, o0, rfl, _, _⟩
    · obtain rfl : dk = 0 := by omega
      go_region
      go_wp2_with fail
      go_meet
      exact ⟨rfl, rfl, rfl, rfl⟩
    · go_region
      go_wp2_with fail
      go_meet
      exact ⟨rfl, rfl, rfl, rfl⟩
  case rest =>
  obtain ⟨rfl, rfl, rfl, hw⟩ := hcut
  subst hw
  clear m2 m3
  have HP := Lib.hid (show (pre d).length = dk from hpl)
  have HPM := Lib.hid HR.out.hpm
  have HG2 := Lib.hid (show MG W1 W1.drew S M ((pre d).take 0) from by rw [List.take_zero]; exact ⟨HG1.out.r, HG1.out.bx, (Below.refl _ _).drew, HG1.out.sz⟩)
  have HSL := Lib.hid (show ∀ wr, Below S W1 wr → Sl wr S 1 CI dA (zs (pre d)) from fun wr hb => by
    have := pre_sl HR.out.hA
    rw [HDE.out.2.2.1, hS] at this
    exact this.below (HB1.out.trans hb))
  clear hpl HG1
  go_wp2
  go_loopw [30] (fun i wr => ∃ j : Nat, j ≤ dk ∧ i = .int .i64 (j : Int) ∧ MG W1 wr S M ((pre d).take j)) (fun i _ => dk - (intOf i).toNat)
  case atStart => exact ⟨0, Nat.zero_le _, rfl, HG2.out⟩
  case round =>
    obtain ⟨j, hj, rfl, hmg⟩ := hrel
    have HMG := Lib.hid hmg
    have hbx := hmg.bx
    have hsz2 := hmg.sz
    clear hmg
    by_cases hlt : j < dk
    · have hjp : j < (pre d).length := by rw [HP.out]; exact hlt
      obtain ⟨b3, o3, e3, g3, q3⟩ := int_at (HSL.out wr HMG.out.be) (i := j) (by rw [zs_len]; exact hjp)
      rw [zs_at hjp] at q3
      have hxM := HPM.out _ (List.getElem_mem hjp)
      have HTK := Lib.hid (show (pre d).take (j + 1) = (pre d).take j ++ [(pre d)[j]] from List.take_succ_eq_append_getElem hjp)
      obtain ⟨x, hx⟩ : ∃ x, (pre d)[j] = x := ⟨_, rfl⟩
      rw [hx] at q3 hxM HTK
      have x0 : (0 : Int) ≤ (x : Int) := by omega
      have x1 : (x : Int) < (M : Int) := by omega
      have j0 : (0 : Int) ≤ (j : Int) := by omega
      have j1 : (j : Int) < (dk : Int) := by omega
      have f1 : wr.frozen? ⟨S, x, none⟩ = false := fro_row HMG.out.r x
      have c1 := (HMG.out.r).cell (i := x) (by rw [clL_len]; exact hxM)
      subst e3
      clear hx
      go_wp2
      go_roundw
      case rel => exact ⟨j + 1, by omega, by go_num, by
        rw [HTK.out]
        exact HMG.out.set⟩
      case measure => simp [intOf]; omega
    · obtain rfl : j = dk := by omega
      have hz : ¬ ((j : Nat) : Int) < ((j : Nat) : Int) := by omega
      have HMG2 := Lib.hid (show MG W1 wr S M (pre d) from by have := HMG.out; rwa [List.take_of_length_le (by rw [HP.out]; omega)] at this)
      obtain ⟨_, _, n4⟩ := HX1.out wr (HB1.out.trans HMG.out.be)
      clear HMG HG2
      go_wp2_with fail
      have hbS := HB1.out.trans HMG2.out.be
      have hzS := hbS.size
      rw [hS] at hzS
      have HNW := Lib.hid (show ∀ w' : World, Below S wr w' → Nw w' w'.heap.size g p from fun w' hb => by
        have h1 := hbS.trans hb
        have h2 := HR.out.h.below (h1.mono (by have := HR.out.hB; omega))
        exact h2.more (by have := HR.out.hB; have := h1.size; omega))
      have HFR := Lib.hid (show ∀ w' : World, Below S wr w' → CRow w' fb fr from fun w' hb => HR.out.hfr.below (hbS.trans hb) (by have := HR.out.hfr.lt; omega))
      have HDR := Lib.hid (show ∀ w' : World, Below S wr w' → Drow w' db d from fun w' hb => ((hbS.trans hb).block db hdl).trans HR.out.hd)
      have HC58 := Lib.hid (descend_gr wr.heap.size g M dt t fb fr p wr hM (HNW.out wr (Below.refl _ _)) (Nat.le_refl _) (HFR.out wr (Below.refl _ _)) HR.out.hfl (by have := HR.out.htd; rw [HDE.out.2.2.2.2] at this; exact this) HR.out.ht HR.out.hbf HR.out.hnf (by have := HR.out.hf0; rw [HDE.out.2.2.2.2] at this; exact this))
      refine HC58.out.mono ?_
      rintro e w2 ⟨⟨v, q, rfl, hown, hpq⟩, hb2⟩
      obtain ⟨Aq, cq, hv, _, _, _⟩ := hown.form
      rw [List.length_map] at hv
      subst hv
      have HOW := Lib.hid (show Own w2 wr.heap.size 3 1 fI (.slice Aq q.length cq) (zs q) from hown)
      have HPQ := Lib.hid hpq
      have hq8 := hpq.pt.len.2
      have HBq := Lib.hid (show Below S wr w2 from hb2.mono hzS)
      have HMG3 := Lib.hid (show MG W1 w2 S M (pre d) from ⟨(hb2.block S (by omega)).trans HMG2.out.r, (hb2.cell (p := ⟨S + 1, 0, none⟩) hsz2).trans hbx, HMG2.out.be.trans HBq.out, Nat.lt_of_lt_of_le hsz2 hb2.size⟩)
      have HC105 := Lib.hid (containsShut_any M S (S + 1) Aq q cq (clL M (pre d)) w2 (fI_CI (HOW.out.sl fI_len (by rw [zs_len]))) (by omega) HMG3.out.r (clL_len _ _) (fun x hx => (hpq.pt.mM x hx).1) HMG3.out.bx)
      have HANY := Lib.hid (show q.any (gB1 (clL M (pre d))) = false → ∀ x ∈ q, x ∉ pre d from fun h x hx hp => by
        have := List.any_eq_false.1 h x hx
        rw [clL_at (hpq.pt.mM x hx).1] at this
        simp [hp] at this)
      obtain ⟨ct, hct⟩ : ∃ z, q.any (gB1 (clL M (pre d))) = z := ⟨_, rfl⟩
      rw [hct] at HC105 HANY
      clear hown hpq hb2 hct HC58 hbx n4
      go_wp2_with fail
      refine HC105.out.mono ?_
      rintro e w3 ⟨rfl, hw3⟩
      subst hw3
      obtain ⟨_, _, n4⟩ := HX1.out w2 (hbS.trans HBq.out)
      have bx2 := HMG3.out.bx
      obtain ⟨s0, hqs, hgr⟩ := pq_gr q dt HPQ.out
      have HGR := Lib.hid hgr
      have HQS := Lib.hid hqs
      obtain ⟨nq, hnq⟩ : ∃ z, q.length = z := ⟨_, rfl⟩
      have HNQ := Lib.hid hnq
      rw [hnq] at HOW ⊢
      clear hqs hgr hnq
      go_upto_if 48 with (fail)
      go_cut [12] (fun s12 wx => ∃ (A4 : Option Addr) (c4 n4 : Nat) (s4 : List Nat) (d4 : D6), s12 = .slice A4 n4 c4 ∧ n4 = s4.length + 1 ∧ n4 ≤ M ∧ Drow wx db d4 ∧ d4.A = dA ∧ d4.b = d.b ∧ d4.ac = dc ∧ d4.k = j ∧ d4.t = dt ∧ d4.F = d.F ∧ d4.f = d.f ∧ d4.fc = d.fc ∧ Own wx S 3 1 fI (.slice A4 n4 c4) (zs (dt :: s4)) ∧ Fp db db w wx ∧
        ((Gr t (nxN p) (wtP p) (fun x => gC fr x) (dt :: s4) ∧ (∀ x ∈ dt :: s4, x ∉ pre d) ∧ d4.l = d.l ∧ d4.m = d.m) ∨ (Gr t (nxN p) (wtP p) (fun x => gC res x) (dt :: s4) ∧ 0 ≤ (gC res d.t).1 ∧ (d4.l, d4.m) = spn (wtP p) (pre d) d.t (gC res d.t))))
      case first =>
        cases ct
        · go_wp2_with fail
          go_meet
          have hd := HDE.out
          exact ⟨Aq, cq, nq, s0, d, rfl, by rw [← HNQ.out, HQS.out]; rfl, by rw [← HNQ.out]; exact hq8, HDR.out w2 HBq.out, hd.2.2.1, rfl, hd.2.2.2.1, hd.1, hd.2.2.2.2, rfl, rfl, rfl, by have := HOW.out; rw [HQS.out] at this; exact this.lower hzS, ((Fp.refl db db w).below (hbS.trans HBq.out) (Nat.le_of_eq hS)),
            .inl ⟨by have := HGR.out; rwa [HQS.out] at this, by have := HANY.out (by first | rfl | trivial); rwa [HQS.out] at this, rfl, rfl⟩⟩
        · have HC57 := Lib.hid (costs_M w2.heap.size g S t n (clL M (pre d)) res p w2 M hM (HNW.out w2 HBq.out) (Nat.le_refl _) HR.out.ht (clL_len _ _) HMG3.out.r HR.out.hs)
          go_wp2_with fail
          refine HC57.out.mono ?_
          rintro e w4 ⟨⟨cb, rfl, hrow, hcbw⟩, hb4⟩
          have HB4 := Lib.hid (show Below S wr w4 from HBq.out.trans (hb4.mono (by have := HBq.out.size; omega)))
          have HROW := Lib.hid hrow
          obtain ⟨r0, r1⟩ := hrow.gc (i := dt) (by have := HR.out.htd; rw [HDE.out.2.2.2.2] at this; rw [costsL_len HR.out.hs]; exact this)
          obtain ⟨n2, n3, n4'⟩ := HX1.out w4 (hbS.trans HB4.out)
          have hdtM : dt < M := by have := HR.out.htd; rw [HDE.out.2.2.2.2] at this; exact this
          have hbdd := HR.out.hbr dt (by rw [costsL_len HR.out.hs]; exact hdtM)
          have HRT := Lib.hid (show d.t = dt from HDE.out.2.2.2.2)
          have HSPN := Lib.hid (show ∀ x y : Int, gC res dt = (x, y) → spn (wtP p) (pre d) d.t (gC res d.t) = spn (wtP p) (pre d) dt (x, y) from fun x y e => by rw [HRT.out, e])
          obtain ⟨cx, hcx⟩ : ∃ z, (gC res dt).1 = z := ⟨_, rfl⟩
          obtain ⟨cy, hcy⟩ : ∃ z, (gC res dt).2 = z := ⟨_, rfl⟩
          have HCX := Lib.hid hcx
          have HSP2 := Lib.hid (HSPN.out cx cy (Prod.ext hcx hcy))
          rw [hcx] at r0 hbdd; rw [hcy] at r1 hbdd
          have t0 : (0 : Int) ≤ (dt : Int) := by omega
          have t1 : (dt : Int) < (M : Int) := by omega
          clear hrow hcx hcy HSPN
          by_cases hneg : cx < 0
          · go_wp2_with fail
            go_ret
            exact ⟨.inl ⟨rfl, by rw [HRT.out, HCX.out]; exact hneg⟩, (Fp.refl db db w).below (hbS.trans HB4.out) (Nat.le_of_eq hS)⟩
          · have hnd : decide (cx < 0) = false := by rw [decide_eq_false_iff_not]; exact hneg
            have hx0 : 0 ≤ cx := by omega
            obtain ⟨hb1, hb2, hb3⟩ := hbdd
            obtain ⟨hy0, hy1⟩ := hb3 hx0
            obtain ⟨zx, hzx⟩ : ∃ z, (spn (wtP p) (pre d) dt (cx, cy)).1 = z := ⟨_, rfl⟩
            obtain ⟨zy, hzy⟩ : ∃ z, (spn (wtP p) (pre d) dt (cx, cy)).2 = z := ⟨_, rfl⟩
            have HSP3 := Lib.hid (show (zx, zy) = spn (wtP p) (pre d) d.t (gC res d.t) by rw [HSP2.out, ← hzx, ← hzy])
            have HC107 := Lib.hid (show ∀ w' : World, Below S wr w' → Calls Tryz.prog 107 #[.pointer (some ⟨g, 0, none⟩), .slice dA j dc, .int .i64 (dt : Int), .agg #[.int .i64 cx, .int .i64 cy]] w' fun e w2 => e = .returned (.agg #[.int .i64 zx, .int .i64 zy]) ∧ Below w'.heap.size w' w2 from fun w' hb => by
              have h1 := (hbS.trans hb).size
              have := spent_any w'.heap.size g M p (pre d) dA dc dt cx cy w' hM (HNW.out w' hb) (Nat.le_refl _) ((HSL.out w' (HMG2.out.be.trans hb)).more (fun _ _ h => h) (by omega)) (by rw [HP.out]; omega) (by unfold maxLen; omega) HPM.out (by rw [HP.out]; omega) hdtM hx0 hb2 hy0 hy1
              rw [HP.out] at this
              refine this.mono fun e w2 h => ?_
              obtain ⟨he, hbb⟩ := h
              rw [hzx, hzy] at he
              exact ⟨he, hbb⟩)
            have HDR2 := Lib.hid (show ∀ w', Below S wr w' → w'.heap[db]? = some (.cells #[.int .i64 d.l, .int .i64 d.m, .slice dA dn dc, .int .i64 (j : Int), .int .i64 (dt : Int), .slice d.F d.f.length d.fc] 152) from fun w' hb => by
              have h := HDR.out w' hb
              obtain ⟨e1, e2, e3, e4, e5⟩ := HDE.out
              unfold Drow at h
              rw [e1, e2, e3, e4, e5] at h
              exact h)
            have HB4d := Lib.hid (show ∀ w', Below w4.heap.size w4 w' → Below S wr w' from fun w' hb => HB4.out.trans (hb.mono (by have := HB4.out.size; omega)))
            have hcbl := HROW.out.lt
            have hcbd : db ≠ cb := by have := HBq.out.size; omega
            have hcbd' : ¬ cb = db := fun e => hcbd e.symm
            have hdb4 : db < w4.heap.size := by have := HB4.out.size; omega
            clear HSP2 hzx hzy bx2 n4
            go_upto_region 12 with (fail)
            go_cut [12] from 62 to 94 (fun s12 wx => s12 = .slice Aq nq cq ∧ wx.heap[db]? = some (.cells #[.int .i64 zx, .int .i64 zy, .slice dA dn dc, .int .i64 (j : Int), .int .i64 (dt : Int), .slice d.F d.f.length d.fc] 152) ∧ Fp db db w4 wx)
            case first =>
              have k0 : (0 : Int) ≤ (j : Int) := by omega
              have k1 : (j : Int) ≤ (dc : Int) := by omega
              rcases HAF.out with ⟨hAe, hbe, hce⟩ | ⟨b0, o0, hAe, _, _⟩
              · obtain rfl : j = 0 := by
                  have := HDE.out.2.1
                  rw [hbe] at this
                  simp at this
                  omega
                subst hAe
                subst hce
                have hbq : Below w4.heap.size w4 w4.drew := (Below.refl _ _).drew
                have HK := Lib.hid (show ∀ w', Below w4.heap.size w4 w' → (w'.cell? ⟨db, 2, none⟩ = some (.slice none dn 0) ∧ w'.cell? ⟨db, 3, none⟩ = some (.int .i64 ((0 : Nat) : Int)) ∧ w'.cell? ⟨db, 4, none⟩ = some (.int .i64 (dt : Int)) ∧ w'.cell? ⟨cb, dt * 2, none⟩ = some (.int .i64 cx) ∧ w'.cell? ⟨cb, dt * 2 + 1, none⟩ = some (.int .i64 cy)) from fun w' hb =>
                  ⟨(hb.cell (p := ⟨db, 2, none⟩) hdb4).trans n2, (hb.cell (p := ⟨db, 3, none⟩) hdb4).trans n3, (hb.cell (p := ⟨db, 4, none⟩) hdb4).trans n4', (hb.cell (p := ⟨cb, dt * 2, none⟩) hcbl).trans r0, (hb.cell (p := ⟨cb, dt * 2 + 1, none⟩) hcbl).trans r1⟩)
                go_region_held3 (fun w' => w'.cell? ⟨db, 2, none⟩ = some (.slice none dn 0) ∧ w'.cell? ⟨db, 3, none⟩ = some (.int .i64 ((0 : Nat) : Int)) ∧ w'.cell? ⟨db, 4, none⟩ = some (.int .i64 (dt : Int)) ∧ w'.cell? ⟨cb, dt * 2, none⟩ = some (.int .i64 cx) ∧ w'.cell? ⟨cb, dt * 2 + 1, none⟩ = some (.int .i64 cy))
                  (first
                    | exact HK.out _ hbq
                    | (have hr := heap_set_same (i := 1) (.int .i64 zy) (heap_set_same (i := 0) (.int .i64 zx) hdr5); exact ⟨cell_of_row _ _ 2 _ _ _ hr, cell_of_row _ _ 3 _ _ _ hr, cell_of_row _ _ 4 _ _ _ hr, far2 (HK.out _ hbq).2.2.2.1 hcbd, far2 (HK.out _ hbq).2.2.2.2 hcbd⟩)
                    | (go_keep; done))
                  ((go_at_call 107; (with_reducible refine (HC107.out _ (HB4d.out _ hbq)).mono ?_); rintro e w5 ⟨rfl, hb5⟩; replace hbq := hbq.trans (hb5.mono hbq.size); have hdr5 := HDR2.out _ (HB4d.out _ hbq); have g0 := fro_row hdr5 0; have g1 := fro_row hdr5 1; have h0 := cell_of_row _ _ 0 _ _ _ hdr5; have h1 := cell_of_row _ _ 1 _ _ _ hdr5; simp only [List.getElem?_toArray, List.getElem?_cons_zero, List.getElem?_cons_succ] at h0 h1))
                all_goals
                  go_wp2_with fail
                  go_meet
                  exact ⟨rfl, by have hr := heap_set_same (i := 1) (.int .i64 zy) (heap_set_same (i := 0) (.int .i64 zx) hdr5); exact hr, (((Fp.refl db db w4).below hbq (Nat.le_refl _)).set (p := ⟨db, 0, none⟩) _ (.inl rfl)).set (p := ⟨db, 1, none⟩) _ (.inl rfl)⟩
              · subst hAe
                have hbq : Below w4.heap.size w4 w4.drew := (Below.refl _ _).drew
                have HK := Lib.hid (show ∀ w', Below w4.heap.size w4 w' → (w'.cell? ⟨db, 2, none⟩ = some (.slice (some ⟨b0, o0, none⟩) dn dc) ∧ w'.cell? ⟨db, 3, none⟩ = some (.int .i64 (j : Int)) ∧ w'.cell? ⟨db, 4, none⟩ = some (.int .i64 (dt : Int)) ∧ w'.cell? ⟨cb, dt * 2, none⟩ = some (.int .i64 cx) ∧ w'.cell? ⟨cb, dt * 2 + 1, none⟩ = some (.int .i64 cy)) from fun w' hb =>
                  ⟨(hb.cell (p := ⟨db, 2, none⟩) hdb4).trans n2, (hb.cell (p := ⟨db, 3, none⟩) hdb4).trans n3, (hb.cell (p := ⟨db, 4, none⟩) hdb4).trans n4', (hb.cell (p := ⟨cb, dt * 2, none⟩) hcbl).trans r0, (hb.cell (p := ⟨cb, dt * 2 + 1, none⟩) hcbl).trans r1⟩)
                go_region_held3 (fun w' => w'.cell? ⟨db, 2, none⟩ = some (.slice (some ⟨b0, o0, none⟩) dn dc) ∧ w'.cell? ⟨db, 3, none⟩ = some (.int .i64 (j : Int)) ∧ w'.cell? ⟨db, 4, none⟩ = some (.int .i64 (dt : Int)) ∧ w'.cell? ⟨cb, dt * 2, none⟩ = some (.int .i64 cx) ∧ w'.cell? ⟨cb, dt * 2 + 1, none⟩ = some (.int .i64 cy))
                  (first
                    | exact HK.out _ hbq
                    | (have hr := heap_set_same (i := 1) (.int .i64 zy) (heap_set_same (i := 0) (.int .i64 zx) hdr5); exact ⟨cell_of_row _ _ 2 _ _ _ hr, cell_of_row _ _ 3 _ _ _ hr, cell_of_row _ _ 4 _ _ _ hr, far2 (HK.out _ hbq).2.2.2.1 hcbd, far2 (HK.out _ hbq).2.2.2.2 hcbd⟩)
                    | (go_keep; done))
                  ((go_at_call 107; (with_reducible refine (HC107.out _ (HB4d.out _ hbq)).mono ?_); rintro e w5 ⟨rfl, hb5⟩; replace hbq := hbq.trans (hb5.mono hbq.size); have hdr5 := HDR2.out _ (HB4d.out _ hbq); have g0 := fro_row hdr5 0; have g1 := fro_row hdr5 1; have h0 := cell_of_row _ _ 0 _ _ _ hdr5; have h1 := cell_of_row _ _ 1 _ _ _ hdr5; simp only [List.getElem?_toArray, List.getElem?_cons_zero, List.getElem?_cons_succ] at h0 h1))
                all_goals
                  go_wp2_with fail
                  go_meet
                  exact ⟨rfl, by have hr := heap_set_same (i := 1) (.int .i64 zy) (heap_set_same (i := 0) (.int .i64 zx) hdr5); exact hr, (((Fp.refl db db w4).below hbq (Nat.le_refl _)).set (p := ⟨db, 0, none⟩) _ (.inl rfl)).set (p := ⟨db, 1, none⟩) _ (.inl rfl)⟩
            case rest =>
              obtain ⟨rfl, hdrow, hfp⟩ := hcut
              have HDW := Lib.hid hdrow
              have HFW := Lib.hid (((Fp.refl db db w).below (hbS.trans HB4.out) (Nat.le_of_eq hS)).trans hfp (.inl rfl))
              have HNC := Lib.hid (show Nw wc wc.heap.size g p from (HR.out.h.below (HFW.out.toBelow HR.out.hdB HR.out.hdB HR.out.hB)).more (by have := HFW.out.size; have := HR.out.hB; omega))
              have HRC := Lib.hid (HROW.out.fp hfp (Ne.symm hcbd) (Ne.symm hcbd))
              have HC58b := Lib.hid (descend_gr wc.heap.size g M dt t cb res p wc hM HNC.out (Nat.le_refl _) HRC.out (costsL_len HR.out.hs) hdtM HR.out.ht HR.out.hbr HR.out.hnr (by rw [HCX.out]; exact hx0))
              have h4 := cell_of_row _ _ 4 _ _ _ hdrow
              simp only [List.getElem?_toArray, List.getElem?_cons_zero, List.getElem?_cons_succ] at h4
              have hzc := HFW.out.size
              clear hdrow hfp r0 r1 n2 n3 n4' HC107
              go_wp2_with fail
              refine HC58b.out.mono ?_
              rintro e w6 ⟨⟨v, q2, rfl, hown, hpq⟩, hb6⟩
              obtain ⟨A6, c6, hv, _, _, _⟩ := hown.form
              rw [List.length_map] at hv
              subst hv
              obtain ⟨s6, hq6, hgr6⟩ := pq_gr q2 dt hpq
              have hown' : Own w6 wc.heap.size 3 1 fI (.slice A6 q2.length c6) (zs q2) := hown
              have HFIN := Lib.hid (And.intro hown' (And.intro hq6 (And.intro hgr6 hb6)))
              obtain ⟨n6, hn6⟩ : ∃ z, q2.length = z := ⟨_, rfl⟩
              rw [hn6] at HFIN ⊢
              have HN6 := Lib.hid hn6
              have hdwc : db < wc.heap.size := by omega
              have hq6M := hpq.pt.len.2
              rw [HN6.out] at hq6M
              clear hown hpq hq6 hgr6 hown' hn6
              go_wp2_with fail
              go_meet
              obtain ⟨f1, f2, f3, f4⟩ := HFIN.out
              obtain ⟨e1, e2, e3, e4, e5⟩ := HDE.out
              refine ⟨A6, c6, n6, s6, ⟨zx, zy, d.A, d.b, d.ac, d.k, d.t, d.F, d.f, d.fc⟩, rfl, by rw [← HN6.out, f2]; rfl, hq6M, ?_, e3, rfl, e4, e1, e5, rfl, rfl, rfl, by rw [f2] at f1; exact f1.lower (by rw [← hS]; exact hzc), HFW.out.below f4 hzc, .inr ⟨by rw [f2] at f3; exact f3, by rw [e5, HCX.out]; exact hx0, HSP3.out⟩⟩
              unfold Drow
              simp only [e1, e2, e3, e4, e5]
              exact (f4.block db hdwc).trans HDW.out
      case rest =>
      obtain ⟨A4, c4, n4, s4, d4, rfl, hn4, hn4M, hdr, e1, e2, e3, e4, e5, eF, ef, efc, hown, hfp, hcase⟩ := hcut
      have HCS := Lib.hid hcase
      have HOW4 := Lib.hid hown
      have HFW := Lib.hid hfp
      have HE := Lib.hid (And.intro e1 (And.intro e2 (And.intro e3 (And.intro e4 (And.intro e5 (And.intro eF (And.intro ef efc)))))))
      obtain ⟨l4, hl4⟩ : ∃ z, d4.l = z := ⟨_, rfl⟩
      obtain ⟨m4, hm4⟩ : ∃ z, d4.m = z := ⟨_, rfl⟩
      have HL4 := Lib.hid hl4; have HM4 := Lib.hid hm4
      have hrow4 : wc.heap[db]? = some (.cells #[.int .i64 l4, .int .i64 m4, .slice dA dn dc, .int .i64 (j : Int), .int .i64 (dt : Int), .slice d.F d.f.length d.fc] 152) := by
        unfold Drow at hdr
        rw [e1, e2, e3, e4, e5, eF, ef, efc, HDE.out.2.1, hl4, hm4] at hdr
        exact hdr
      have HRW := Lib.hid hrow4
      have hzc := hfp.size
      have hdc4 : db < wc.heap.size := by omega
      have hsl2 : Sl wc wc.heap.size 1 CI dA (zs (pre d)) := by
        have h0 := pre_sl HR.out.hA
        rw [HDE.out.2.2.1] at h0
        intro hne
        obtain ⟨b, o, e, hb, hc⟩ := h0 hne
        refine ⟨b, o, e, by omega, fun i x hx => ?_⟩
        obtain ⟨cs, g1, g2⟩ := hc i x hx
        refine ⟨cs, g1, fun k u hu => ?_⟩
        have hbd : b ≠ db := by
          rcases HAF.out with ⟨hAe, _, _⟩ | ⟨b0, o0, hAe, hbn, _⟩
          · rw [hAe] at e; cases e
          · rw [hAe] at e
            injection e with e
            injection e with e _ _
            omega
        rw [← g2 k u hu]
        unfold World.cell?
        rw [hfp.block b hb hbd hbd]
      have hsl4 : Sl wc wc.heap.size 1 CI A4 (zs (dt :: s4)) := fI_CI (hown.sl fI_len (by rw [zs_len, List.length_cons, hn4]))
      have hbA : Below wc.heap.size wc ((wc.alloc (.cells #[.slice dA j dc, .slice A4 n4 c4] 50)).drew) := ((Below.refl _ wc).alloc (Nat.le_refl _) _).drew
      have hnw := heap_alloc_new wc (.cells #[.slice dA j dc, .slice A4 n4 c4] 50)
      have hn8 : n4 ≤ 801 := by omega
      have HC108 := Lib.hid (show Calls Tryz.prog 108 #[.slice (some ⟨wc.heap.size, 0, none⟩) 2 2] ((wc.alloc (.cells #[.slice dA j dc, .slice A4 n4 c4] 50)).drew) (CatPost (pre d ++ dt :: s4) ((wc.alloc (.cells #[.slice dA j dc, .slice A4 n4 c4] 50)).drew)) from
        concat_any wc.heap.size dA A4 (pre d) (dt :: s4) dc c4 _ ((hsl2.below hbA).more (fun _ _ h => h) hbA.size) ((hsl4.below hbA).more (fun _ _ h => h) hbA.size) (by show _ < (wc.alloc _).heap.size; simp) (by rw [HP.out]; exact cell_of_row _ _ 0 _ _ _ hnw) (by rw [List.length_cons, ← hn4]; exact cell_of_row _ _ 1 _ _ _ hnw) (by rw [HP.out]; omega) (by rw [List.length_cons]; omega) (by simp))
      have HKB := Lib.hid (show ∀ w', Below wc.heap.size wc w' → (w'.cell? ⟨db, 2, none⟩ = some (.slice dA dn dc) ∧ w'.cell? ⟨db, 3, none⟩ = some (.int .i64 (j : Int))) from fun w' hb => by
        have hr := (hb.block db hdc4).trans HRW.out
        exact ⟨cell_of_row _ _ 2 _ _ _ hr, cell_of_row _ _ 3 _ _ _ hr⟩)
      clear hcase hown hfp e1 e2 e3 e4 e5 eF ef efc hl4 hm4 hdr hrow4 hsl2 hsl4 hnw hn4
      go_upto_region 14 with (fail)
      go_cut [12] from 95 to 109 (fun s12 wx => ∃ (A9 : Option Addr) (n9 c9 : Nat), wx.heap[db]? = some (.cells #[.int .i64 l4, .int .i64 m4, .slice dA dn dc, .int .i64 (j : Int), .int .i64 (dt : Int), .slice A9 n9 c9] 152) ∧ Own wx S 3 1 fI (.slice A9 n9 c9) (zs (pre d ++ dt :: s4)) ∧ Fp db db wc wx)
      case first =>
        have k0 : (0 : Int) ≤ (j : Int) := by omega
        have k1 : (j : Int) ≤ (dc : Int) := by omega
        have hbq : Below wc.heap.size wc wc.drew := (Below.refl _ _).drew
        rcases HAF.out with ⟨hAe, hbe, hce⟩ | ⟨b0, o0, hAe, _, _⟩
        · obtain rfl : j = 0 := by
            have := HDE.out.2.1
            rw [hbe] at this
            simp at this
            omega
          subst hAe
          subst hce
          go_region_held3 (fun w' => w'.cell? ⟨db, 2, none⟩ = some (.slice none dn 0) ∧ w'.cell? ⟨db, 3, none⟩ = some (.int .i64 ((0 : Nat) : Int)))
            (first
              | (have hr := heap_set_same (i := 5) (.slice A9 n9 c9) hr8; exact ⟨cell_of_row _ _ 2 _ _ _ hr, cell_of_row _ _ 3 _ _ _ hr⟩)
              | exact HKB.out _ hb8
              | exact HKB.out _ hbq
              | exact HKB.out _ hbA)
            ((go_at_call 108; (with_reducible refine HC108.out.mono ?_); rintro e w8 ⟨⟨v, rfl, hown8⟩, hb8'⟩; have hb8 := hbA.trans (hb8'.mono hbA.size); have hr8 := (hb8.block db hdc4).trans HRW.out; have g0 := fro_row hr8 5; have h5 := cell_of_row _ _ 5 _ _ _ hr8; simp only [List.getElem?_toArray, List.getElem?_cons_zero, List.getElem?_cons_succ] at h5; obtain ⟨A9, c9, hv9, _, _, _⟩ := hown8.form; obtain ⟨n9, hn9⟩ : ∃ z, (zs (pre d ++ dt :: s4)).length = z := ⟨_, rfl⟩; rw [hn9] at hv9; subst hv9))
          all_goals
            go_wp2_with fail
            go_meet
            exact ⟨A9, n9, c9, heap_set_same (i := 5) (.slice A9 n9 c9) hr8, (hown8.lower (by have := hbA.size; omega)).of_blocks fun b hb => Below.heap_setCell _ _ _ _ (by have := (hown8.lt b hb).1; have := hbA.size; simp; omega), ((Fp.refl db db wc).below hb8 (Nat.le_refl _)).set (p := ⟨db, 5, none⟩) _ (.inl rfl)⟩
        · subst hAe
          go_region_held3 (fun w' => w'.cell? ⟨db, 2, none⟩ = some (.slice (some ⟨b0, o0, none⟩) dn dc) ∧ w'.cell? ⟨db, 3, none⟩ = some (.int .i64 (j : Int)))
            (first
              | (have hr := heap_set_same (i := 5) (.slice A9 n9 c9) hr8; exact ⟨cell_of_row _ _ 2 _ _ _ hr, cell_of_row _ _ 3 _ _ _ hr⟩)
              | exact HKB.out _ hb8
              | exact HKB.out _ hbq
              | exact HKB.out _ hbA)
            ((go_at_call 108; (with_reducible refine HC108.out.mono ?_); rintro e w8 ⟨⟨v, rfl, hown8⟩, hb8'⟩; have hb8 := hbA.trans (hb8'.mono hbA.size); have hr8 := (hb8.block db hdc4).trans HRW.out; have g0 := fro_row hr8 5; have h5 := cell_of_row _ _ 5 _ _ _ hr8; simp only [List.getElem?_toArray, List.getElem?_cons_zero, List.getElem?_cons_succ] at h5; obtain ⟨A9, c9, hv9, _, _, _⟩ := hown8.form; obtain ⟨n9, hn9⟩ : ∃ z, (zs (pre d ++ dt :: s4)).length = z := ⟨_, rfl⟩; rw [hn9] at hv9; subst hv9))
          all_goals
            go_wp2_with fail
            go_meet
            exact ⟨A9, n9, c9, heap_set_same (i := 5) (.slice A9 n9 c9) hr8, (hown8.lower (by have := hbA.size; omega)).of_blocks fun b hb => Below.heap_setCell _ _ _ _ (by have := (hown8.lt b hb).1; have := hbA.size; simp; omega), ((Fp.refl db db wc).below hb8 (Nat.le_refl _)).set (p := ⟨db, 5, none⟩) _ (.inl rfl)⟩
      case rest =>
      obtain ⟨A9, n9, c9, hr9, ho9, hf9⟩ := hcut
      have HR9 := Lib.hid hr9; have HO9 := Lib.hid ho9; have HF9 := Lib.hid hf9
      clear hr9 ho9 hf9
      go_wp2
      go_ret
      have hln : n9 = (pre d ++ dt :: s4).length := by
        obtain ⟨_, _, hv, _, _, _⟩ := HO9.out.form
        injection hv with _ hv _
        rw [hv, zs_len]
      obtain ⟨e1, e2, e3, e4, e5, eF, ef, efc⟩ := HE.out
      obtain ⟨g1, g2, g3, g4, g5⟩ := HDE.out
      refine ⟨.inr ⟨rfl, ⟨l4, m4, d.A, d.b, d.ac, d.k, d.t, A9, pre d ++ dt :: s4, c9⟩, ⟨?_, ⟨rfl, rfl, rfl, rfl, rfl⟩, ?_, s4, by rw [g5], ?_⟩⟩, HFW.out.trans HF9.out (.inl rfl)⟩
      · unfold Drow
        simp only [g1, g2, g3, g4, g5]
        rw [← hln]
        exact HR9.out
      · show Own _ _ _ _ _ (.slice A9 (pre d ++ dt :: s4).length c9) (zs (pre d ++ dt :: s4))
        rw [← hln, hS]
        exact HO9.out
      · rw [g5]
        rw [HL4.out, HM4.out] at HCS
        rw [g5] at HCS
        exact HCS.out
end Go.Proofs.YtcpanfpijljeaaaGreat.DH

namespace Go.Proofs.YtcpanfpijljeaaaGreat.DH
set_option linter.unusedVariables false
set_option linter.unusedSimpArgs false
open Go.RowKit

section append
variable {α : Type} {f : α → List Value} {P : Program} (w : World)
/-- append of a slice that reads as m onto one of the call's own -/
theorem wp_app {o : Oper} {a : Act} {K : Act → World → Prop} {Q : Exit → Act → World → Prop} (s x : Operand) (t : TypeId)
    (ho : o.op = .call { callee := .builtin .append, args := #[s, x], argTypes := #[t, t] })
    (base : Nat) (e : TypeId) (i : TypeInfo) (z : Value) (size bytes : Nat) (ht : P.underlying t = some (.slice e)) (hi : P.info? e = some i) (hz : i.zero = some z)
    (hsize : i.size = size) (hby : i.bytes = bytes) (hzs : z.cells.size = size) (hsz : 0 < size) (hf : ∀ x, (f x).length = size) (h1 : ∀ x, ∀ u ∈ f x, u.oneCell' = true)
    (v : Value) (l : List α) (hs : a.eval s = v) (hown : Own w base e size f v l)
    (B : Nat) (A : Option Addr) (m : List α) (c : Nat) (hx : a.eval x = .slice A m.length c) (hr : Sl w B size (fun x cs => cs = f x) A m)
    (h63 : l.length + m.length ≤ maxLen) (hbytes : (l.length + m.length) * bytes ≤ 140737488355328) (hbase : base ≤ w.heap.size) (hA0 : m = [] → A = none ∨ ∃ ad, A = some ad)
    (h : ∀ v' w', Own w' base e size f v' (l ++ m) → w.grownBy w' v.ownBlock → (v'.ownBlock = v.ownBlock ∨ v'.ownBlock = some w.heap.size) → (m ≠ [] → v' ≠ .slice none 0 0) → K (a.put o.dst v') w') : o.wp P a w K Q := by
  have key : ∃ v' w', (Builtin.append_ #[t, t] o.type #[v, .slice A m.length c]).run P w = .ok v' w' ∧ Own w' base e size f v' (l ++ m) ∧ w.grownBy w' v.ownBlock ∧ (v'.ownBlock = v.ownBlock ∨ v'.ownBlock = some w.heap.size) ∧ (m ≠ [] → v' ≠ .slice none 0 0) := by
    rcases A with _ | ad
    · have hm : m = [] := by
        rcases m with _ | ⟨x, r⟩
        · rfl
        · obtain ⟨_, _, h, _⟩ := hr (by simp); cases h
      subst hm
      exact ⟨v, w, run_app_nil w base t o.type e i size ht hi v _ _ hown c, by simpa using hown, World.grownBy.refl w _, .inl rfl, fun h => absurd rfl h⟩
    · have hcells : ∀ j u, (m.flatMap f)[j]? = some u → w.cell? (ad.add j) = some u := by
        rcases m with _ | ⟨x, r⟩
        · intro j u hu; simp at hu
        · obtain ⟨b, off, h, _⟩ := hr (by simp)
          injection h with h; subst h
          exact hr.flat hf hsz rfl
      obtain ⟨v', w', hrun, h2, h3, h4, h5⟩ := run_append_own_at (P := P) w base t o.type e i z size bytes ht hi hz hsize hby hzs hsz v _ _ hown ad m.length c (m.flatMap f) (flat_len hf m) hcells (flat_one h1 m) h63 hbytes hbase
      refine ⟨v', w', hrun, ?_, h3, h5, fun hm hv => ?_⟩
      · unfold Own; rw [List.length_append, List.flatMap_append]; exact h2
      · exact hm (List.eq_nil_of_length_eq_zero (h4.1 hv).2)
  obtain ⟨v', w', hrun, h2, h3, h4, h5⟩ := key
  refine Oper.wp.eq_1 P o a w K Q ▸ ?_
  unfold execOp
  simp only [ho, resolve, invoke, builtin, Sem.run_bind, Sem.run_pure, Result.andThen_ok, List.map_toArray, List.map_cons, List.map_nil, hs, hx, hrun]
  exact h v' w' h2 h3 h4 h5
end append

theorem take_sl {w : World} {B : Nat} {A : Option Addr} {l : List Nat} (h : Sl w B 1 CI A (zs l)) (k : Nat) : Sl w B 1 CI A (zs (l.take k)) := by
  intro hne
  have hne2 : zs l ≠ [] := by
    intro e
    apply hne
    have : l = [] := by simpa [zs] using e
    simp [zs, this]
  obtain ⟨b, o, e, hb, hc⟩ := h hne2
  refine ⟨b, o, e, hb, fun i x hx => hc i x ?_⟩
  unfold zs at hx ⊢
  rw [List.getElem?_map] at hx ⊢
  rw [List.getElem?_take] at hx
  split at hx
  · exact hx
  · simp at hx
theorem mem_zs {x : Nat} {l : List Nat} : (x : Int) ∈ zs l ↔ x ∈ l := by
  unfold zs
  rw [List.mem_map]
  constructor
  · rintro ⟨y, hy, e⟩
    obtain rfl : y = x := by omega
    exact hy
  · exact fun h => ⟨x, h, rfl⟩
/-- the detours that are there so far: all of the first moves, and of the next one's first followers -/
def brT (p : Pl) (free : Nat → Int × Int) (d : D6) (i : Nat) : List D6 := (List.range' d.k (i - d.k)).flatMap (brI (nxN p) (wtP p) free d)
def brJ (p : Pl) (free : Nat → Int × Int) (d : D6) (i : Nat) (jj : Nat) : List D6 := (((nxN p (gN d.f i)).take jj).filter (wantB free d i)).map (newD (wtP p) free d i)
theorem brT_succ {p : Pl} {free : Nat → Int × Int} {d : D6} {i : Nat} (h : d.k ≤ i) : brT p free d (i + 1) = brT p free d i ++ brI (nxN p) (wtP p) free d i := by
  unfold brT
  rw [show i + 1 - d.k = (i - d.k) + 1 by omega, List.range'_concat, List.flatMap_append]
  simp only [List.flatMap_cons, List.flatMap_nil, List.append_nil]
  rw [show d.k + 1 * (i - d.k) = i by omega]
theorem brJ_all {p : Pl} {free : Nat → Int × Int} {d : D6} {i : Nat} {L : Nat} (h : (nxN p (gN d.f i)).length = L) : brJ p free d i L = brI (nxN p) (wtP p) free d i := by
  unfold brJ brI
  rw [← h, List.take_length]
theorem brJ_no {p : Pl} {free : Nat → Int × Int} {d : D6} {i jj x : Nat} (h : (nxN p (gN d.f i))[jj]? = some x) (hw : wantB free d i x = false) : brJ p free d i (jj + 1) = brJ p free d i jj := by
  obtain ⟨hj, rfl⟩ := List.getElem?_eq_some_iff.1 h
  unfold brJ
  rw [List.take_succ_eq_append_getElem hj, List.filter_append]
  simp [hw]
theorem brJ_yes {p : Pl} {free : Nat → Int × Int} {d : D6} {i jj x : Nat} (h : (nxN p (gN d.f i))[jj]? = some x) (hw : wantB free d i x = true) : brJ p free d i (jj + 1) = brJ p free d i jj ++ [newD (wtP p) free d i x] := by
  obtain ⟨hj, rfl⟩ := List.getElem?_eq_some_iff.1 h
  unfold brJ
  rw [List.take_succ_eq_append_getElem hj, List.filter_append]
  simp [hw]
theorem nxN_len (p : Pl) (u : Nat) : (nxN p u).length ≤ 2 := by unfold nxN; rw [List.length_map]; exact nextL_len p u
theorem brJ_len (p : Pl) (free : Nat → Int × Int) (d : D6) (i jj : Nat) : (brJ p free d i jj).length ≤ 2 := by
  unfold brJ
  rw [List.length_map]
  have h1 := List.length_filter_le (wantB free d i) ((nxN p (gN d.f i)).take jj)
  have h2 := List.length_take_le' jj (nxN p (gN d.f i))
  have h3 := nxN_len p (gN d.f i)
  omega
theorem brI_len (p : Pl) (free : Nat → Int × Int) (d : D6) (i : Nat) : (brI (nxN p) (wtP p) free d i).length ≤ 2 := by
  rw [← brJ_all rfl]; exact brJ_len p free d i _
theorem brT_len (p : Pl) (free : Nat → Int × Int) (d : D6) : ∀ (n i : Nat), i = d.k + n ∨ i < d.k → (brT p free d i).length ≤ 2 * n
  | 0, i, h => by
    unfold brT
    rw [show i - d.k = 0 by omega]
    simp
  | n + 1, i, h => by
    rcases h with rfl | h
    · have ih := brT_len p free d n (d.k + n) (.inl rfl)
      rw [show d.k + (n + 1) = d.k + n + 1 by omega, brT_succ (by omega), List.length_append]
      have := brI_len p free d (d.k + n)
      omega
    · unfold brT
      rw [show i - d.k = 0 by omega]
      simp
/-- the detours that are there so far, in memory -/
structure BG (W1 wr : World) (S : Nat) (v : Value) (L : List D6) : Prop where
  ow : Own wr (S + 1) 152 6 fV v L
  be : Below (S + 1) W1 wr

structure BIn (B g M fb b0 o0 : Nat) (d : D6) (fr : List C2) (p : Pl) (w : World) : Prop where
  hM : 2 * p.rails.length = M
  h : Nw w B g p
  hB : B ≤ w.heap.size
  hfr : CRow w fb fr
  hfl : fr.length = M
  hF : d.F = some ⟨b0, o0, none⟩
  hSl : Sl w w.heap.size 1 CI d.F (zs d.f)
  hfc : d.f.length ≤ d.fc
  hfm : d.fc ≤ maxLen
  hf8 : d.f.length ≤ 800
  hb8 : d.b.length ≤ 100000
  hk : d.k + 1 ≤ d.f.length
  hlt : ∀ x ∈ d.f, x < M
  hbf : BdC fr

set_option maxRecDepth 100000 in
set_option maxHeartbeats 2000000 in
theorem branches_any (B g M fb b0 o0 : Nat) (d : D6) (fr : List C2) (p : Pl) (w : World) (H : BIn B g M fb b0 o0 d fr p w) :
    Calls Tryz.prog 87 #[.pointer (some ⟨g, 0, none⟩), .agg #[.int .i64 d.l, .int .i64 d.m, .slice d.A d.b.length d.ac, .int .i64 (d.k : Int), .int .i64 (d.t : Int), .slice d.F d.f.length d.fc], .slice (some ⟨fb, 0, none⟩) M M] w
      fun e w' => (∃ v, e = .returned v ∧ Own w' w.heap.size 152 6 fV v (brs (nxN p) (wtP p) (fun x => gC fr x) d)) ∧ Below w.heap.size w w' := by
  have hsz := H.h.sizes
  have hM := H.hM
  have hM8 : M ≤ 800 := by omega
  have hv := H.h.v
  obtain ⟨iD, hiD, hD0, hD1, hD2⟩ := info_parts infD
  obtain ⟨S, hS⟩ : ∃ S, w.heap.size = S := ⟨_, rfl⟩
  have HR := Lib.hid H
  have hF := H.hF
  have hk := H.hk; have hf8 := H.hf8; have hfc := H.hfc; have hfm := H.hfm
  unfold maxLen at hfm
  obtain ⟨F, hFl⟩ : ∃ F, d.f = F := ⟨_, rfl⟩
  obtain ⟨nF, hnF⟩ : ∃ z, d.f.length = z := ⟨_, rfl⟩
  obtain ⟨dk, hdk⟩ : ∃ z, d.k = z := ⟨_, rfl⟩
  obtain ⟨fc, hfce⟩ : ∃ z, d.fc = z := ⟨_, rfl⟩
  obtain ⟨nb, hnb⟩ : ∃ z, d.b.length = z := ⟨_, rfl⟩
  have HE := Lib.hid (And.intro hFl (And.intro hnF (And.intro hdk hfce)))
  obtain ⟨W1, hW1⟩ : ∃ W1, w.alloc (.cells #[.int .i64 d.l, .int .i64 d.m, .slice d.A d.b.length d.ac, .int .i64 (d.k : Int), .int .i64 (d.t : Int), .slice d.F d.f.length d.fc] 152) = W1 := ⟨_, rfl⟩
  have hrow := heap_alloc_new w (.cells #[.int .i64 d.l, .int .i64 d.m, .slice d.A d.b.length d.ac, .int .i64 (d.k : Int), .int .i64 (d.t : Int), .slice d.F d.f.length d.fc] 152)
  have hb0 : Below w.heap.size w (w.alloc (.cells #[.int .i64 d.l, .int .i64 d.m, .slice d.A d.b.length d.ac, .int .i64 (d.k : Int), .int .i64 (d.t : Int), .slice d.F d.f.length d.fc] 152)) := (Below.refl _ w).alloc (Nat.le_refl _) _
  have hz1 : (w.alloc (.cells #[.int .i64 d.l, .int .i64 d.m, .slice d.A d.b.length d.ac, .int .i64 (d.k : Int), .int .i64 (d.t : Int), .slice d.F d.f.length d.fc] 152)).heap.size = w.heap.size + 1 := by simp
  rw [hW1, hS] at hrow hb0 hz1
  rw [hF, hnF, hdk, hfce, hnb] at hrow
  rw [hnF] at hf8 hfc hk
  rw [hdk] at hk
  rw [hfce] at hfc hfm
  have HROW := Lib.hid hrow; have HB0 := Lib.hid hb0
  have HK := Lib.hid (show ∀ wr, Below (S + 1) W1 wr → wr.cell? ⟨S, 5, none⟩ = some (.slice (some ⟨b0, o0, none⟩) nF fc) ∧ wr.cell? ⟨S, 3, none⟩ = some (.int .i64 (dk : Int)) from fun wr hb => by
    have hr := (hb.block S (by omega)).trans HROW.out
    exact ⟨cell_of_row _ _ 5 _ _ _ hr, cell_of_row _ _ 3 _ _ _ hr⟩)
  have HBS := Lib.hid (show ∀ wr, Below (S + 1) W1 wr → Below S w wr from fun wr hb => HB0.out.trans (hb.mono (by omega)))
  clear H hF hrow hb0 hFl hnF hdk hfce
  rw [HE.out.2.1, HE.out.2.2.1, HE.out.2.2.2, HR.out.hF, hnb]
  rw [HE.out.2.1, HE.out.2.2.1, HE.out.2.2.2, HR.out.hF, hnb] at hW1
  clear hnb
  obtain ⟨a5, a3⟩ := HK.out W1 (Below.refl _ _)
  have HNT := Lib.hid (show ∃ nbk, ∀ u, u < M → ∃ Ab cb2, (nextL p u).length ≤ cb2 ∧ cb2 ≤ maxLen ∧ ∀ wr, Below S w wr → wr.cell? ⟨g, 4, none⟩ = some (.slice (some ⟨nbk, 0, none⟩) M M) ∧ wr.cell? ⟨nbk, u, none⟩ = some (.slice Ab (nextL p u).length cb2) ∧ Sl wr S 1 CI Ab (nextL p u) ∧ g < S ∧ nbk < S from by
    have hBS := HR.out.hB
    rw [hS] at hBS
    obtain ⟨A1, c1, A2, c2, lb, sb, nbk, bb, hN, x1, x2, x3, x4, x5, x6⟩ := HR.out.h.net
    obtain ⟨_, _, _, _, k4, _⟩ := hN.cell
    rw [hM] at k4 x5
    refine ⟨nbk, fun u hu => ?_⟩
    obtain ⟨Ab, cb2, r0, r1, r2, r3⟩ := x5.2 u hu
    have hg := HR.out.h.gB
    have hn := x5.1
    exact ⟨Ab, cb2, r1, r2, fun wr hb => ⟨(hb.cell (p := ⟨g, 4, none⟩) (by simp; omega)).trans k4, (hb.cell (p := ⟨nbk, u, none⟩) (by simp; omega)).trans r0, (r3.below (hb.mono hBS)).more (fun _ _ h => h) hBS, by omega, by omega⟩⟩)
  obtain ⟨nbk, hnt⟩ := HNT.out
  have HNT2 := Lib.hid hnt
  clear HNT hnt
  go_enter Tryz.func87, Tryz.ntmps87
  go_wp2
  clear a5 a3
  have HO0 := Lib.hid (show BG W1 W1 S (.slice none 0 0) (brT p (fun x => gC fr x) d dk) from ⟨by rw [show brT p (fun x => gC fr x) d dk = [] by unfold brT; rw [← HE.out.2.2.1, Nat.sub_self]; rfl]; exact Own.nil _ _ _ _ _, Below.refl _ _⟩)
  go_loopw [7, 8] (fun s7 s8 wr => ∃ i : Nat, dk ≤ i ∧ i + 1 ≤ nF ∧ s8 = .int .i64 (i : Int) ∧ BG W1 wr S s7 (brT p (fun x => gC fr x) d i)) (fun _ s8 _ => nF - (intOf s8).toNat)
  case atStart => exact ⟨dk, Nat.le_refl _, by omega, rfl, HO0.out⟩
  case round =>
    obtain ⟨i, hi1, hi2, rfl, hbg⟩ := hrel
    have HBG := Lib.hid hbg
    obtain ⟨a5, a3⟩ := HK.out wr hbg.be
    have hzr := hbg.be.size
    have hi3 : (i : Int) + 1 ≤ 800 := by omega
    have hi0 : (0 : Int) ≤ (i : Int) := by omega
    clear hbg
    by_cases hlt : i + 1 < nF
    · have hl1 : (i : Int) + 1 < (nF : Int) := by omega
      have hl0 : (i : Int) < (nF : Int) := by omega
      have hbS := HBS.out wr HBG.out.be
      have hif : i < d.f.length := by rw [HE.out.2.1]; omega
      have hif1 : i + 1 < d.f.length := by rw [HE.out.2.1]; omega
      have HSLr := Lib.hid (show ∀ wq, Below S w wq → Sl wq S 1 CI (some ⟨b0, o0, none⟩) (zs d.f) from fun wq hb => by
        have h1 := HR.out.hSl
        rw [HR.out.hF, hS] at h1
        exact h1.below hb)
      have HFI := Lib.hid (show ∀ wq, Below S w wq → wq.cell? ⟨b0, o0 + i, none⟩ = some (.int .i64 (d.f[i] : Int)) ∧ wq.cell? ⟨b0, o0 + (i + 1), none⟩ = some (.int .i64 (d.f[i + 1] : Int)) ∧ b0 < S from fun wq hb => by
        obtain ⟨_, _, ee, gg, qi⟩ := int_at (HSLr.out wq hb) (i := i) (by rw [zs_len]; exact hif)
        obtain ⟨_, _, ee1, _, qi1⟩ := int_at (HSLr.out wq hb) (i := i + 1) (by rw [zs_len]; exact hif1)
        obtain ⟨rfl, rfl⟩ : b0 = _ ∧ o0 = _ := by simpa using ee
        obtain ⟨rfl, rfl⟩ : b0 = _ ∧ o0 = _ := by simpa using ee1
        rw [zs_at hif] at qi
        rw [zs_at hif1] at qi1
        exact ⟨qi, qi1, gg⟩)
      have huM := HR.out.hlt _ (List.getElem_mem hif)
      have HGU := Lib.hid (gN_at hif)
      have HGV := Lib.hid (gN_at hif1)
      obtain ⟨u, hu⟩ : ∃ u, d.f[i] = u := ⟨_, rfl⟩
      obtain ⟨v1, hv1⟩ : ∃ u, d.f[i + 1] = u := ⟨_, rfl⟩
      rw [hu] at HFI huM HGU
      rw [hv1] at HFI HGV
      obtain ⟨Ab, cb2, r1, r2, hnu⟩ := HNT2.out u huM
      have HNU := Lib.hid hnu
      obtain ⟨k4, r0, _, hgl, hnbl⟩ := hnu wr hbS
      obtain ⟨qi, _, hb0l⟩ := HFI.out wr hbS
      have u0 : (0 : Int) ≤ (u : Int) := by omega
      have u1 : (u : Int) < (M : Int) := by omega
      have hnL := nextL_len p u
      obtain ⟨L, hL⟩ : ∃ L, (nextL p u).length = L := ⟨_, rfl⟩
      have HLN := Lib.hid (show (nxN p (gN d.f i)).length = L by rw [HGU.out]; unfold nxN; rw [List.length_map]; exact hL)
      have HLL := Lib.hid hL
      rw [hL] at r0 r1 hnL HNU
      clear hnu hu hv1 hL
      go_upto_region 5 with (fail)
      go_region
      have HB1 := Lib.hid (show BG W1 wr.drew S u7 (brT p (fun x => gC fr x) d i ++ brJ p (fun x => gC fr x) d i 0) from ⟨by
        rw [show brJ p (fun x => gC fr x) d i 0 = [] by unfold brJ; simp, List.append_nil]; exact HBG.out.ow, HBG.out.be.drew⟩)
      clear HBG k4 r0 qi a5 a3 hbS
      obtain ⟨w5, hw5⟩ : ∃ z, wr.drew = z := ⟨_, rfl⟩
      rw [hw5] at HB1 ⊢
      clear hw5
      go_wp2
      go_loopw [7, 33] (fun s7 s33 wq => ∃ jj : Nat, jj ≤ L ∧ s33 = .int .i64 (jj : Int) ∧ BG W1 wq S s7 (brT p (fun x => gC fr x) d i ++ brJ p (fun x => gC fr x) d i jj)) (fun _ s33 _ => L - (intOf s33).toNat)
      case atStart => exact ⟨0, Nat.zero_le _, rfl, HB1.out⟩
      case round =>
        obtain ⟨jj, hj, rfl, hbg⟩ := hrel
        have HBG := Lib.hid hbg
        have hbS := HBS.out wr hbg.be
        obtain ⟨a5, a3⟩ := HK.out wr hbg.be
        have hzq := hbg.be.size
        clear hbg
        by_cases hjl : jj < L
        · obtain ⟨k4, r0, hsu, _, _⟩ := HNU.out wr hbS
          obtain ⟨qi, qi1, _⟩ := HFI.out wr hbS
          have hjn : jj < (nextL p u).length := by rw [HLL.out]; exact hjl
          obtain ⟨b5, o5, e5, g5, q5⟩ := int_at hsu hjn
          have hxb := nextL_bd hv (show u < 2 * p.rails.length by omega) _ (List.getElem_mem hjn)
          obtain ⟨x, hx⟩ : ∃ x : Nat, (nextL p u)[jj] = (x : Int) := ⟨(nextL p u)[jj].toNat, by omega⟩
          rw [hx] at q5 hxb
          have hxM : x < M := by omega
          have HXE := Lib.hid (show (nxN p (gN d.f i))[jj]? = some x from by
            rw [HGU.out]; unfold nxN
            rw [List.getElem?_map, List.getElem?_eq_getElem hjn, hx]; rfl)
          have hfrl := HR.out.hfr.lt
          rw [hS] at hfrl
          have hfrw := HR.out.hfr.below hbS hfrl
          obtain ⟨fr0, fr1⟩ := hfrw.gc (i := x) (by rw [HR.out.hfl]; exact hxM)
          have hbdx := HR.out.hbf x (by rw [HR.out.hfl]; exact hxM)
          have HWB := Lib.hid (want_iff (free := fun x => gC fr x) (d := d) (i := i) (x := x))
          have HCT := Lib.hid (contains_any (some ⟨b0, o0, none⟩) (zs (d.f.take (i + 1))) fc (x : Int) wr ((take_sl (HSLr.out wr hbS) (i + 1)).more (fun _ _ h => h) (by omega)) (by rw [zs_len]; simp; omega))
          rw [show (zs (d.f.take (i + 1))).length = i + 1 by rw [zs_len]; simp; omega, show decide ((x : Int) ∈ zs (d.f.take (i + 1))) = decide (x ∈ d.f.take (i + 1)) by rw [decide_eq_decide]; exact mem_zs] at HCT
          rw [HGV.out] at HWB
          obtain ⟨fx, hfx⟩ : ∃ z, (gC fr x).1 = z := ⟨_, rfl⟩
          obtain ⟨fy, hfy⟩ : ∃ z, (gC fr x).2 = z := ⟨_, rfl⟩
          have HFX := Lib.hid (show gC fr x = (fx, fy) from Prod.ext hfx hfy)
          rw [hfx] at fr0 hbdx HWB; rw [hfy] at fr1 hbdx
          have x0 : (0 : Int) ≤ (x : Int) := by omega
          have x1 : (x : Int) < (M : Int) := by omega
          have j0 : (0 : Int) ≤ (jj : Int) := by omega
          have j1 : (jj : Int) < (L : Int) := by omega
          have ic : (i : Int) + 1 ≤ (fc : Int) := by omega
          have ic0 : (0 : Int) ≤ (i : Int) + 1 := by omega
          have wi : IntKind.i64.wrap ((i : Int) + 1) = (i : Int) + 1 := by rw [IntKind.wrap_i64]; omega
          subst e5
          clear hsu hx hfx hfy hfrw hxb k4 r0 qi
          by_cases cx1 : x = v1
          · have hw : wantB (fun x => gC fr x) d i x = false := by
              cases h : wantB (fun x => gC fr x) d i x
              · rfl
              · exact absurd cx1 (HWB.out.1 h).1
            have HNO := Lib.hid (brJ_no HXE.out hw)
            subst cx1
            clear hw
            go_wp2
            go_roundw
            case rel => exact ⟨jj + 1, by omega, by go_num, by rw [HNO.out]; exact HBG.out⟩
            case measure => simp [intOf]; omega
          · have n1 : ((x : Int) == (v1 : Int)) = false := by simp; omega
            by_cases cx2 : fx < 0
            · have hw : wantB (fun x => gC fr x) d i x = false := by
                cases h : wantB (fun x => gC fr x) d i x
                · rfl
                · have := (HWB.out.1 h).2.1; omega
              have HNO := Lib.hid (brJ_no HXE.out hw)
              clear hw
              go_wp2
              go_roundw
              case rel => exact ⟨jj + 1, by omega, by go_num, by rw [HNO.out]; exact HBG.out⟩
              case measure => simp [intOf]; omega
            · have n2 : decide (fx < 0) = false := by rw [decide_eq_false_iff_not]; exact cx2
              have hfx0 : 0 ≤ fx := by omega
              by_cases cx3 : x ∈ d.f.take (i + 1)
              · rw [show decide (x ∈ d.f.take (i + 1)) = true by simpa using cx3] at HCT
                have hw : wantB (fun x => gC fr x) d i x = false := by
                  cases h : wantB (fun x => gC fr x) d i x
                  · rfl
                  · exact absurd cx3 (HWB.out.1 h).2.2
                have HNO := Lib.hid (brJ_no HXE.out hw)
                clear hw cx3
                go_wp2_with fail
                refine HCT.out.mono ?_
                rintro e w7 ⟨rfl, rfl⟩
                go_wp2
                go_roundw
                case rel => exact ⟨jj + 1, by omega, by go_num, by rw [HNO.out]; exact HBG.out⟩
                case measure => simp [intOf]; omega
              · rw [show decide (x ∈ d.f.take (i + 1)) = false by simpa using cx3] at HCT
                have HYES := Lib.hid (brJ_yes HXE.out (HWB.out.2 ⟨cx1, hfx0, cx3⟩))
                clear cx3
                go_wp2_with fail
                refine HCT.out.mono ?_
                rintro e w7 ⟨rfl, rfl⟩
                go_upto_region 9 with (fail)
                obtain ⟨zx, hzx⟩ : ∃ z, (spn (wtP p) (d.f.take (i + 1)) x (fx, fy)).1 = z := ⟨_, rfl⟩
                obtain ⟨zy, hzy⟩ : ∃ z, (spn (wtP p) (d.f.take (i + 1)) x (fx, fy)).2 = z := ⟨_, rfl⟩
                have HNV := Lib.hid (show #[.int .i64 zx, .int .i64 zy, .slice (some ⟨b0, o0, none⟩) nF fc, .int .i64 ((i : Int) + 1), .int .i64 (x : Int), .slice none 0 0] = (fV (newD (wtP p) (fun x => gC fr x) d i x)).toArray from by
                  unfold newD fV
                  simp only [HFX.out, hzx, hzy, HR.out.hF, HE.out.2.1, HE.out.2.2.2, List.length_nil]
                  rfl)
                have HC107 := Lib.hid (show ∀ wq : World, Below wr.heap.size wr wq → Calls Tryz.prog 107 #[.pointer (some ⟨g, 0, none⟩), .slice (some ⟨b0, o0, none⟩) (i + 1) fc, .int .i64 (x : Int), .agg #[.int .i64 fx, .int .i64 fy]] wq fun e w2 => e = .returned (.agg #[.int .i64 zx, .int .i64 zy]) ∧ Below wq.heap.size wq w2 from fun wq hb => by
                  have hbw := hbS.trans (hb.mono (by omega))
                  have hzw := hbw.size
                  have hlen : (d.f.take (i + 1)).length = i + 1 := by simp; omega
                  have := spent_any wq.heap.size g M p (d.f.take (i + 1)) (some ⟨b0, o0, none⟩) fc x fx fy wq hM ((HR.out.h.below (hbw.mono (by have := HR.out.hB; omega))).more (by have := HR.out.hB; omega)) (Nat.le_refl _) ((take_sl (HSLr.out wq hbw) (i + 1)).more (fun _ _ h => h) (by omega)) (by rw [hlen]; omega) (by unfold maxLen; omega) (fun z hz => HR.out.hlt z (List.mem_of_mem_take hz)) (by rw [hlen]; omega) hxM hfx0 hbdx.2.1 (hbdx.2.2 hfx0).1 (hbdx.2.2 hfx0).2
                  rw [hlen] at this
                  refine this.mono fun e w2 h => ?_
                  obtain ⟨he, hbb⟩ := h
                  rw [hzx, hzy] at he
                  exact ⟨he, hbb⟩)
                have HLEN := Lib.hid (show (brT p (fun x => gC fr x) d i ++ brJ p (fun x => gC fr x) d i jj).length ≤ 100000 from by
                  have h1 := brT_len p (fun x => gC fr x) d (i - d.k) i (by rw [HE.out.2.2.1]; omega)
                  have h2 := brJ_len p (fun x => gC fr x) d i jj
                  rw [List.length_append]
                  omega)
                obtain ⟨S9, hS9⟩ : ∃ S9 : World → Prop, S9 = fun w' => w'.cell? ⟨S, 5, none⟩ = some (.slice (some ⟨b0, o0, none⟩) nF fc) ∧ w'.cell? ⟨fb, x * 2, none⟩ = some (.int .i64 fx) ∧ w'.cell? ⟨fb, x * 2 + 1, none⟩ = some (.int .i64 fy) := ⟨_, rfl⟩
                have HKK := Lib.hid (show ∀ wq, Below wr.heap.size wr wq → S9 wq from fun wq hb => by
                  rw [hS9]
                  exact ⟨(hb.cell (p := ⟨S, 5, none⟩) (by simp; omega)).trans a5, (hb.cell (p := ⟨fb, x * 2, none⟩) (by simp; omega)).trans fr0, (hb.cell (p := ⟨fb, x * 2 + 1, none⟩) (by simp; omega)).trans fr1⟩)
                have HKW := Lib.hid (show ∀ wq, Below (S + 1) W1 wq → S9 wq from fun wq hb => by
                  have hrow := (HR.out.hfr.below (HBS.out wq hb) hfrl).gc (i := x) (by rw [HR.out.hfl]; exact hxM)
                  rw [HFX.out] at hrow
                  rw [hS9]
                  exact ⟨(HK.out wq hb).1, hrow.1, hrow.2⟩)
                have hbq : Below wr.heap.size wr wr.drew := (Below.refl _ _).drew
                have HS := Lib.hid (HKK.out _ hbq)
                refine wp_region_held_drew (S := S9) (by kernel_rfl) HS.out (fun _ => ?_)
                refine hTake (i := 0) (d := 62) (v := u7) rfl rfl (by kernel_rfl) (by kernel_rfl) (by kernel_rfl) (fun _ _ _ h => h) (Or.inl ⟨rfl, ?gr⟩) HS.out ?_
                case gr =>
                  intro W' hs'; rw [hS9] at hs'; obtain ⟨s0, s1, s2⟩ := hs'
                  go_simp
                simp only [Act.put, List.setIfInBounds_toArray, List.set_cons_zero, List.set_cons_succ]
                refine hTake (i := 1) (d := 63) (v := .pointer (some ⟨g, 0, none⟩)) rfl rfl (by kernel_rfl) (by kernel_rfl) (by kernel_rfl) (fun _ _ _ h => h) (Or.inl ⟨rfl, ?gr⟩) HS.out ?_
                case gr =>
                  intro W' hs'; rw [hS9] at hs'; obtain ⟨s0, s1, s2⟩ := hs'
                  go_simp
                simp only [Act.put, List.setIfInBounds_toArray, List.set_cons_zero, List.set_cons_succ]
                refine hTake (i := 2) (d := 64) (v := .pointer (some ⟨S, 5, none⟩)) rfl rfl (by kernel_rfl) (by kernel_rfl) (by kernel_rfl) (fun _ _ _ h => h) (Or.inl ⟨rfl, ?gr⟩) HS.out ?_
                case gr =>
                  intro W' hs'; rw [hS9] at hs'; obtain ⟨s0, s1, s2⟩ := hs'
                  go_simp
                simp only [Act.put, List.setIfInBounds_toArray, List.set_cons_zero, List.set_cons_succ]
                refine hTake (i := 3) (d := 65) (v := .slice (some ⟨b0, o0, none⟩) nF fc) rfl rfl (by kernel_rfl) (by kernel_rfl) (by kernel_rfl) (fun _ _ _ h => h) (Or.inl ⟨rfl, ?gr⟩) HS.out ?_
                case gr =>
                  intro W' hs'; rw [hS9] at hs'; obtain ⟨s0, s1, s2⟩ := hs'
                  go_simp
                simp only [Act.put, List.setIfInBounds_toArray, List.set_cons_zero, List.set_cons_succ]
                refine hTake (i := 4) (d := 66) (v := .int .i64 (i : Int)) rfl rfl (by kernel_rfl) (by kernel_rfl) (by kernel_rfl) (fun _ _ _ h => h) (Or.inl ⟨rfl, ?gr⟩) HS.out ?_
                case gr =>
                  intro W' hs'; rw [hS9] at hs'; obtain ⟨s0, s1, s2⟩ := hs'
                  go_simp
                simp only [Act.put, List.setIfInBounds_toArray, List.set_cons_zero, List.set_cons_succ]
                refine hTake (i := 5) (d := 67) (v := .int .i64 ((i : Int) + 1)) rfl rfl (by kernel_rfl) (by kernel_rfl) (by kernel_rfl) (fun _ _ _ h => h) (Or.inl ⟨rfl, ?gr⟩) HS.out ?_
                case gr =>
                  intro W' hs'; rw [hS9] at hs'; obtain ⟨s0, s1, s2⟩ := hs'
                  go_simp
                simp only [Act.put, List.setIfInBounds_toArray, List.set_cons_zero, List.set_cons_succ]
                refine hTake (i := 6) (d := 68) (v := .slice (some ⟨b0, o0, none⟩) (i + 1) fc) rfl rfl (by kernel_rfl) (by kernel_rfl) (by kernel_rfl) (fun _ _ _ h => h) (Or.inl ⟨rfl, ?gr⟩) HS.out ?_
                case gr =>
                  intro W' hs'; rw [hS9] at hs'; obtain ⟨s0, s1, s2⟩ := hs'
                  go_simp
                simp only [Act.put, List.setIfInBounds_toArray, List.set_cons_zero, List.set_cons_succ]
                refine hTake (i := 7) (d := 69) (v := .int .i64 (x : Int)) rfl rfl (by kernel_rfl) (by kernel_rfl) (by kernel_rfl) (fun _ _ _ h => h) (Or.inl ⟨rfl, ?gr⟩) HS.out ?_
                case gr =>
                  intro W' hs'; rw [hS9] at hs'; obtain ⟨s0, s1, s2⟩ := hs'
                  go_simp
                simp only [Act.put, List.setIfInBounds_toArray, List.set_cons_zero, List.set_cons_succ]
                refine hTake (i := 8) (d := 70) (v := .slice (some ⟨fb, 0, none⟩) M M) rfl rfl (by kernel_rfl) (by kernel_rfl) (by kernel_rfl) (fun _ _ _ h => h) (Or.inl ⟨rfl, ?gr⟩) HS.out ?_
                case gr =>
                  intro W' hs'; rw [hS9] at hs'; obtain ⟨s0, s1, s2⟩ := hs'
                  go_simp
                simp only [Act.put, List.setIfInBounds_toArray, List.set_cons_zero, List.set_cons_succ]
                refine hTake (i := 9) (d := 71) (v := .int .i64 (x : Int)) rfl rfl (by kernel_rfl) (by kernel_rfl) (by kernel_rfl) (fun _ _ _ h => h) (Or.inl ⟨rfl, ?gr⟩) HS.out ?_
                case gr =>
                  intro W' hs'; rw [hS9] at hs'; obtain ⟨s0, s1, s2⟩ := hs'
                  go_simp
                simp only [Act.put, List.setIfInBounds_toArray, List.set_cons_zero, List.set_cons_succ]
                refine hTake (i := 10) (d := 72) (v := .pointer (some ⟨fb, x * 2, none⟩)) rfl rfl (by kernel_rfl) (by kernel_rfl) (by kernel_rfl) (fun _ _ _ h => h) (Or.inl ⟨rfl, ?gr⟩) HS.out ?_
                case gr =>
                  intro W' hs'; rw [hS9] at hs'; obtain ⟨s0, s1, s2⟩ := hs'
                  go_simp
                simp only [Act.put, List.setIfInBounds_toArray, List.set_cons_zero, List.set_cons_succ]
                refine hTake (i := 11) (d := 73) (v := .agg #[.int .i64 fx, .int .i64 fy]) rfl rfl (by kernel_rfl) (by kernel_rfl) (by kernel_rfl) (fun _ _ _ h => h) (Or.inl ⟨rfl, ?gr⟩) HS.out ?_
                case gr =>
                  intro W' hs'; rw [hS9] at hs'; obtain ⟨s0, s1, s2⟩ := hs'
                  go_simp
                simp only [Act.put, List.setIfInBounds_toArray, List.set_cons_zero, List.set_cons_succ]
                refine hTake (i := 13) (d := 75) (v := .pointer (some ⟨S, 5, none⟩)) rfl rfl (by kernel_rfl) (by kernel_rfl) (by kernel_rfl) (fun _ _ _ h => h) (Or.inl ⟨rfl, ?gr⟩) HS.out ?_
                case gr =>
                  intro W' hs'; rw [hS9] at hs'; obtain ⟨s0, s1, s2⟩ := hs'
                  go_simp
                simp only [Act.put, List.setIfInBounds_toArray, List.set_cons_zero, List.set_cons_succ]
                refine hTake (i := 14) (d := 76) (v := .slice (some ⟨b0, o0, none⟩) nF fc) rfl rfl (by kernel_rfl) (by kernel_rfl) (by kernel_rfl) (fun _ _ _ h => h) (Or.inl ⟨rfl, ?gr⟩) HS.out ?_
                case gr =>
                  intro W' hs'; rw [hS9] at hs'; obtain ⟨s0, s1, s2⟩ := hs'
                  go_simp
                simp only [Act.put, List.setIfInBounds_toArray, List.set_cons_zero, List.set_cons_succ]
                refine hTake (i := 15) (d := 77) (v := .int .i64 (i : Int)) rfl rfl (by kernel_rfl) (by kernel_rfl) (by kernel_rfl) (fun _ _ _ h => h) (Or.inl ⟨rfl, ?gr⟩) HS.out ?_
                case gr =>
                  intro W' hs'; rw [hS9] at hs'; obtain ⟨s0, s1, s2⟩ := hs'
                  go_simp
                simp only [Act.put, List.setIfInBounds_toArray, List.set_cons_zero, List.set_cons_succ]
                refine hTake (i := 16) (d := 78) (v := .int .i64 ((i : Int) + 1)) rfl rfl (by kernel_rfl) (by kernel_rfl) (by kernel_rfl) (fun _ _ _ h => h) (Or.inl ⟨rfl, ?gr⟩) HS.out ?_
                case gr =>
                  intro W' hs'; rw [hS9] at hs'; obtain ⟨s0, s1, s2⟩ := hs'
                  go_simp
                simp only [Act.put, List.setIfInBounds_toArray, List.set_cons_zero, List.set_cons_succ]
                refine hTake (i := 17) (d := 79) (v := .int .i64 (x : Int)) rfl rfl (by kernel_rfl) (by kernel_rfl) (by kernel_rfl) (fun _ _ _ h => h) (Or.inl ⟨rfl, ?gr⟩) HS.out ?_
                case gr =>
                  intro W' hs'; rw [hS9] at hs'; obtain ⟨s0, s1, s2⟩ := hs'
                  go_simp
                simp only [Act.put, List.setIfInBounds_toArray, List.set_cons_zero, List.set_cons_succ]
                refine wpAnyH_ready (rs := [12]) (by kernel_rfl) (by simp) ?_
                refine AllReadyH.cons rfl (fun K hK => ?_) AllReadyH.nil
                rw [if_pos (by rfl)]
                go_simp
                go_at_call 107
                (with_reducible refine (HC107.out _ hbq).mono ?_)
                rintro e v8 ⟨rfl, hbz⟩
                replace hbq := hbq.trans (hbz.mono hbq.size)
                have HS := Lib.hid (HKK.out _ hbq)
                clear hbz
                refine hK.out _ _ HS.out (fun _ => ?_)
                clear hK K
                try simp only [Act.put, List.setIfInBounds_toArray, List.set_cons_zero, List.set_cons_succ]
                refine hTake (i := 18) (d := 80) (v := .agg #[.int .i64 zx, .int .i64 zy, .slice (some ⟨b0, o0, none⟩) nF fc, .int .i64 ((i : Int) + 1), .int .i64 (x : Int), .slice none 0 0]) rfl rfl (by kernel_rfl) (by kernel_rfl) (by kernel_rfl) (fun _ _ _ h => h) (Or.inl ⟨rfl, ?gr⟩) HS.out ?_
                case gr =>
                  intro W' hs'; rw [hS9] at hs'; obtain ⟨s0, s1, s2⟩ := hs'
                  go_simp
                simp only [Act.put, List.setIfInBounds_toArray, List.set_cons_zero, List.set_cons_succ]
                refine wpAnyH_ready (rs := [19]) (by kernel_rfl) (by simp) ?_
                refine AllReadyH.cons rfl (fun K hK => ?_) AllReadyH.nil
                rw [if_pos (by rfl)]
                go_simp
                have hbn := hbq.alloc hbq.size (.cells #[.int .i64 zx, .int .i64 zy, .slice (some ⟨b0, o0, none⟩) nF fc, .int .i64 ((i : Int) + 1), .int .i64 (x : Int), .slice none 0 0] 152)
                have HS := Lib.hid (HKK.out _ hbn)
                refine hK.out _ _ HS.out (fun _ => ?_)
                clear hK K
                try simp only [Act.put, List.setIfInBounds_toArray, List.set_cons_zero, List.set_cons_succ]
                refine wpAnyH_ready (rs := [20]) (by kernel_rfl) (by simp) ?_
                refine AllReadyH.cons rfl (fun K hK => ?_) AllReadyH.nil
                rw [if_pos (by rfl)]
                refine wp_app _ (.tmp 62) (.tmp 81) _ rfl (S + 1) 152 iD _ 6 80 Tryz.underlying153 hiD hD0 hD1 hD2 rfl (by omega) fV_len fV_one u7 _ rfl ((HBG.out.ow.below hbq (Nat.le_refl _)).alloc _) _ _ [newD (wtP p) (fun x => gC fr x) d i x] 1 rfl (Sl.new _ _ _ _ HNV.out) (by unfold maxLen; simp only [List.length_cons, List.length_nil]; have := HLEN.out; omega) (by simp only [List.length_cons, List.length_nil]; have := HLEN.out; omega) (by simp; have := hbq.size; omega) (fun _ => .inr ⟨_, rfl⟩) ?_
                intro v2 w9 o9 gr9 at9 ne9
                have hb9 := (HBG.out.be.trans (hbn.mono (by omega))).grown gr9 (by simp; have := hbq.size; omega) (fun b hb => (HBG.out.ow.lt b hb).1)
                have HS := Lib.hid (HKW.out _ hb9)
                refine hK.out _ _ HS.out (fun _ => ?_)
                clear hK K
                try simp only [Act.put, List.setIfInBounds_toArray, List.set_cons_zero, List.set_cons_succ]
                refine hTake (i := 21) (d := 7) (v := v2) rfl rfl (by kernel_rfl) (by kernel_rfl) (by kernel_rfl) (fun _ _ _ h => h) (Or.inl ⟨rfl, ?gr⟩) HS.out ?_
                case gr =>
                  intro W' hs'; rw [hS9] at hs'; obtain ⟨s0, s1, s2⟩ := hs'
                  go_simp
                simp only [Act.put, List.setIfInBounds_toArray, List.set_cons_zero, List.set_cons_succ]
                refine wpAnyH_done (by kernel_rfl) ?_ _
                go_wp2_with fail
                go_roundw
                case rel => exact ⟨jj + 1, by omega, by go_num, ⟨by rw [HYES.out, ← List.append_assoc]; exact o9, hb9⟩⟩
                case measure => simp [intOf]; omega
        · obtain rfl : jj = L := by omega
          have hz : ¬ ((jj : Nat) : Int) < ((jj : Nat) : Int) := by omega
          have HB2 := Lib.hid (show BG W1 wr S u7 (brT p (fun x => gC fr x) d (i + 1)) from by
            have := HBG.out
            rwa [brJ_all HLN.out, ← brT_succ (by rw [HE.out.2.2.1]; exact hi1)] at this)
          go_wp2
          go_roundw
          case rel => exact ⟨i + 1, by omega, by omega, by go_num, HB2.out⟩
          case measure => simp [intOf]; omega
    · have hz : ¬ (i : Int) + 1 < (nF : Int) := by omega
      have HB2 := Lib.hid (show BG W1 wr S u7 (brs (nxN p) (wtP p) (fun x => gC fr x) d) from by
        have := HBG.out
        unfold brT at this
        unfold brs
        rw [HE.out.2.1, show nF - 1 - d.k = i - d.k by omega]
        exact this)
      go_wp2
      go_ret
      exact ⟨⟨_, rfl, HB2.out.ow.lower (by omega)⟩, HB0.out.trans (HB2.out.be.mono (by omega))⟩
end Go.Proofs.YtcpanfpijljeaaaGreat.DH

namespace Go.Proofs.YtcpanfpijljeaaaGreat.DH
set_option linter.unusedVariables false
set_option linter.unusedSimpArgs false
open Go.RowKit

/-- a row of numbers in a block of ints, or nothing -/
def IR (w : World) (A : Option Addr) (l : List Nat) (c : Nat) : Prop :=
  (A = none ∧ l = [] ∧ c = 0) ∨ (l ≠ [] ∧ l.length ≤ c ∧ c ≤ maxLen ∧ ∃ b o cur, A = some ⟨b, o, none⟩ ∧ w.heap[b]? = some (.cells cur 3) ∧ ∀ (i : Nat) (hi : i < l.length), w.cell? ⟨b, o + i, none⟩ = some (.int .i64 (l[i] : Int)))
/-- blocks of these types stay -/
structure Kp (T : List TypeId) (w w' : World) : Prop where
  sz : w.heap.size ≤ w'.heap.size
  ro : ∀ (b : Nat) (cur : Array Value) (t : TypeId), t ∈ T → w.heap[b]? = some (Obj.cells cur t) → w'.heap[b]? = w.heap[b]?
section
variable {w w' w'' : World} {T : List TypeId} {pb g : Nat}
theorem lt_of_some {b : Nat} {o : Obj} (h : w.heap[b]? = some o) : b < w.heap.size := (Array.getElem?_eq_some_iff.1 h).1
theorem Kp.refl (T : List TypeId) (w : World) : Kp T w w := ⟨Nat.le_refl _, fun _ _ _ _ _ => rfl⟩
theorem Kp.trans (h : Kp T w w') (k : Kp T w' w'') : Kp T w w'' :=
  ⟨Nat.le_trans h.sz k.sz, fun b cur t ht hb => (k.ro b cur t ht ((h.ro b cur t ht hb).trans hb)).trans (h.ro b cur t ht hb)⟩
theorem Kp.below (T : List TypeId) (h : Below w.heap.size w w') : Kp T w w' := ⟨h.size, fun b _ _ _ hb => h.block b (lt_of_some hb)⟩
theorem Kp.fp (hf : Fp pb g w w') (h1 : ∀ (cur : Array Value) (t : TypeId), t ∈ T → w.heap[pb]? ≠ some (Obj.cells cur t)) (h2 : ∀ (cur : Array Value) (t : TypeId), t ∈ T → w.heap[g]? ≠ some (Obj.cells cur t)) : Kp T w w' :=
  ⟨hf.size, fun b cur t ht hb => hf.block b (lt_of_some hb) (by rintro rfl; exact h1 _ _ ht hb) (by rintro rfl; exact h2 _ _ ht hb)⟩
theorem Kp.grown {row : Option Nat} (h : w.grownBy w' row) (hr : ∀ k, row = some k → ∀ (cur : Array Value) (t : TypeId), t ∈ T → w.heap[k]? ≠ some (Obj.cells cur t)) : Kp T w w' :=
  ⟨h.size, fun b cur t ht hb => h.block b (lt_of_some hb) (by intro e; exact hr b e.symm _ _ ht hb)⟩
theorem IR.kp {A : Option Addr} {l : List Nat} {c : Nat} (h : IR w A l c) (hk : Kp T w w') (hT : 3 ∈ T) : IR w' A l c := by
  rcases h with h | ⟨h0, h1, h2, b, o, cur, e, hb, hc⟩
  · exact .inl h
  · refine .inr ⟨h0, h1, h2, b, o, cur, e, (hk.ro b cur 3 hT hb).trans hb, fun i hi => ?_⟩
    rw [← hc i hi]
    unfold World.cell?
    rw [hk.ro b cur 3 hT hb]
theorem IR.okn {d : D6} (h : IR w d.F d.f d.fc) (h8 : d.f.length ≤ 800) (h1 : ∀ (cur : Array Value), w.heap[pb]? ≠ some (Obj.cells cur 3)) (h2 : ∀ (cur : Array Value), w.heap[g]? ≠ some (Obj.cells cur 3)) : OkN w pb g d := by
  refine ⟨fun hne => ?_, by omega⟩
  rcases h with h | ⟨h0, _, _, b, o, cur, e, hb, hc⟩
  · exact absurd h.2.1 hne
  · exact ⟨b, o, e, lt_of_some hb, by rintro rfl; exact h1 _ hb, by rintro rfl; exact h2 _ hb, hc⟩
theorem IR.sl {A : Option Addr} {l : List Nat} {c : Nat} (h : IR w A l c) (h8 : l.length ≤ 800) : Sl w w.heap.size 1 CI A (zs l) := by
  have hn : ∀ (cur : Array Value), w.heap[w.heap.size]? ≠ some (Obj.cells cur 3) := fun cur e => by have := lt_of_some e; omega
  exact (IR.okn (d := ⟨0, 0, none, [], 0, 0, 0, A, l, c⟩) (pb := w.heap.size) (g := w.heap.size) h h8 hn hn).ok.sf
theorem IR.nil_iff {A : Option Addr} {l : List Nat} {c : Nat} (h : IR w A l c) : l = [] ↔ A = none := by
  rcases h with h | ⟨h0, _, _, b, o, cur, e, _⟩
  · simp [h.1, h.2.1]
  · subst e; simp [h0]
theorem IR.bounds {A : Option Addr} {l : List Nat} {c : Nat} (h : IR w A l c) : l.length ≤ c ∧ c ≤ maxLen := by
  rcases h with h | ⟨_, h1, h2, _⟩
  · rw [h.2.1, h.2.2]; simp [maxLen]
  · exact ⟨h1, h2⟩
theorem IR.form {A : Option Addr} {l : List Nat} {c : Nat} (h : IR w A l c) (hne : l ≠ []) : ∃ b o cur, A = some ⟨b, o, none⟩ ∧ w.heap[b]? = some (.cells cur 3) := by
  rcases h with h | ⟨_, _, _, b, o, cur, e, hb, _⟩
  · exact absurd h.2.1 hne
  · exact ⟨b, o, cur, e, hb⟩
theorem own_ty {α : Type} {f : α → List Value} {base size : Nat} {e : TypeId} {v : Value} {l : List α} (h : Own w base e size f v l) : ∀ k, v.ownBlock = some k → ∃ cur, w.heap[k]? = some (Obj.cells cur e) := by
  intro k hk
  rcases h.2 with ⟨rfl, _⟩ | ⟨g, cap, cur, rfl, _, hg, _⟩
  · simp [Value.ownBlock] at hk
  · obtain rfl : g = k := by simpa [Value.ownBlock] using hk
    exact ⟨cur, hg⟩
/-- a row of the call's own, as a row of numbers -/
theorem IR.own {base : Nat} {A : Option Addr} {l : List Nat} {c : Nat} (h : Own w base 3 1 fI (.slice A l.length c) (zs l)) (hne : l ≠ []) : IR w A l c := by
  have hs : Sl w w.heap.size 1 CI A (zs l) := Own.sl fI_len h (by rw [zs_len])
  rcases h.2 with ⟨_, hn⟩ | ⟨g, cap, cur, hv, hb, hg, hn, hm, _⟩
  · rw [zs_len] at hn; exact absurd (List.eq_nil_of_length_eq_zero hn) hne
  · injection hv with e1 _ e3
    subst e1; subst e3
    rw [zs_len] at hn
    refine .inr ⟨hne, hn, hm, g, 0, cur, rfl, hg, fun i hi => ?_⟩
    obtain ⟨b, o, e, _, hc⟩ := int_at hs (i := i) (by rw [zs_len]; exact hi)
    rw [zs_at hi] at hc
    obtain ⟨rfl, rfl⟩ : g = b ∧ 0 = o := by simpa using e
    exact hc
/-- what a detour has in memory -/
structure DM (w : World) (d : D6) : Prop where
  A : IR w d.A d.b d.ac
  F : IR w d.F d.f d.fc
  b8 : d.b.length ≤ 800
  f8 : d.f.length ≤ 800
theorem DM.kp {d : D6} (h : DM w d) (hk : Kp T w w') (hT : 3 ∈ T) : DM w' d := ⟨h.A.kp hk hT, h.F.kp hk hT, h.b8, h.f8⟩
end
structure W3 where
  A : Option Addr
  l : List Nat
  c : Nat
def fW (x : W3) : List Value := [.slice x.A x.l.length x.c]
theorem fW_len (x : W3) : (fW x).length = 1 := rfl
theorem fW_one (x : W3) : ∀ u ∈ fW x, u.oneCell' = true := by simp [fW, Value.oneCell']
abbrev T3 : List TypeId := [3, 50, 118]
/-- at the head of the search's loop -/
structure WSt (w : World) (S fb pb : Nat) (fr : List C2) (wr : World) (v : Value) (wl : List W3) (ds : List D6) : Prop where
  pile : (ds = [] ∧ Pnil wr pb) ∨ ∃ gi ci, Pile wr S pb vless ds gi ci
  dm : ∀ d ∈ ds, DM wr d
  ow : Own wr S 50 1 fW v wl
  wm : ∀ x ∈ wl, IR wr x.A x.l x.c
  fr : CRow wr fb fr
  be : Below S w wr
  pS : S ≤ pb
section
variable {w wr w2 : World} {S fb pb : Nat} {fr : List C2} {v : Value} {wl : List W3} {ds ds' : List D6}
theorem WSt.move (h : WSt w S fb pb fr wr v wl ds) (hk : Kp T3 wr w2) (hb : Below S wr w2) (hp : (ds' = [] ∧ Pnil w2 pb) ∨ ∃ gi ci, Pile w2 S pb vless ds' gi ci) (hd : ∀ d ∈ ds', DM w2 d) : WSt w S fb pb fr w2 v wl ds' := by
  refine ⟨hp, hd, h.ow.of_blocks fun k hk2 => ?_, fun x hx => (h.wm x hx).kp hk (by simp), h.fr.of (hk.ro _ _ 118 (by simp) h.fr), h.be.trans hb, h.pS⟩
  obtain ⟨cur, hc⟩ := own_ty h.ow k hk2
  exact hk.ro _ _ 50 (by simp) hc
theorem Pile.no {l : List D6} {g c base : Nat} {F : Value} (h : Pile wr base pb F l g c) : (∀ (cur : Array Value) (t : TypeId), t ∈ T3 → wr.heap[pb]? ≠ some (Obj.cells cur t)) ∧ ∀ (cur : Array Value) (t : TypeId), t ∈ T3 → wr.heap[g]? ≠ some (Obj.cells cur t) := by
  refine ⟨fun cur t ht e => ?_, fun cur t ht e => ?_⟩
  · rw [h.blk] at e
    injection e with e; injection e with _ e
    subst e; simp at ht
  · obtain ⟨c2, hg, _⟩ := h.cur
    rw [hg] at e
    injection e with e; injection e with _ e
    subst e; simp at ht
theorem Pile.kp {l : List D6} {g c base : Nat} {F : Value} (h : Pile wr base pb F l g c) (hf : Fp pb g wr w2) : Kp T3 wr w2 := Kp.fp hf h.no.1 h.no.2
theorem Pnil.kp (h : Pnil wr pb) (hf : Fp pb pb wr w2) : Kp T3 wr w2 := by
  have : ∀ (cur : Array Value) (t : TypeId), t ∈ T3 → wr.heap[pb]? ≠ some (Obj.cells cur t) := fun cur t ht e => by
    rw [h] at e
    injection e with e; injection e with _ e
    subst e; simp at ht
  exact Kp.fp hf this this
theorem Drow.kp {db : Nat} {d : D6} (h : Drow wr db d) (hf : Fp db db wr w2) : Kp T3 wr w2 := by
  have : ∀ (cur : Array Value) (t : TypeId), t ∈ T3 → wr.heap[db]? ≠ some (Obj.cells cur t) := fun cur t ht e => by
    rw [h] at e
    injection e with e; injection e with _ e
    subst e; simp at ht
  exact Kp.fp hf this this
theorem WSt.sz (h : WSt w S fb pb fr wr v wl ds) : pb < wr.heap.size := by
  rcases h.pile with ⟨_, h⟩ | ⟨_, _, h⟩
  · exact lt_of_some h
  · exact h.plt
/-- the memory grows elsewhere -/
theorem WSt.below (h : WSt w S fb pb fr wr v wl ds) (hb : Below wr.heap.size wr w2) (hS : S ≤ wr.heap.size) : WSt w S fb pb fr w2 v wl ds := by
  have hk := Kp.below T3 hb
  refine h.move hk (hb.mono hS) ?_ fun d hd => (h.dm d hd).kp hk (by simp)
  rcases h.pile with ⟨e, h⟩ | ⟨gi, ci, h⟩
  · exact .inl ⟨e, (hb.block pb (lt_of_some h)).trans h⟩
  · exact .inr ⟨gi, ci, h.below hb h.plt h.glt⟩
/-- memory changes in a block that the search does not know -/
theorem WSt.fp {db : Nat} {d : D6} (h : WSt w S fb pb fr wr v wl ds) (hd : Drow wr db d) (hf : Fp db db wr w2) (hS : S ≤ wr.heap.size) (hdS : S ≤ db) (hn : db ≠ pb) (hn2 : ∀ l gi ci, Pile wr S pb vless l gi ci → db ≠ gi) : WSt w S fb pb fr w2 v wl ds := by
  have hk := hd.kp hf
  refine h.move hk (hf.toBelow hdS hdS hS) ?_ fun d hd => (h.dm d hd).kp hk (by simp)
  rcases h.pile with ⟨e, h⟩ | ⟨gi, ci, h⟩
  · exact .inl ⟨e, (hf.block pb (lt_of_some h) (Ne.symm hn) (Ne.symm hn)).trans h⟩
  · have := hn2 _ _ _ h
    exact .inr ⟨gi, ci, h.of (hf.block pb h.plt (Ne.symm hn) (Ne.symm hn)) (hf.block gi h.glt (Ne.symm this) (Ne.symm this))⟩
/-- one is taken -/
theorem WSt.taken {x : D6} {r : List D6} {gi ci : Nat} (h : WSt w S fb pb fr wr v wl (x :: r)) (hp : Pile wr S pb vless (x :: r) gi ci) (hp2 : Pile w2 S pb vless (restL x r) gi ci) (hf : Fp pb gi wr w2) (hS : S ≤ wr.heap.size)
    (hm : ∀ y ∈ restL x r, y ∈ r) : WSt w S fb pb fr w2 v wl (restL x r) ∧ DM w2 x := by
  have hk := hp.kp hf
  exact ⟨h.move hk (hf.toBelow hp.pl hp.gl hS) (.inr ⟨_, _, hp2⟩) fun d hd => (h.dm d (List.mem_cons_of_mem _ (hm d hd))).kp hk (by simp), (h.dm x (by simp)).kp hk (by simp)⟩
/-- a block that is none of the pile's -/
def Far (S pb : Nat) (wr : World) (b : Nat) : Prop := b < wr.heap.size ∧ b ≠ pb ∧ ∀ l gi ci, Pile wr S pb vless l gi ci → b ≠ gi
theorem pile_uniq {l l' : List D6} {gi ci gi' ci' : Nat} (h : Pile wr S pb vless l gi ci) (h' : Pile wr S pb vless l' gi' ci') : gi = gi' := by
  have := h.blk.symm.trans h'.blk
  simp at this
  exact this.1
theorem mem_upF : ∀ (n : Nat) (l : List D6) (i : Nat) {y : D6}, y ∈ upF n l i → y ∈ l
  | 0, l, i, y, h => h
  | n + 1, l, i, y, h => by
    unfold upF at h
    split at h
    · exact mem_swapL (mem_upF n _ _ h)
    · exact h
theorem Far.below {b : Nat} (h : Far S pb wr b) (hb : Below wr.heap.size wr w2) (hp : pb < wr.heap.size) : Far S pb w2 b ∧ w2.heap[b]? = wr.heap[b]? := by
  refine ⟨⟨Nat.lt_of_lt_of_le h.1 hb.size, h.2.1, fun l gi ci hq e => ?_⟩, hb.block b h.1⟩
  subst e
  refine h.2.2 l b ci ?_ rfl
  exact hq.of (hb.block pb hp).symm (hb.block b h.1).symm
/-- one is put -/
theorem WSt.put {x : D6} (h : WSt w S fb pb fr wr v wl ds) (hx : DM wr x) (hS : S ≤ wr.heap.size) (hl : ds.length ≤ 1500000) :
    Calls Tryz.prog 162 #[.pointer (some ⟨pb, 0, none⟩), .agg #[.int .i64 x.l, .int .i64 x.m, .slice x.A x.b.length x.ac, .int .i64 (x.k : Int), .int .i64 (x.t : Int), .slice x.F x.f.length x.fc]] wr
      fun e w' => e = .returned (.tuple #[]) ∧ WSt w S fb pb fr w' v wl (putL ds x) ∧ Kp T3 wr w' ∧ ∀ b, Far S pb wr b → Far S pb w' b ∧ w'.heap[b]? = wr.heap[b]? := by
  rcases h.pile with ⟨e, hp⟩ | ⟨gi, ci, hp⟩
  · refine (put_nil0 hp h.pS x).mono ?_
    rintro e' w' ⟨rfl, ⟨g, c, hp2, hg⟩, hf⟩
    have hk := hp.kp hf
    have e2 : putL ds x = [x] := by subst e; rfl
    refine ⟨rfl, ?_, hk, fun b hb => ⟨⟨Nat.lt_of_lt_of_le hb.1 hk.sz, hb.2.1, fun l gi ci hq => ?_⟩, hf.block b hb.1 hb.2.1 hb.2.1⟩⟩
    rotate_left
    · have := pile_uniq hp2 hq
      have := hb.1
      omega
    rw [e2]
    exact h.move hk (hf.toBelow h.pS h.pS hS) (.inr ⟨g, c, hp2⟩) fun d hd => by
      obtain rfl : d = x := by simpa using hd
      exact hx.kp hk (by simp)
  · have no := hp.no
    have n1 := fun cur => no.1 cur 3 (by simp)
    have n2 := fun cur => no.2 cur 3 (by simp)
    refine (put_any hp (fun y hy => (h.dm y hy).F.okn (h.dm y hy).f8 n1 n2) hS hl x (hx.F.okn hx.f8 n1 n2)).mono ?_
    rintro e' w' ⟨rfl, ⟨g, c, hp2, hg⟩, hf⟩
    have hk := hp.kp hf
    refine ⟨rfl, h.move hk (hf.toBelow hp.pl hp.gl hS) (.inr ⟨g, c, hp2⟩) fun d hd => ?_, hk, fun b hb => ⟨⟨Nat.lt_of_lt_of_le hb.1 hk.sz, hb.2.1, fun l gi' ci' hq => ?_⟩, hf.block b hb.1 hb.2.1 (hb.2.2 _ _ _ hp)⟩⟩
    rotate_left
    · have := pile_uniq hp2 hq
      have := hb.1
      have := hb.2.2 _ _ _ hp
      rcases hg with hg | hg <;> omega
    have hm : d ∈ x :: ds := by
      have := mem_upF _ _ _ hd
      simpa [or_comm] using this
    rcases List.mem_cons.1 hm with rfl | hm
    · exact hx.kp hk (by simp)
    · exact (h.dm d hm).kp hk (by simp)
/-- a way is found -/
theorem WSt.grown {v2 : Value} {x : W3} (h : WSt w S fb pb fr wr v wl ds) (ho : Own w2 S 50 1 fW v2 (wl ++ [x])) (hg : wr.grownBy w2 v.ownBlock) (hx : IR wr x.A x.l x.c) (hS : S ≤ wr.heap.size) : WSt w S fb pb fr w2 v2 (wl ++ [x]) ds ∧ Kp [3, 118, 152, 155] wr w2 := by
  have hk : Kp [3, 118, 152, 155] wr w2 := Kp.grown hg fun k hk cur t ht e => by
    obtain ⟨c2, hc⟩ := own_ty h.ow k hk
    rw [hc] at e
    injection e with e; injection e with _ e
    subst e; simp at ht
  refine ⟨⟨?_, fun d hd => (h.dm d hd).kp hk (by simp), ho, fun y hy => ?_, h.fr.of (hk.ro _ _ 118 (by simp) h.fr), h.be.grown hg hS (fun b hb => (h.ow.lt b hb).1), h.pS⟩, hk⟩
  · rcases h.pile with ⟨e, hp⟩ | ⟨gi, ci, hp⟩
    · exact .inl ⟨e, (hk.ro _ _ 155 (by simp) hp).trans hp⟩
    · obtain ⟨cur, hc, _⟩ := hp.cur
      exact .inr ⟨gi, ci, hp.of (hk.ro _ _ 155 (by simp) hp.blk) (hk.ro _ _ 152 (by simp) hc)⟩
  · rcases List.mem_append.1 hy with hy | hy
    · exact (h.wm y hy).kp hk (by simp)
    · obtain rfl : y = x := by simpa using hy
      exact hx.kp hk (by simp)
end
end Go.Proofs.YtcpanfpijljeaaaGreat.DH

namespace Go.Proofs.YtcpanfpijljeaaaGreat.DH
set_option linter.unusedVariables false
set_option linter.unusedSimpArgs false
open Go.RowKit

theorem eq_nil (w : World) : Sem.run Tryz.prog (binOp .eql 50 (.slice none 0 0) (.slice none 0 0)) w = .ok (.bool true) w := by kernel_rfl
theorem ne_nil (b o n c : Nat) (w : World) : Sem.run Tryz.prog (binOp .eql 50 (.slice (some ⟨b, o, none⟩) n c) (.slice none 0 0)) w = .ok (.bool false) w := by kernel_rfl
set_option maxRecDepth 100000 in
/-- the frame of the search's loop -/
def FW (g f t most fb M pb : Nat) (v : Value) (u : Nat → Value) : Act := ⟨#[.pointer (some ⟨g, 0, none⟩), .int .i64 (f : Int), .int .i64 (t : Int), .int .i64 (most : Int), u 4, u 5, u 6, u 7, u 8, .slice (some ⟨fb, 0, none⟩) M M, v, .iface 148 (.pointer (some ⟨pb, 0, none⟩)), u 12, u 13, u 14, u 15, u 16, u 17, u 18, u 19, u 20, u 21, u 22, u 23, u 24, u 25, u 26, u 27, u 28, u 29, u 30, u 31, u 32, u 33, u 34, u 35, u 36, u 37, u 38, u 39, u 40, u 41, u 42, u 43, u 44, u 45, u 46, u 47, u 48, u 49, u 50, u 51, u 52, u 53, u 54, u 55, u 56, u 57, u 58, u 59, u 60, u 61, u 62, u 63, u 64, u 65, u 66, u 67, u 68, u 69, u 70, u 71, u 72, u 73, u 74, u 75, u 76, u 77, u 78, u 79, u 80, u 81, u 82, u 83, u 84, u 85, u 86], []⟩
noncomputable def bodyW : Code := ((Tryz.f59.body.map loopsIn).getD []).getD 0 .skip
section
variable {w wr : World} {g f t most fb M pb S : Nat} {v : Value} {fr : List C2} {wl : List W3} {d : D6} {r r' : List D6}
set_option maxRecDepth 100000 in
set_option maxHeartbeats 2000000 in
theorem w_nil (u : Nat → Value) (K : Act → World → Prop) (Q : Exit → Act → World → Prop)
    (hQ : ∀ a' w', a' = FW g f t most fb M pb v (fun i => a'.tmps.getD i undef) → WSt w S fb pb fr w' v wl [] → Q (.exit 0) a' w')
    (hw : WSt w S fb pb fr wr v wl []) (hS : S ≤ wr.heap.size) :
    Code.wp Tryz.prog bodyW (Exit.then K Q) (FW g f t most fb M pb v u) wr := by
  have HC := Lib.hid (show Calls Tryz.prog 165 #[.pointer (some ⟨pb, 0, none⟩)] wr (TakeNil wr) from by
    rcases hw.pile with ⟨_, h⟩ | ⟨_, _, h⟩
    · exact take_nil0 h
    · exact take_nil h)
  have HW := Lib.hid hw
  clear hw
  have hm1 := methD_take; have hm2 := methD_put; have hm3 := nilaD_take; have hm4 := nilaD_put
  unfold bodyW
  conv => arg 2; whnf
  simp only [FW]
  go_wp2_with fail
  refine HC.out.mono ?_
  rintro e w2 ⟨rfl, hb2⟩
  have HB2 := Lib.hid hb2
  clear hb2
  go_wp2
  exact hQ _ _ rfl (HW.out.below (HB2.out.alloc HB2.out.size _) hS)
set_option maxRecDepth 100000 in
set_option maxHeartbeats 2000000 in
theorem w_drop (u : Nat → Value) (K : Act → World → Prop) (Q : Exit → Act → World → Prop) (P1 Pst : World → Prop)
    (hK : ∀ a' w', a' = FW g f t most fb M pb v (fun i => a'.tmps.getD i undef) → Pst w' → K a' w')
    (hc : Calls Tryz.prog 165 #[.pointer (some ⟨pb, 0, none⟩)] wr (fun e w2 => e = .returned (.tuple #[.agg #[.int .i64 d.l, .int .i64 d.m, .slice d.A d.b.length d.ac, .int .i64 (d.k : Int), .int .i64 (d.t : Int), .slice none 0 0], .bool true]) ∧ P1 w2))
    (hr : ∀ w2, P1 w2 → Calls Tryz.prog 86 #[.pointer (some ⟨g, 0, none⟩), .pointer (some ⟨w2.heap.size, 0, none⟩), .int .i64 (t : Int), .slice (some ⟨fb, 0, none⟩) M M] (w2.alloc (.cells #[.int .i64 d.l, .int .i64 d.m, .slice d.A d.b.length d.ac, .int .i64 (d.k : Int), .int .i64 (d.t : Int), .slice none 0 0] 152))
      (fun e w3 => e = .returned (.bool false) ∧ Pst w3)) :
    Code.wp Tryz.prog bodyW (Exit.then K Q) (FW g f t most fb M pb v u) wr := by
  have HC := Lib.hid hc; have HR := Lib.hid hr; have HK := Lib.hid hK
  clear hc hr hK
  have hq1 := eq_nil
  have hm1 := methD_take; have hm2 := methD_put; have hm3 := nilaD_take; have hm4 := nilaD_put
  unfold bodyW
  conv => arg 2; whnf
  simp only [FW]
  go_wp2_with fail
  refine HC.out.mono ?_
  rintro e w2 ⟨rfl, hb2⟩
  have HR2 := Lib.hid (HR.out w2 hb2)
  clear hb2
  go_wp2_with fail
  refine HR2.out.mono ?_
  rintro e w3 ⟨rfl, hp⟩
  have HP := Lib.hid hp
  clear hp
  go_wp2
  exact HK.out _ _ rfl HP.out
set_option maxRecDepth 100000 in
set_option maxHeartbeats 2000000 in
theorem w_keep (u : Nat → Value) (K : Act → World → Prop) (Q : Exit → Act → World → Prop) (P1 Pst : World → Prop) (P2 : D6 → World → Prop)
    (hK : ∀ a' w', a' = FW g f t most fb M pb v (fun i => a'.tmps.getD i undef) → Pst w' → K a' w')
    (hc : Calls Tryz.prog 165 #[.pointer (some ⟨pb, 0, none⟩)] wr (fun e w2 => e = .returned (.tuple #[.agg #[.int .i64 d.l, .int .i64 d.m, .slice d.A d.b.length d.ac, .int .i64 (d.k : Int), .int .i64 (d.t : Int), .slice none 0 0], .bool true]) ∧ P1 w2))
    (hr : ∀ w2, P1 w2 → Calls Tryz.prog 86 #[.pointer (some ⟨g, 0, none⟩), .pointer (some ⟨w2.heap.size, 0, none⟩), .int .i64 (t : Int), .slice (some ⟨fb, 0, none⟩) M M] (w2.alloc (.cells #[.int .i64 d.l, .int .i64 d.m, .slice d.A d.b.length d.ac, .int .i64 (d.k : Int), .int .i64 (d.t : Int), .slice none 0 0] 152))
      (fun e w3 => e = .returned (.bool true) ∧ ∃ d', Drow w3 w2.heap.size d' ∧ P2 d' w3))
    (hp : ∀ d w3, P2 d w3 → Calls Tryz.prog 162 #[.pointer (some ⟨pb, 0, none⟩), .agg #[.int .i64 d.l, .int .i64 d.m, .slice d.A d.b.length d.ac, .int .i64 (d.k : Int), .int .i64 (d.t : Int), .slice d.F d.f.length d.fc]] w3 (fun e w4 => e = .returned (.tuple #[]) ∧ Pst w4)) :
    Code.wp Tryz.prog bodyW (Exit.then K Q) (FW g f t most fb M pb v u) wr := by
  have HC := Lib.hid hc; have HR := Lib.hid hr; have HK := Lib.hid hK; have HP := Lib.hid hp
  clear hc hr hK hp
  have hq1 := eq_nil
  have hm1 := methD_take; have hm2 := methD_put; have hm3 := nilaD_take; have hm4 := nilaD_put
  unfold bodyW
  conv => arg 2; whnf
  simp only [FW]
  go_wp2_with fail
  refine HC.out.mono ?_
  rintro e w2 ⟨rfl, hb2⟩
  have HR2 := Lib.hid (HR.out w2 hb2)
  clear hb2
  go_wp2_with fail
  refine HR2.out.mono ?_
  rintro e w3 ⟨rfl, d', hd, hp⟩
  have HP2 := Lib.hid (HP.out d' w3 hp)
  obtain ⟨y0, y1, y2, y3, y4, y5⟩ := hd.cells
  clear hp hd
  go_wp2_with fail
  refine HP2.out.mono ?_
  rintro e w4 ⟨rfl, hp⟩
  have HP3 := Lib.hid hp
  clear hp
  go_wp2
  exact HK.out _ _ rfl HP3.out
end
end Go.Proofs.YtcpanfpijljeaaaGreat.DH

namespace Go.Proofs.YtcpanfpijljeaaaGreat.DH
set_option linter.unusedVariables false
set_option linter.unusedSimpArgs false
open Go.RowKit

theorem inf50 : (Tryz.prog.info? 50).map (fun i => (i.zero, i.size, i.bytes)) = some (some (.slice none 0 0), 1, 24) := by kernel_rfl
section
variable {w wr : World} {g f t most fb M pb S : Nat} {v : Value} {fr : List C2} {wl : List W3} {d : D6} {r r' : List D6} {b0 o0 nf fc n : Nat}
set_option maxRecDepth 100000 in
set_option maxHeartbeats 2000000 in
theorem w_last (u : Nat → Value) (K : Act → World → Prop) (Q : Exit → Act → World → Prop)
    (hQ : ∀ a' w' v2, a' = FW g f t most fb M pb v2 (fun i => a'.tmps.getD i undef) → WSt w S fb pb fr w' v2 (wl ++ [⟨some ⟨b0, o0, none⟩, d.f, fc⟩]) r' → Q (.exit 0) a' w')
    (hc : Calls Tryz.prog 165 #[.pointer (some ⟨pb, 0, none⟩)] wr (fun e w2 => e = .returned (.tuple #[.agg #[.int .i64 d.l, .int .i64 d.m, .slice d.A d.b.length d.ac, .int .i64 (d.k : Int), .int .i64 (d.t : Int), .slice (some ⟨b0, o0, none⟩) nf fc], .bool true]) ∧ S ≤ w2.heap.size ∧ WSt w S fb pb fr w2 v wl r' ∧ DM w2 d))
    (hF : d.F = some ⟨b0, o0, none⟩ ∧ d.f.length = nf ∧ d.fc = fc) (hl : wl.length = n) (hn : n ≤ 1000000) (hm : most = n + 1) :
    Code.wp Tryz.prog bodyW (Exit.then K Q) (FW g f t most fb M pb v u) wr := by
  obtain ⟨i0, hi, hz0, hz1, hz2⟩ := info_parts inf50
  have HC := Lib.hid hc; have HQ := Lib.hid hQ; have HF := Lib.hid hF; have HL := Lib.hid hl
  clear hc hQ hF hl
  subst hm
  have hq1 := ne_nil
  have hm1 := methD_take; have hm2 := methD_put; have hm3 := nilaD_take; have hm4 := nilaD_put
  unfold bodyW
  conv => arg 2; whnf
  simp only [FW]
  go_wp2_with fail
  refine HC.out.mono ?_
  rintro e w2 ⟨rfl, hb2⟩
  obtain ⟨hs2, hw2, hdm⟩ := hb2
  have hbl1 : Below w2.heap.size w2 (w2.alloc (.cells #[.int .i64 d.l, .int .i64 d.m, .slice d.A d.b.length d.ac, .int .i64 (d.k : Int), .int .i64 (d.t : Int), .slice (some ⟨b0, o0, none⟩) nf fc] 152)) := (Below.refl _ w2).alloc (Nat.le_refl _) _
  have hw3 := hw2.below hbl1 hs2
  have hdm3 := hdm.kp (Kp.below [3] hbl1) (by simp)
  have hsz3 : (w2.alloc (.cells #[.int .i64 d.l, .int .i64 d.m, .slice d.A d.b.length d.ac, .int .i64 (d.k : Int), .int .i64 (d.t : Int), .slice (some ⟨b0, o0, none⟩) nf fc] 152)).heap.size = w2.heap.size + 1 := by simp
  have hbl2 : Below (w2.heap.size + 1) (w2.alloc (.cells #[.int .i64 d.l, .int .i64 d.m, .slice d.A d.b.length d.ac, .int .i64 (d.k : Int), .int .i64 (d.t : Int), .slice (some ⟨b0, o0, none⟩) nf fc] 152)) ((w2.alloc (.cells #[.int .i64 d.l, .int .i64 d.m, .slice d.A d.b.length d.ac, .int .i64 (d.k : Int), .int .i64 (d.t : Int), .slice (some ⟨b0, o0, none⟩) nf fc] 152)).alloc (.cells #[.slice (some ⟨b0, o0, none⟩) nf fc] 50)) := (Below.refl _ _).alloc (by simp) _
  rw [← hsz3] at hbl2
  have hw4 := hw3.below hbl2 (by omega)
  have hdm4 := hdm3.kp (Kp.below [3] hbl2) (by simp)
  have hdr := heap_alloc_new w2 (.cells #[.int .i64 d.l, .int .i64 d.m, .slice d.A d.b.length d.ac, .int .i64 (d.k : Int), .int .i64 (d.t : Int), .slice (some ⟨b0, o0, none⟩) nf fc] 152)
  have hnew := heap_alloc_new (w2.alloc (.cells #[.int .i64 d.l, .int .i64 d.m, .slice d.A d.b.length d.ac, .int .i64 (d.k : Int), .int .i64 (d.t : Int), .slice (some ⟨b0, o0, none⟩) nf fc] 152)) (.cells #[.slice (some ⟨b0, o0, none⟩) nf fc] 50)
  rw [hsz3] at hnew
  have hdr2 := (hbl2.block w2.heap.size (by omega)).trans hdr
  have HFW := Lib.hid (show #[Value.slice (some ⟨b0, o0, none⟩) nf fc] = (fW ⟨some ⟨b0, o0, none⟩, d.f, fc⟩).toArray by simp [fW, HF.out.2.1])
  have hsl := Sl.new (f := fW) (size := 1) (w2.alloc (.cells #[.int .i64 d.l, .int .i64 d.m, .slice d.A d.b.length d.ac, .int .i64 (d.k : Int), .int .i64 (d.t : Int), .slice (some ⟨b0, o0, none⟩) nf fc] 152)) 50 (⟨some ⟨b0, o0, none⟩, d.f, fc⟩ : W3) _ HFW.out
  rw [hsz3] at hsl
  have HSL := Lib.hid hsl
  clear hsl
  have HN := Lib.hid hnew; have HW4 := Lib.hid hw4; have HDM := Lib.hid hdm4; have HDR := Lib.hid hdr2
  have hsz4 : w2.heap.size + 1 < 2 ^ 200 + (w2.heap.size + 1) + 1 := by omega
  clear hw2 hdm hbl1 hw3 hdm3 hsz3 hbl2 hw4 hdm4 hdr hnew hdr2 hsz4
  go_wp2_with (at_builtin; go_must (refine wpList_app _ rfl (.tmp 50) (.tmp 53) _ rfl S 50 i0 _ 1 24 Tryz.underlying105 hi hz0 hz1 hz2 rfl (by omega) fW_len fW_one v wl rfl HW4.out.ow _ _ [⟨some ⟨b0, o0, none⟩, d.f, fc⟩] 1 rfl HSL.out (by rw [HL.out]; unfold maxLen; simp only [List.length_cons, List.length_nil]; omega) (by rw [HL.out]; simp only [List.length_cons, List.length_nil]; omega) (by simp; omega) (fun _ => .inr ⟨_, rfl⟩) ?_); intro v2 w3 ho hgr hat hlt; obtain ⟨g2, c2, hv2⟩ : ∃ g2 c2, v2 = .slice g2 (n + 1) c2 := (by obtain ⟨A, c, e, _⟩ := ho.form; rw [List.length_append, HL.out] at e; exact ⟨A, c, e⟩); have hgw := HW4.out.grown (x := ⟨some ⟨b0, o0, none⟩, d.f, fc⟩) ho hgr (by have := HDM.out.F; rw [HF.out.1, HF.out.2.2] at this; exact this) (by simp; omega); have HW5 := Lib.hid hgw.1; have HDM5 := Lib.hid (HDM.out.kp hgw.2 (by simp)); have HDR5 := Lib.hid ((hgw.2.ro _ _ 152 (by simp) HDR.out).trans HDR.out); have HZ5 := Lib.hid (show w2.heap.size + 2 ≤ w3.heap.size by have := hgr.size; simp at this; omega); subst hv2; clear ho hgr hat hlt hgw)
  exact HQ.out _ _ _ rfl HW5.out
end
end Go.Proofs.YtcpanfpijljeaaaGreat.DH

namespace Go.Proofs.YtcpanfpijljeaaaGreat.DH
set_option linter.unusedVariables false
set_option linter.unusedSimpArgs false
open Go.RowKit

theorem drow_cells {w : World} {db : Nat} {x0 x1 x2 x3 x4 x5 : Value} (h : w.heap[db]? = some (.cells #[x0, x1, x2, x3, x4, x5] 152)) :
    w.cell? ⟨db, 0, none⟩ = some x0 ∧ w.cell? ⟨db, 1, none⟩ = some x1 ∧ w.cell? ⟨db, 2, none⟩ = some x2 ∧ w.cell? ⟨db, 3, none⟩ = some x3 ∧ w.cell? ⟨db, 4, none⟩ = some x4 ∧ w.cell? ⟨db, 5, none⟩ = some x5 :=
  ⟨cell_of_row _ _ 0 _ _ _ h, cell_of_row _ _ 1 _ _ _ h, cell_of_row _ _ 2 _ _ _ h, cell_of_row _ _ 3 _ _ _ h, cell_of_row _ _ 4 _ _ _ h, cell_of_row _ _ 5 _ _ _ h⟩
theorem own6_at {w : World} {base : Nat} {v : Value} {l : List D6} (h : Own w base 152 6 fV v l) {i : Nat} (hi : i < l.length) :
    ∃ gb c, v = .slice (some ⟨gb, 0, none⟩) l.length c ∧ v.ownBlock = some gb ∧ w.cell? ⟨gb, i * 6, none⟩ = some (.int .i64 l[i].l) ∧ w.cell? ⟨gb, i * 6 + 1, none⟩ = some (.int .i64 l[i].m) ∧ w.cell? ⟨gb, i * 6 + 2, none⟩ = some (.slice l[i].A l[i].b.length l[i].ac) ∧ w.cell? ⟨gb, i * 6 + 3, none⟩ = some (.int .i64 (l[i].k : Int)) ∧ w.cell? ⟨gb, i * 6 + 4, none⟩ = some (.int .i64 (l[i].t : Int)) ∧ w.cell? ⟨gb, i * 6 + 5, none⟩ = some (.slice l[i].F l[i].f.length l[i].fc) := by
  rcases h.2 with ⟨_, hn⟩ | ⟨g, cap, cur, rfl, hb, hg, hn, hm, hs, ht⟩
  · omega
  · have key : ∀ j, j < 6 → w.cell? ⟨g, i * 6 + j, none⟩ = (fV l[i])[j]? := by
      intro j hj
      rw [cell_of_row _ g (i * 6 + j) _ 152 (0, 0) hg]
      have e := flat_get fV_len hj l i
      rw [← ht, List.getElem?_take_of_lt (by omega), List.getElem?_eq_getElem hi] at e
      rw [← Array.getElem?_toList]
      exact e
    exact ⟨g, cap, rfl, rfl, key 0 (by omega), key 1 (by omega), key 2 (by omega), key 3 (by omega), key 4 (by omega), key 5 (by omega)⟩
theorem puts_len : ∀ (bs r : List D6), (bs.foldl putL r).length = r.length + bs.length
  | [], r => rfl
  | b :: bs, r => by rw [List.foldl_cons, puts_len bs, putL_len]; simp; omega
theorem puts_succ {bs r : List D6} {j : Nat} (hj : j < bs.length) : (bs.take (j + 1)).foldl putL r = putL ((bs.take j).foldl putL r) bs[j] := by
  rw [List.take_succ_eq_append_getElem hj, List.foldl_append]; rfl
/-- while others are put -/
structure WB (w : World) (S fb pb : Nat) (fr : List C2) (v2 : Value) (wl : List W3) (r' bs : List D6) (d : D6) (B2 : Nat) (vb : Value) (j : Nat) (wq : World) : Prop where
  st : WSt w S fb pb fr wq v2 wl ((bs.take j).foldl putL r')
  dm : DM wq d
  ow : Own wq B2 152 6 fV vb bs
  fa : ∀ k, vb.ownBlock = some k → Far S pb wq k
  sS : S ≤ wq.heap.size
theorem WB.put {w : World} {S fb pb : Nat} {fr : List C2} {v2 : Value} {wl : List W3} {r' bs : List D6} {d : D6} {B2 : Nat} {vb : Value} {j : Nat} {wq : World} {o : Obj} (h : WB w S fb pb fr v2 wl r' bs d B2 vb j wq)
    (hbs : ∀ y ∈ bs, y.A = d.F ∧ y.b = d.f ∧ y.ac = d.fc ∧ y.F = none ∧ y.f = [] ∧ y.fc = 0) (hl : r'.length + bs.length ≤ 1500000) (hj : j < bs.length) :
    Calls Tryz.prog 162 #[.pointer (some ⟨pb, 0, none⟩), .agg #[.int .i64 bs[j].l, .int .i64 bs[j].m, .slice bs[j].A bs[j].b.length bs[j].ac, .int .i64 (bs[j].k : Int), .int .i64 (bs[j].t : Int), .slice bs[j].F bs[j].f.length bs[j].fc]] (wq.alloc o)
      fun e w' => e = .returned (.tuple #[]) ∧ WB w S fb pb fr v2 wl r' bs d B2 vb (j + 1) w' := by
  have hb : Below wq.heap.size wq (wq.alloc o) := (Below.refl _ _).alloc (Nat.le_refl _) _
  have hst := h.st.below hb h.sS
  have hdm := h.dm.kp (Kp.below [3] hb) (by simp)
  obtain ⟨e1, e2, e3, e4, e5, e6⟩ := hbs _ (List.getElem_mem hj)
  have hx : DM (wq.alloc o) bs[j] := ⟨by rw [e1, e2, e3]; exact hdm.F, .inl ⟨e4, e5, e6⟩, by rw [e2]; exact hdm.f8, by rw [e5]; simp⟩
  have hS2 : S ≤ (wq.alloc o).heap.size := Nat.le_trans h.sS hb.size
  refine (hst.put hx hS2 (by rw [puts_len, List.length_take]; omega)).mono ?_
  rintro e w' ⟨rfl, h1, h2, h3⟩
  have hpq : pb < wq.heap.size := h.st.sz
  refine ⟨rfl, by rw [puts_succ hj]; exact h1, hdm.kp h2 (by simp), (h.ow.alloc o).of_blocks fun k hk => (h3 k ((h.fa k hk).below hb hpq).1).2, fun k hk => (h3 k ((h.fa k hk).below hb hpq).1).1, Nat.le_trans hS2 h2.sz⟩
section
variable {w wr : World} {g f t most fb M pb S : Nat} {v : Value} {fr : List C2} {wl : List W3} {d : D6} {r r' bs : List D6} {b0 o0 nf fc n : Nat}
set_option maxRecDepth 100000 in
set_option maxHeartbeats 2000000 in
theorem w_more (u : Nat → Value) (K : Act → World → Prop) (Q : Exit → Act → World → Prop)
    (hK : ∀ a' w' v2, a' = FW g f t most fb M pb v2 (fun i => a'.tmps.getD i undef) → WSt w S fb pb fr w' v2 (wl ++ [⟨some ⟨b0, o0, none⟩, d.f, fc⟩]) (bs.foldl putL r') → S ≤ w'.heap.size → K a' w')
    (hbr : ∀ wq, Below S w wq → DM wq d → CRow wq fb fr → S ≤ wq.heap.size → Calls Tryz.prog 87 #[.pointer (some ⟨g, 0, none⟩), .agg #[.int .i64 d.l, .int .i64 d.m, .slice d.A d.b.length d.ac, .int .i64 (d.k : Int), .int .i64 (d.t : Int), .slice (some ⟨b0, o0, none⟩) nf fc], .slice (some ⟨fb, 0, none⟩) M M] wq (fun e w' => (∃ vb, e = .returned vb ∧ Own w' wq.heap.size 152 6 fV vb bs) ∧ Below wq.heap.size wq w'))
    (hbs : ∀ y ∈ bs, y.A = d.F ∧ y.b = d.f ∧ y.ac = d.fc ∧ y.F = none ∧ y.f = [] ∧ y.fc = 0) (hrl : r'.length + bs.length ≤ 1500000)
    (hc : Calls Tryz.prog 165 #[.pointer (some ⟨pb, 0, none⟩)] wr (fun e w2 => e = .returned (.tuple #[.agg #[.int .i64 d.l, .int .i64 d.m, .slice d.A d.b.length d.ac, .int .i64 (d.k : Int), .int .i64 (d.t : Int), .slice (some ⟨b0, o0, none⟩) nf fc], .bool true]) ∧ S ≤ w2.heap.size ∧ WSt w S fb pb fr w2 v wl r' ∧ DM w2 d))
    (hF : d.F = some ⟨b0, o0, none⟩ ∧ d.f.length = nf ∧ d.fc = fc) (hl : wl.length = n) (hn : n ≤ 1000000) (hm : n + 1 < most) :
    Code.wp Tryz.prog bodyW (Exit.then K Q) (FW g f t most fb M pb v u) wr := by
  obtain ⟨i0, hi, hz0, hz1, hz2⟩ := info_parts inf50
  have HC := Lib.hid hc; have HK := Lib.hid hK; have HF := Lib.hid hF; have HL := Lib.hid hl; have HBR := Lib.hid hbr; have HBS := Lib.hid hbs; have HRL := Lib.hid hrl
  clear hc hK hF hl hbr hbs hrl
  have hq1 := ne_nil
  have hne1 : ¬ ((n : Int) + 1 = (most : Int)) := by omega
  have hne2 : ((n : Int) + 1 == (most : Int)) = false := by simp; omega
  have hm1 := methD_take; have hm2 := methD_put; have hm3 := nilaD_take; have hm4 := nilaD_put
  unfold bodyW
  conv => arg 2; whnf
  simp only [FW]
  go_wp2_with fail
  refine HC.out.mono ?_
  rintro e w2 ⟨rfl, hb2⟩
  obtain ⟨hs2, hw2, hdm⟩ := hb2
  have hbl1 : Below w2.heap.size w2 (w2.alloc (.cells #[.int .i64 d.l, .int .i64 d.m, .slice d.A d.b.length d.ac, .int .i64 (d.k : Int), .int .i64 (d.t : Int), .slice (some ⟨b0, o0, none⟩) nf fc] 152)) := (Below.refl _ w2).alloc (Nat.le_refl _) _
  have hw3 := hw2.below hbl1 hs2
  have hdm3 := hdm.kp (Kp.below [3] hbl1) (by simp)
  have hsz3 : (w2.alloc (.cells #[.int .i64 d.l, .int .i64 d.m, .slice d.A d.b.length d.ac, .int .i64 (d.k : Int), .int .i64 (d.t : Int), .slice (some ⟨b0, o0, none⟩) nf fc] 152)).heap.size = w2.heap.size + 1 := by simp
  have hbl2 : Below (w2.heap.size + 1) (w2.alloc (.cells #[.int .i64 d.l, .int .i64 d.m, .slice d.A d.b.length d.ac, .int .i64 (d.k : Int), .int .i64 (d.t : Int), .slice (some ⟨b0, o0, none⟩) nf fc] 152)) ((w2.alloc (.cells #[.int .i64 d.l, .int .i64 d.m, .slice d.A d.b.length d.ac, .int .i64 (d.k : Int), .int .i64 (d.t : Int), .slice (some ⟨b0, o0, none⟩) nf fc] 152)).alloc (.cells #[.slice (some ⟨b0, o0, none⟩) nf fc] 50)) := (Below.refl _ _).alloc (by simp) _
  rw [← hsz3] at hbl2
  have hw4 := hw3.below hbl2 (by omega)
  have hdm4 := hdm3.kp (Kp.below [3] hbl2) (by simp)
  have hdr := heap_alloc_new w2 (.cells #[.int .i64 d.l, .int .i64 d.m, .slice d.A d.b.length d.ac, .int .i64 (d.k : Int), .int .i64 (d.t : Int), .slice (some ⟨b0, o0, none⟩) nf fc] 152)
  have hnew := heap_alloc_new (w2.alloc (.cells #[.int .i64 d.l, .int .i64 d.m, .slice d.A d.b.length d.ac, .int .i64 (d.k : Int), .int .i64 (d.t : Int), .slice (some ⟨b0, o0, none⟩) nf fc] 152)) (.cells #[.slice (some ⟨b0, o0, none⟩) nf fc] 50)
  rw [hsz3] at hnew
  have hdr2 := (hbl2.block w2.heap.size (by omega)).trans hdr
  have HFW := Lib.hid (show #[Value.slice (some ⟨b0, o0, none⟩) nf fc] = (fW ⟨some ⟨b0, o0, none⟩, d.f, fc⟩).toArray by simp [fW, HF.out.2.1])
  have hsl := Sl.new (f := fW) (size := 1) (w2.alloc (.cells #[.int .i64 d.l, .int .i64 d.m, .slice d.A d.b.length d.ac, .int .i64 (d.k : Int), .int .i64 (d.t : Int), .slice (some ⟨b0, o0, none⟩) nf fc] 152)) 50 (⟨some ⟨b0, o0, none⟩, d.f, fc⟩ : W3) _ HFW.out
  rw [hsz3] at hsl
  have HSL := Lib.hid hsl
  clear hsl
  have HN := Lib.hid hnew; have HW4 := Lib.hid hw4; have HDM := Lib.hid hdm4; have HDR := Lib.hid hdr2
  have hsz4 : w2.heap.size + 1 < 2 ^ 200 + (w2.heap.size + 1) + 1 := by omega
  clear hw2 hdm hbl1 hw3 hdm3 hsz3 hbl2 hw4 hdm4 hdr hnew hdr2 hsz4
  go_wp2_with (at_builtin; go_must (refine wpList_app _ rfl (.tmp 50) (.tmp 53) _ rfl S 50 i0 _ 1 24 Tryz.underlying105 hi hz0 hz1 hz2 rfl (by omega) fW_len fW_one v wl rfl HW4.out.ow _ _ [⟨some ⟨b0, o0, none⟩, d.f, fc⟩] 1 rfl HSL.out (by rw [HL.out]; unfold maxLen; simp only [List.length_cons, List.length_nil]; omega) (by rw [HL.out]; simp only [List.length_cons, List.length_nil]; omega) (by simp; omega) (fun _ => .inr ⟨_, rfl⟩) ?_); intro v2 w3 ho hgr hat hlt; obtain ⟨g2, c2, hv2⟩ : ∃ g2 c2, v2 = .slice g2 (n + 1) c2 := (by obtain ⟨A, c, e, _⟩ := ho.form; rw [List.length_append, HL.out] at e; exact ⟨A, c, e⟩); have hgw := HW4.out.grown (x := ⟨some ⟨b0, o0, none⟩, d.f, fc⟩) ho hgr (by have := HDM.out.F; rw [HF.out.1, HF.out.2.2] at this; exact this) (by simp; omega); have HW5 := Lib.hid hgw.1; have HDM5 := Lib.hid (HDM.out.kp hgw.2 (by simp)); have HDR5 := Lib.hid ((hgw.2.ro _ _ 152 (by simp) HDR.out).trans HDR.out); have HZ5 := Lib.hid (show w2.heap.size + 2 ≤ w3.heap.size by have := hgr.size; simp at this; omega); subst hv2; have y6 := drow_cells HDR5.out; obtain ⟨y0, y1, y2, y3, y4, y5⟩ := y6; clear ho hgr hat hlt hgw)
  refine (HBR.out w3 HW5.out.be HDM5.out HW5.out.fr (by have := HZ5.out; have := hs2; omega)).mono ?_
  rintro e w4 ⟨⟨vb, rfl, ho⟩, hb4⟩
  have hS3 : S ≤ w3.heap.size := by have := HZ5.out; omega
  obtain ⟨A, cB, rfl, hfc, hfm, _⟩ := ho.form
  have hwb : WB w S fb pb fr (.slice g2 (n + 1) c2) (wl ++ [⟨some ⟨b0, o0, none⟩, d.f, fc⟩]) r' bs d w3.heap.size (.slice A bs.length cB) 0 w4 := by
    refine ⟨by simpa using HW5.out.below hb4 hS3, HDM5.out.kp (Kp.below [3] hb4) (by simp), ho, fun k hk => ?_, Nat.le_trans hS3 hb4.size⟩
    obtain ⟨k1, k2⟩ := ho.lt k hk
    have hp3 := HW5.out.sz
    refine ⟨k2, by omega, fun l gi ci hq => ?_⟩
    rcases HW5.out.pile with ⟨_, hp⟩ | ⟨gi', ci', hp⟩
    · have h5 := (hb4.block pb hp3).trans hp
      have h6 := hq.blk
      rw [h5] at h6
      simp at h6
    · have h6 := pile_uniq (hp.below hb4 hp.plt hp.glt) hq
      have := hp.glt
      omega
  have HWB := Lib.hid hwb
  obtain ⟨L, hL⟩ : ∃ L, bs.length = L := ⟨_, rfl⟩
  have HLB := Lib.hid hL
  rw [hL] at HWB hfc ⊢
  have hLm : L ≤ 1500000 := by have := HRL.out; omega
  clear ho hb4 hwb hL y0 y1 y2 y3 y4 y5 hm1 hm3 hq1 hne1 hne2
  unfold maxLen at hfm
  go_wp2
  go_loopw [64] (fun s wq => ∃ j : Nat, j ≤ L ∧ s = .int .i64 (j : Int) ∧ WB w S fb pb fr (.slice g2 (n + 1) c2) (wl ++ [⟨some ⟨b0, o0, none⟩, d.f, fc⟩]) r' bs d w3.heap.size (.slice A L cB) j wq) (fun s _ => L - (intOf s).toNat)
  case atStart => exact ⟨0, Nat.zero_le _, rfl, HWB.out⟩
  case round =>
    obtain ⟨j, hj, rfl, hwb⟩ := hrel
    have HWJ := Lib.hid hwb
    clear hwb
    by_cases hjl : j < L
    · have hjb : j < bs.length := by rw [HLB.out]; exact hjl
      obtain ⟨gb, c', e, _, k0, k1, k2, k3, k4, k5⟩ := own6_at HWJ.out.ow hjb
      obtain ⟨e1, e2, e3⟩ : A = some ⟨gb, 0, none⟩ ∧ L = bs.length ∧ cB = c' := by simpa using e
      subst e1
      clear e2 e3
      have hgl : gb < wr.heap.size := ((HWJ.out.ow).lt gb rfl).2
      have HPUT := Lib.hid (fun o => HWJ.out.put (o := o) HBS.out HRL.out hjb)
      have j0 : (0 : Int) ≤ (j : Int) := by omega
      have j1 : (j : Int) < (L : Int) := by omega
      clear e
      obtain ⟨x, hx⟩ : ∃ x, bs[j] = x := ⟨_, rfl⟩
      rw [hx] at k0 k1 k2 k3 k4 k5 HPUT
      clear hx
      go_wp2_with fail
      refine (HPUT.out _).mono ?_
      rintro e w6 ⟨rfl, hq⟩
      have HQ6 := Lib.hid hq
      clear hq
      go_wp2
      go_roundw
      case rel => exact ⟨j + 1, by omega, by go_num, HQ6.out⟩
      case measure => simp [intOf]; omega
    · obtain rfl : j = L := by omega
      have HFIN := Lib.hid (show WSt w S fb pb fr wr (.slice g2 (n + 1) c2) (wl ++ [⟨some ⟨b0, o0, none⟩, d.f, fc⟩]) (bs.foldl putL r') from by
        have := HWJ.out.st
        rwa [List.take_of_length_le (by rw [HLB.out]; exact Nat.le_refl _)] at this)
      go_wp2
      exact HK.out _ _ _ rfl HFIN.out HWJ.out.sS
end
end Go.Proofs.YtcpanfpijljeaaaGreat.DH

namespace Go.Proofs.YtcpanfpijljeaaaGreat.DH
set_option linter.unusedVariables false
set_option linter.unusedSimpArgs false
open Go.RowKit

theorem puts_heap : ∀ (bs r : List D6), Heap r → Heap (bs.foldl putL r) ∧ (bs.foldl putL r).Perm (bs ++ r)
  | [], r, h => ⟨h, List.Perm.refl _⟩
  | b :: bs, r, h => by
    obtain ⟨h1, h2⟩ := put_heap b h
    obtain ⟨h3, h4⟩ := puts_heap bs _ h1
    refine ⟨h3, h4.trans ?_⟩
    refine (List.Perm.append_left bs h2).trans ?_
    exact List.perm_middle
/-- what is left to do -/
def ms (most M n : Nat) (ds : List D6) : Nat := ds.length + ds.countP (fun d => d.f.isEmpty) + (most - n) * (4 * M + 2)
theorem ms_perm {most M n : Nat} {ds ds' : List D6} (h : ds.Perm ds') : ms most M n ds = ms most M n ds' := by unfold ms; rw [h.length_eq, h.countP_eq]
theorem ms_drop {most M n : Nat} {d : D6} {r : List D6} : ms most M n r < ms most M n (d :: r) := by
  unfold ms
  rw [List.countP_cons, List.length_cons]
  split <;> omega
theorem ms_swap {most M n : Nat} {d d' : D6} {r : List D6} (h : d.f = []) (h' : d'.f ≠ []) : ms most M n (d' :: r) < ms most M n (d :: r) := by
  unfold ms
  have e1 : d.f.isEmpty = true := by simp [h]
  have e2 : d'.f.isEmpty = false := by simp [h']
  rw [List.countP_cons, List.length_cons, List.countP_cons, List.length_cons, e1, e2]
  simp
theorem ms_more {most M n : Nat} {d : D6} {r bs : List D6} (hb : bs.length ≤ 2 * M) (hn : n < most) : ms most M (n + 1) (bs ++ r) < ms most M n (d :: r) := by
  unfold ms
  rw [List.countP_cons, List.length_cons, List.countP_append, List.length_append]
  have h1 : bs.countP (fun d => d.f.isEmpty) ≤ bs.length := List.countP_le_length
  obtain ⟨k, rfl⟩ : ∃ k, most = n + 1 + k := ⟨most - n - 1, by omega⟩
  rw [show n + 1 + k - n = k + 1 by omega, show n + 1 + k - (n + 1) = k by omega, Nat.add_mul, Nat.one_mul]
  omega
/-- the plan and the costs that a search rests on -/
structure PF (B g M t fb : Nat) (p : Pl) (fr : List C2) (w : World) : Prop where
  h : Nw w B g p
  sm : smallB p = true
  hM : 2 * p.rails.length = M
  ht : t < M
  hfl : fr.length = M
  hbf : BdC fr
  hnf : ∀ u, u < M → u ≠ t → 0 ≤ (gC fr u).1 → ∃ b ∈ nxN p u, stepB (lenAt p) fr u b = true
  hL : Lab M t (nxN p) (wtP p) (fun _ => False) (fun x => gC fr x)
section
variable {w wr w2 : World} {B g f t most fb M pb S : Nat} {v : Value} {fr : List C2} {wl : List W3} {d d' : D6} {r ds : List D6} {p : Pl}
theorem PF.m28 (H : PF B g M t fb p fr w) : M ≤ 28 := by
  have := small_rails H.h.v H.sm
  have := H.hM
  omega
theorem PF.below (H : PF B g M t fb p fr w) (hb : Below S w w2) (hBS : B ≤ S) : PF B g M t fb p fr w2 := ⟨H.h.below (hb.mono hBS), H.sm, H.hM, H.ht, H.hfl, H.hbf, H.hnf, H.hL⟩
/-- a new block is none of the pile's -/
theorem WSt.far (h : WSt w S fb pb fr wr v wl ds) (hb : Below wr.heap.size wr w2) {k : Nat} (hk : wr.heap.size ≤ k) : k ≠ pb ∧ ∀ l gi ci, Pile w2 S pb vless l gi ci → k ≠ gi := by
  have hp3 := h.sz
  refine ⟨by omega, fun l gi ci hq => ?_⟩
  rcases h.pile with ⟨_, hp⟩ | ⟨gi', ci', hp⟩
  · have h5 := (hb.block pb hp3).trans hp
    have h6 := hq.blk
    rw [h5] at h6
    simp at h6
  · have h6 := pile_uniq (hp.below hb hp.plt hp.glt) hq
    have := hp.glt
    omega
/-- what resolve wants -/
theorem rin (H : PF B g M t fb p fr w) (hk : DOk M f t (nxN p) (wtP p) (fun x => gC fr x) d) (hw : WSt w S fb pb fr w2 v wl ds) (hdm : DM w2 d) {db : Nat} (hd : Drow w2 db d) (hBS : B ≤ S) (hS : S ≤ w2.heap.size) (hdb : S ≤ db)
    {n : Nat} {res : List C2} (hs : costsL (lenAt p) (befL p M) (clL M (pre d)) M t n = some res) (hbr : BdC res) (hnr : ∀ u, u < M → u ≠ t → 0 ≤ (gC res u).1 → ∃ b ∈ nxN p u, stepB (lenAt p) res u b = true) :
    RIn B g M t db fb n d fr res p w2 := by
  have H2 := H.below hw.be hBS
  have hbA := hdm.A.bounds
  refine ⟨H.hM, H2.h, by omega, hd, by omega, hw.fr, H.hfl, ?_, hdm.A.sl hdm.b8, ?_, hbA.1, hbA.2, hk.hk, hdm.b8, fun x hx => hk.lt x (List.mem_append_left _ hx), hk.lt d.t (by simp), H.ht, H.hbf, H.hnf, hk.fr, hs, hbr, hnr⟩
  · rintro rfl
    have := hw.fr.symm.trans hd
    simp at this
  · rcases hdm.A with h | ⟨_, _, _, b, o, cur, e, hb, _⟩
    · exact .inl h
    · refine .inr ⟨b, o, e, ?_, lt_of_some hb⟩
      rintro rfl
      have := hb.symm.trans hd
      simp at this
theorem gr_open {M t : Nat} {nx : Nat → List Nat} {wt : Nat → Int} {cl : Nat → Prop} {cs : Nat → Int × Int} (hL : Lab M t nx wt cl cs) (hn : Net M nx wt) (htn : ¬ cl t) {u : Nat} {r : List Nat} (hu : u < M) (hg : Gr t nx wt cs (u :: r)) : ∀ x ∈ u :: r, ¬ cl x := by
  have h0 := gr_nn hL hn r u hu hg
  have hlt := gr_lt hn r u hu hg
  intro x hx hc
  by_cases hxt : x = t
  · subst hxt; exact htn hc
  · have h1 : 0 ≤ (cs x).1 := by
      rcases List.mem_cons.1 hx with rfl | hx
      · exact h0.1
      · exact (h0.2 x hx).1
    exact hL.hit x (hlt x hx) hxt h1 hc
/-- what resolve leaves is sound -/
theorem rout (hn : Net M (nxN p) (wtP p)) (hL : Lab M t (nxN p) (wtP p) (fun _ => False) (fun x => gC fr x)) (hk : DOk M f t (nxN p) (wtP p) (fun x => gC fr x) d) (hf : d.f = []) {res : List C2} {db : Nat}
    (hR : Lab M t (nxN p) (wtP p) (fun x => x ∈ pre d) (fun x => gC res x)) (ho : ROut t db d fr res p w w2 d') :
    (DOk M f t (nxN p) (wtP p) (fun x => gC fr x) d' ∧ ∀ q, cls M f t (nxN p) d' q ↔ cls M f t (nxN p) d q) ∧ d'.f ≠ [] := by
  obtain ⟨_, ⟨e1, e2, e3, e4, e5⟩, _, s, ef, h⟩ := ho
  have ep : pre d' = pre d := by unfold pre; rw [e2, e4]
  have e6 : d'.k ≤ d'.b.length := by rw [e2, e4]; exact hk.hk
  refine ⟨?_, by rw [ef]; simp⟩
  rcases h with ⟨h1, h2, h3, h4⟩ | ⟨h1, h2, h3⟩
  · exact found hk hn hL (fun x h => h.elim) h1 h2 ep e5 e6 ef (by rw [h3, h4]; exact hk.bd hf)
  · have hdj : ∀ x ∈ d.t :: s, x ∉ pre d := by
      intro x hx hp
      exact gr_open hR hn hk.tn (hk.lt d.t (by simp)) h1 x hx hp
    exact found hk hn hR (fun x h => h) h1 hdj ep e5 e6 ef h3
/-- what is there when the search ends -/
structure WEnd (w : World) (M f t S most : Nat) (p : Pl) (w' : World) (v : Value) (wl : List W3) : Prop where
  ow : Own w' S 50 1 fW v wl
  wm : ∀ x ∈ wl, IR w' x.A x.l x.c
  re : Res M f t (nxN p) (wtP p) most (wl.map W3.l)
  le : wl.length ≤ most
  be : Below S w w'
/-- at the head of the search's loop -/
def WI (w : World) (g f t most fb M pb S : Nat) (fr : List C2) (p : Pl) (k : Nat) (a : Act) (wr : World) : Prop :=
  ∃ v wl ds, a = FW g f t most fb M pb v (fun i => a.tmps.getD i undef) ∧ WSt w S fb pb fr wr v wl ds ∧ Inv M f t (nxN p) (wtP p) (fun x => gC fr x) (wl.map W3.l) ds ∧ Heap ds ∧ wl.length < most ∧ ds.length ≤ 1 + wl.length * (2 * M) ∧ ms most M wl.length ds = k ∧ S ≤ wr.heap.size
theorem loop_round (H : PF B g M t fb p fr w) (hBS : B ≤ S) (hmost : most ≤ 200) {k : Nat} (u : Nat → Value) (K : Act → World → Prop) (Q : Exit → Act → World → Prop)
    (hQ : ∀ a' w' v wl, a' = FW g f t most fb M pb v (fun i => a'.tmps.getD i undef) → WEnd w M f t S most p w' v wl → Q (.exit 0) a' w')
    (hK : ∀ a' w' k', k' < k → WI w g f t most fb M pb S fr p k' a' w' → K a' w')
    (hw : WSt w S fb pb fr wr v wl ds) (hI : Inv M f t (nxN p) (wtP p) (fun x => gC fr x) (wl.map W3.l) ds) (hH : Heap ds) (hlm : wl.length < most) (hdl : ds.length ≤ 1 + wl.length * (2 * M)) (hk : ms most M wl.length ds = k) (hS : S ≤ wr.heap.size) :
    Code.wp Tryz.prog bodyW (Exit.then K Q) (FW g f t most fb M pb v u) wr := by
  have h28 := H.m28
  have hn := plan_net H.h.v H.hM
  have hb56 : wl.length * (2 * M) ≤ 200 * 56 := Nat.mul_le_mul (by omega) (by omega)
  cases ds with
  | nil => exact w_nil u K Q (fun a' w' ha hw' => hQ a' w' v wl ha ⟨hw'.ow, hw'.wm, hI.done most, by omega, hw'.be⟩) hw hS
  | cons d r =>
    obtain ⟨gi, ci, hp⟩ : ∃ gi ci, Pile wr S pb vless (d :: r) gi ci := by
      rcases hw.pile with ⟨h, _⟩ | h
      · cases h
      · exact h
    have no := hp.no
    have n1 := fun cur => no.1 cur 3 (by simp)
    have n2 := fun cur => no.2 cur 3 (by simp)
    rw [List.length_cons] at hdl
    have htk := take_any hp (fun z hz => (hw.dm z hz).F.okn (hw.dm z hz).f8 n1 n2) (by omega)
    obtain ⟨hH2, hpm⟩ := rest_heap hH
    have hI2 := hI.perm (List.Perm.cons d hpm.symm)
    have hmr : ms most M wl.length (d :: restL d r) = k := by rw [← hk]; exact ms_perm (List.Perm.cons d hpm)
    have hrl : (restL d r).length = r.length := restL_len d r
    have hok := hI.ok d (by simp)
    have hdm0 := hw.dm d (by simp)
    have htk2 : Calls Tryz.prog 165 #[.pointer (some ⟨pb, 0, none⟩)] wr (fun e w2 => e = .returned (.tuple #[.agg #[.int .i64 d.l, .int .i64 d.m, .slice d.A d.b.length d.ac, .int .i64 (d.k : Int), .int .i64 (d.t : Int), .slice d.F d.f.length d.fc], .bool true]) ∧ (S ≤ w2.heap.size ∧ WSt w S fb pb fr w2 v wl (restL d r) ∧ DM w2 d)) :=
      htk.mono fun e w2 ⟨he, hp2, hf⟩ => by
        obtain ⟨h1, h2⟩ := hw.taken hp hp2 hf hS (fun y hy => hpm.mem_iff.1 hy)
        exact ⟨he, Nat.le_trans hS hf.size, h1, h2⟩
    by_cases hf : d.f = []
    · obtain ⟨hF, hfc⟩ : d.F = none ∧ d.fc = 0 := by
        rcases hdm0.F with h | h
        · exact ⟨h.1, h.2.2⟩
        · exact absurd hf h.1
      obtain ⟨n, res, hs, hbr, hnr, hrlen, hR⟩ := closed_facts H.h.v H.sm H.hM H.ht (pre d) hok.tn
      rw [hF, hf, hfc] at htk2
      have hres : ∀ w2, (S ≤ w2.heap.size ∧ WSt w S fb pb fr w2 v wl (restL d r) ∧ DM w2 d) → Calls Tryz.prog 86 #[.pointer (some ⟨g, 0, none⟩), .pointer (some ⟨w2.heap.size, 0, none⟩), .int .i64 (t : Int), .slice (some ⟨fb, 0, none⟩) M M] (w2.alloc (.cells #[.int .i64 d.l, .int .i64 d.m, .slice d.A d.b.length d.ac, .int .i64 (d.k : Int), .int .i64 (d.t : Int), .slice none 0 0] 152))
          (fun e w3 => ((e = .returned (.bool false) ∧ (gC res d.t).1 < 0) ∨ (e = .returned (.bool true) ∧ ∃ d', Drow w3 w2.heap.size d' ∧ DM w3 d' ∧ (DOk M f t (nxN p) (wtP p) (fun x => gC fr x) d' ∧ ∀ q, cls M f t (nxN p) d' q ↔ cls M f t (nxN p) d q) ∧ d'.f ≠ [])) ∧ WSt w S fb pb fr w3 v wl (restL d r) ∧ S ≤ w3.heap.size) := by
        rintro w2 ⟨hs2, hw2, hdm2⟩
        have hb := (Below.refl _ w2).alloc (Nat.le_refl _) (.cells #[.int .i64 d.l, .int .i64 d.m, .slice d.A d.b.length d.ac, .int .i64 (d.k : Int), .int .i64 (d.t : Int), .slice none 0 0] 152)
        have hw3 := hw2.below hb hs2
        have hdm3 := hdm2.kp (Kp.below [3] hb) (by simp)
        have hdr := heap_alloc_new w2 (.cells #[.int .i64 d.l, .int .i64 d.m, .slice d.A d.b.length d.ac, .int .i64 (d.k : Int), .int .i64 (d.t : Int), .slice none 0 0] 152)
        obtain ⟨hn1, hn2⟩ := hw2.far hb (Nat.le_refl _)
        generalize w2.alloc (.cells #[.int .i64 d.l, .int .i64 d.m, .slice d.A d.b.length d.ac, .int .i64 (d.k : Int), .int .i64 (d.t : Int), .slice none 0 0] 152) = W at hb hw3 hdm3 hdr hn2 ⊢
        have hdr2 : Drow W w2.heap.size d := by unfold Drow; rw [hF, hf, hfc]; exact hdr
        have hSW : S ≤ W.heap.size := Nat.le_trans hs2 hb.size
        refine (resolve_any B g M t w2.heap.size fb n d fr res p W (rin H hok hw3 hdm3 hdr2 hBS hSW hs2 hs hbr hnr)).mono ?_
        rintro e w' ⟨he, hfp⟩
        have hw4 := hw3.fp hdr2 hfp hSW hs2 hn1 hn2
        refine ⟨?_, hw4, Nat.le_trans hSW hfp.size⟩
        rcases he with ⟨he, h0⟩ | ⟨he, d', ho⟩
        · exact .inl ⟨he, h0⟩
        · have hro := rout hn H.hL hok hf hR ho
          refine .inr ⟨he, d', ho.dr, ?_, hro⟩
          have hk4 := hdr2.kp hfp
          obtain ⟨e1, e2, e3, e4, e5⟩ := ho.e1
          have hsw := (hro.1.1.fd hro.2).1.1
          have hl8 := nodup_le hsw.nd hsw.lt
          exact ⟨by rw [e1, e2, e3]; exact hdm3.A.kp hk4 (by simp), IR.own ho.ow hro.2, by rw [e2]; exact hdm3.b8, by omega⟩
      by_cases h0 : (gC res d.t).1 < 0
      · refine w_drop u K Q (fun w2 => S ≤ w2.heap.size ∧ WSt w S fb pb fr w2 v wl (restL d r) ∧ DM w2 d) (fun w3 => WSt w S fb pb fr w3 v wl (restL d r) ∧ S ≤ w3.heap.size) ?_ htk2 ?_
        · rintro a' w' ha ⟨hw', hS'⟩
          refine hK a' w' (ms most M wl.length (restL d r)) (by rw [← hmr]; exact ms_drop) ⟨v, wl, restL d r, ha, hw', hI2.drop (none_found hok hR (fun x h => h) h0), hH2, hlm, by omega, rfl, hS'⟩
        · intro w2 h2
          refine (hres w2 h2).mono ?_
          rintro e w3 ⟨he, h3⟩
          refine ⟨?_, h3⟩
          rcases he with ⟨he, _⟩ | ⟨_, d', _, _, ⟨hk1, hk2⟩, hk3⟩
          · exact he
          · exact absurd ((hk2 _).1 (hk1.fd hk3).1) (none_found hok hR (fun x h => h) h0 _)
      · refine w_keep u K Q (fun w2 => S ≤ w2.heap.size ∧ WSt w S fb pb fr w2 v wl (restL d r) ∧ DM w2 d)
          (fun w3 => ∃ d', (DOk M f t (nxN p) (wtP p) (fun x => gC fr x) d' ∧ ∀ q, cls M f t (nxN p) d' q ↔ cls M f t (nxN p) d q) ∧ d'.f ≠ [] ∧ WSt w S fb pb fr w3 v wl (putL (restL d r) d') ∧ S ≤ w3.heap.size)
          (fun d' w3 => (DM w3 d' ∧ (DOk M f t (nxN p) (wtP p) (fun x => gC fr x) d' ∧ ∀ q, cls M f t (nxN p) d' q ↔ cls M f t (nxN p) d q) ∧ d'.f ≠ []) ∧ WSt w S fb pb fr w3 v wl (restL d r) ∧ S ≤ w3.heap.size) ?_ htk2 ?_ ?_
        · rintro a' w' ha ⟨d', ⟨hk1, hk2⟩, hk3, hw', hS'⟩
          obtain ⟨hH3, hp3⟩ := put_heap d' hH2
          refine hK a' w' (ms most M wl.length (putL (restL d r) d')) (by rw [← hmr, ms_perm hp3]; exact ms_swap hf hk3) ⟨v, wl, _, ha, hw', (hI2.swap hk1 hk2).perm hp3.symm, hH3, hlm, by rw [putL_len]; omega, rfl, hS'⟩
        · intro w2 h2
          refine (hres w2 h2).mono ?_
          rintro e w3 ⟨he, h3, h4⟩
          rcases he with ⟨_, h5⟩ | ⟨he, d', h5, h6, h7, h8⟩
          · exact absurd h5 h0
          · exact ⟨he, d', h5, ⟨h6, h7, h8⟩, h3, h4⟩
        · rintro d' w3 ⟨⟨h1, h2, h3⟩, h4, h5⟩
          refine (h4.put h1 h5 (by omega)).mono ?_
          rintro e w4 ⟨he, h6, h7, _⟩
          exact ⟨he, d', h2, h3, h6, Nat.le_trans h5 h7.sz⟩
    · obtain ⟨b0, o0, _, hF, _⟩ := hdm0.F.form hf
      have hem := hI2.emit hn H.hL hf (fun y hy => heap_least hH y (List.mem_cons_of_mem _ (hpm.mem_iff.1 hy)))
      rw [hF] at htk2
      by_cases hm : wl.length + 1 = most
      · refine w_last u K Q (fun a' w' v2 ha hw' => ?_) htk2 ⟨hF, rfl, rfl⟩ rfl (by omega) hm.symm
        have hmap : (wl ++ [(⟨some ⟨b0, o0, none⟩, d.f, d.fc⟩ : W3)]).map W3.l = wl.map W3.l ++ [d.f] := by simp
        exact hQ a' w' v2 _ ha ⟨hw'.ow, hw'.wm, by rw [hmap]; exact hem.most (by simp; exact hm), by simp; omega, hw'.be⟩
      · have hfd := hok.fd hf
        have hsw := hfd.1.1
        have hl8 := nodup_le hsw.nd hsw.lt
        have hfp := (found_pre hok hf).2
        have hbl : (brs (nxN p) (wtP p) (fun x => gC fr x) d).length ≤ 2 * M := by
          have := brT_len p (fun x => gC fr x) d (d.f.length - 1 - d.k) (d.f.length - 1) (.inl (by omega))
          have e : brs (nxN p) (wtP p) (fun x => gC fr x) d = brT p (fun x => gC fr x) d (d.f.length - 1) := rfl
          rw [e]
          omega
        refine w_more (bs := brs (nxN p) (wtP p) (fun x => gC fr x) d) u K Q ?_ ?_ ?_ (by omega) htk2 ⟨hF, rfl, rfl⟩ rfl (by omega) (by omega)
        · intro a' w' v2 ha hw' hS'
          obtain ⟨hH3, hp3⟩ := puts_heap (brs (nxN p) (wtP p) (fun x => gC fr x) d) _ hH2
          have hmap : (wl ++ [(⟨some ⟨b0, o0, none⟩, d.f, d.fc⟩ : W3)]).map W3.l = wl.map W3.l ++ [d.f] := by simp
          refine hK a' w' (ms most M (wl.length + 1) ((brs (nxN p) (wtP p) (fun x => gC fr x) d).foldl putL (restL d r))) (by rw [← hmr, ms_perm hp3]; exact ms_more hbl hlm)
            ⟨v2, _, _, ha, hw', by rw [hmap]; exact hem.perm hp3.symm, hH3, by simp; omega, ?_, by rw [List.length_append]; rfl, hS'⟩
          rw [puts_len, hrl, List.length_append, List.length_singleton, Nat.add_mul]
          omega
        · intro wq hbq hdq hfq hSq
          have H2 := H.below hbq hBS
          have hb := hdq.F.bounds
          have := branches_any B g M fb b0 o0 d fr p wq ⟨H.hM, H2.h, by omega, hfq, H.hfl, hF, hdq.F.sl hdq.f8, hb.1, hb.2, hdq.f8, by have := hdq.b8; omega, by omega, hsw.lt, H.hbf⟩
          rw [hF] at this
          exact this
        · intro y hy
          obtain ⟨i, x, _, _, _, _, rfl⟩ := mem_brs.1 hy
          exact ⟨rfl, rfl, rfl, rfl, rfl, rfl⟩
end
end Go.Proofs.YtcpanfpijljeaaaGreat.DH

namespace Go.Proofs.YtcpanfpijljeaaaGreat.DH
set_option linter.unusedVariables false
set_option linter.unusedSimpArgs false
open Go.RowKit

section
variable {w wr : World} {B g f t most fb M pb S : Nat} {v : Value} {fr : List C2} {wl : List W3} {ds : List D6} {p : Pl}
theorem ways_loop (H : PF B g M t fb p fr w) (hBS : B ≤ S) (hmost : most ≤ 200) (a : Act) (Q : Exit → Act → World → Prop) (ha : a = FW g f t most fb M pb v (fun i => a.tmps.getD i undef))
    (hQ : ∀ a' w' v wl, a' = FW g f t most fb M pb v (fun i => a'.tmps.getD i undef) → WEnd w M f t S most p w' v wl → Q (.exit 0) a' w')
    (hw : WSt w S fb pb fr wr v wl ds) (hI : Inv M f t (nxN p) (wtP p) (fun x => gC fr x) (wl.map W3.l) ds) (hH : Heap ds) (hlm : wl.length < most) (hdl : ds.length ≤ 1 + wl.length * (2 * M)) (hS : S ≤ wr.heap.size) :
    (Code.loop bodyW).wp Tryz.prog Q a wr := by
  refine wp_loop_ghost (fun n a w' => WI w g f t most fb M pb S fr p n a w') (ms most M wl.length ds) ⟨v, wl, ds, ha, hw, hI, hH, hlm, hdl, rfl, hS⟩ ?_
  rintro k a wr ⟨v, wl, ds, ha, hw, hI, hH, hlm, hdl, hk, hS⟩
  obtain ⟨u, rfl⟩ : ∃ u, a = FW g f t most fb M pb v u := ⟨_, ha⟩
  exact loop_round H hBS hmost u _ Q hQ (fun a' w' k' hlt h => ⟨k', hlt, h⟩) hw hI hH hlm hdl hk hS
end

theorem WSt.drew {w wr : World} {fb pb S : Nat} {v : Value} {fr : List C2} {wl : List W3} {ds : List D6} (h : WSt w S fb pb fr wr v wl ds) : WSt w S fb pb fr wr.drew v wl ds := by
  have hk : Kp T3 wr wr.drew := ⟨Nat.le_refl _, fun _ _ _ _ _ => rfl⟩
  refine h.move hk (Below.refl _ _).drew ?_ fun d hd => (h.dm d hd).kp hk (by simp)
  rcases h.pile with ⟨e, h⟩ | ⟨gi, ci, h⟩
  · exact .inl ⟨e, h⟩
  · exact .inr ⟨gi, ci, h.drew⟩
def WPost (w : World) (M f t most : Nat) (p : Pl) (e : Ending) (w' : World) : Prop := ∃ v wl, e = .returned v ∧ WEnd w M f t w.heap.size most p w' v wl
set_option maxRecDepth 100000 in
set_option maxHeartbeats 2000000 in
theorem ways_any (B g M f t most : Nat) (p : Pl) (w : World) (h : Nw w B g p) (hsm : smallB p = true) (hB : B ≤ w.heap.size) (hM : 2 * p.rails.length = M) (hf : f < M) (ht : t < M) (h1 : 1 ≤ most) (h2 : most ≤ 200) :
    Calls Tryz.prog 59 #[.pointer (some ⟨g, 0, none⟩), .int .i64 (f : Int), .int .i64 (t : Int), .int .i64 (most : Int)] w (WPost w M f t most p) := by
  obtain ⟨n, fr, hs, hbf, hnf, hfl, hL0⟩ := closed_facts h.v hsm hM ht [] (by simp)
  have hL : Lab M t (nxN p) (wtP p) (fun _ => False) (fun x => gC fr x) := by simpa using hL0
  have h28 : M ≤ 28 := by have := small_rails h.v hsm; omega
  rw [clL_nil] at hs
  obtain ⟨i1, hi1, hy0, hy1, hy2⟩ := info_parts inf4
  have hmb : ∀ W : World, (Instr.makeSlice 57 (.int .i64 (M : Int)) (.int .i64 (M : Int))).run Tryz.prog W = .ok (.slice (some ⟨W.heap.size, 0, none⟩) M M) (W.alloc (.cells (madeCells #[.bool false] M) 4)) := fun W => by
    have := run_mk (P := Tryz.prog) 57 4 i1 _ 1 Tryz.underlying57 hi1 hy0 hy1 (M : Int) (M : Int) M M rfl rfl (by omega) (by rw [hy2]; omega) (by omega) W
    rw [this, Nat.mul_one]; rfl
  obtain ⟨A1, c1, A2, c2, lb, sb, nb, bb, hN, x1, x2, x3, x4, x5, x6⟩ := h.net
  obtain ⟨_, _, _, _, k4, _⟩ := hN.cell
  rw [hM] at k4
  have hgl : g < w.heap.size := Nat.lt_of_lt_of_le h.gB hB
  have hb0 : Below w.heap.size w (w.alloc (.cells (madeCells #[.bool false] M) 4)) := (Below.refl _ w).alloc (Nat.le_refl _) _
  have hbr := BRow.made w M
  have hct := costs_any B g w.heap.size t n (List.replicate M false) fr p (w.alloc (.cells (madeCells #[.bool false] M) 4)) (h.below (hb0.mono hB)) (by simp; omega) (by omega) (by simp [hM]) hbr (by rw [hM]; exact hs)
  rw [hM] at hct
  have HCT := Lib.hid hct
  have HB0 := Lib.hid hb0
  have HH := Lib.hid h
  have HL := Lib.hid hL; have HBF := Lib.hid hbf; have HNF := Lib.hid hnf; have HFL := Lib.hid hfl; have HMM := Lib.hid hM; have HSM := Lib.hid hsm
  clear hct hb0 h hN x1 x2 x3 x4 x5 x6 hbr hs hL hL0 hbf hnf hfl hM hsm
  have f0 : (0 : Int) ≤ (f : Int) := by omega
  have f1 : (f : Int) < (M : Int) := by omega
  have hm2 := methD_put; have hm4 := nilaD_put
  go_enter Tryz.func59, Tryz.ntmps59
  go_wp2
  go_step3
  go_wp2_with fail
  refine HCT.out.mono ?_
  rintro e w2 ⟨⟨fb, rfl, hcr, hfb⟩, hb2⟩
  have hS2 : w.heap.size ≤ w2.heap.size := by have := hb2.size; simp at this; omega
  have hbw : Below w.heap.size w w2 := HB0.out.trans (hb2.mono (by simp))
  have hal : Below w2.heap.size w2 (w2.alloc (.cells #[.slice none 0 0, vless] 155)) := (Below.refl _ w2).alloc (Nat.le_refl _) _
  have hnw := heap_alloc_new w2 (.cells #[.slice none 0 0, vless] 155)
  have hw3 : WSt w w.heap.size fb w2.heap.size fr (w2.alloc (.cells #[.slice none 0 0, vless] 155)) (.slice none 0 0) [] [] :=
    ⟨.inl ⟨rfl, hnw⟩, (fun d hd => by cases hd), Own.nil _ _ _ _ _, (fun x hx => by cases hx), hcr.alloc _, hbw.trans (hal.mono hS2), hS2⟩
  have HW3 := Lib.hid hw3
  have HPF := Lib.hid (show PF B g M t fb p fr w from ⟨HH.out, HSM.out, HMM.out, ht, HFL.out, HBF.out, HNF.out, HL.out⟩)
  have hS3 : w.heap.size ≤ (w2.alloc (.cells #[.slice none 0 0, vless] 155)).heap.size := Nat.le_trans hS2 hal.size
  obtain ⟨q0, q1⟩ := hcr.gc (i := f) (by rw [HFL.out]; exact hf)
  obtain ⟨fx, hfx⟩ : ∃ z, (gC fr f).1 = z := ⟨_, rfl⟩
  obtain ⟨fy, hfy⟩ : ∃ z, (gC fr f).2 = z := ⟨_, rfl⟩
  have HFX := Lib.hid (And.intro hfx hfy)
  rw [hfx] at q0; rw [hfy] at q1
  have hfbl := hcr.lt
  have r0 := (hal.cell (p := ⟨fb, f * 2, none⟩) hfbl).trans q0
  have r1 := (hal.cell (p := ⟨fb, f * 2 + 1, none⟩) hfbl).trans q1
  have HZ := Lib.hid hS3
  clear hb2 hbw hal hnw hw3 hS3 hfx hfy hcr q0 q1 k4 hmb
  by_cases c0 : 0 ≤ fx
  · have hdm : ∀ W, DM W (d0 (fun x => gC fr x) f) := fun W => ⟨.inl ⟨rfl, rfl, rfl⟩, .inl ⟨rfl, rfl, rfl⟩, by simp [d0], by simp [d0]⟩
    have hput := fun W (hW : WSt w w.heap.size fb w2.heap.size fr W (.slice none 0 0) [] []) (hS : w.heap.size ≤ W.heap.size) => hW.put (hdm W) hS (by simp)
    have e0 : (d0 (fun x => gC fr x) f).l = fx := HFX.out.1
    have e1 : (d0 (fun x => gC fr x) f).m = fy := HFX.out.2
    rw [e0, e1] at hput
    have HPUT := Lib.hid hput
    clear hdm hput e0 e1
    go_wp2_with fail
    go_region_with (go_at_call 162; first
      | (refine (HPUT.out _ HW3.out HZ.out).mono ?_; rintro e w5 ⟨rfl, hq, hk, _⟩; have HQ5 := Lib.hid hq; have HK5 := Lib.hid hk; clear hq hk)
      | (refine (HPUT.out _ HW3.out.drew HZ.out).mono ?_; rintro e w5 ⟨rfl, hq, hk, _⟩; have HQ5 := Lib.hid hq; have HK5 := Lib.hid hk; clear hq hk))
    all_goals
      go_wp2
      go_step3
      go_wp2
      refine ways_loop (w := w) (B := B) (wl := []) (ds := putL [] (d0 (fun x => gC fr x) f)) (S := w.heap.size) (fr := fr) (p := p) (most := most) (f := f) (t := t) (fb := fb) (M := M) (g := g) (pb := w2.heap.size) (v := .slice none 0 0) HPF.out hB h2 _ _ rfl ?_ HQ5.out (Inv.start HL.out hf (by rw [HFX.out.1]; exact c0)) (heap_one _) (by simp; omega) (by rw [putL_len]; simp) (Nat.le_trans HZ.out HK5.out.sz)
      · rintro a' w' v wl ha' hend
        obtain ⟨u, rfl⟩ : ∃ u, a' = FW g f t most fb M w2.heap.size v u := ⟨_, ha'⟩
        have HE := Lib.hid hend
        clear hend ha'
        simp only [FW]
        go_wp2
        rw [Exit.noGoto_ret]
        go_ret
        exact ⟨v, wl, rfl, HE.out⟩
  · have c1 : fx < 0 := by omega
    go_wp2
    go_step3
    go_wp2
    refine ways_loop (w := w) (B := B) (wl := []) (ds := []) (S := w.heap.size) (fr := fr) (p := p) (most := most) (f := f) (t := t) (fb := fb) (M := M) (g := g) (pb := w2.heap.size) (v := .slice none 0 0) HPF.out hB h2 _ _ rfl ?_ HW3.out (Inv.none HL.out (by rw [HFX.out.1]; exact c1)) (fun k _ hk => by simp at hk) (by simp; omega) (by simp) HZ.out
    · rintro a' w' v wl ha' hend
      obtain ⟨u, rfl⟩ : ∃ u, a' = FW g f t most fb M w2.heap.size v u := ⟨_, ha'⟩
      have HE := Lib.hid hend
      clear hend ha'
      simp only [FW]
      go_wp2
      rw [Exit.noGoto_ret]
      go_ret
      exact ⟨v, wl, rfl, HE.out⟩
end Go.Proofs.YtcpanfpijljeaaaGreat.DH

namespace Go.Proofs.YtcpanfpijljeaaaGreat.DH
set_option linter.unusedVariables false
set_option linter.unusedSimpArgs false
open Go.RowKit

def ShPost (p : Pl) (M f t : Nat) (res : List C2) (w : World) (e : Ending) (w' : World) : Prop :=
  (((gC res f).1 < 0 ∧ e = .returned (.tuple #[.slice none 0 0, .int .i64 4])) ∨ (0 ≤ (gC res f).1 ∧ ∃ v q, e = .returned (.tuple #[v, .int .i64 0]) ∧ Own w' w.heap.size 27 2 fE v ((q.map fun x : Nat => (x : Int)).map moveE) ∧ Pq M (lenAt p) (nxN p) res t f t q)) ∧ Below w.heap.size w w'
set_option maxRecDepth 100000 in
set_option maxHeartbeats 4000000 in
theorem Shortest_in (A A2 : Option Addr) (c c2 M nn : Nat) (res : List C2) (p : Pl) (m n : E) (w : World) (hM : 2 * p.rails.length = M) (hP : PlAt w w.heap.size A c A2 c2 p) (hv : Vld p) (hm : railIn p m.rail = true) (hn : railIn p n.rail = true)
    (hs : costsL (lenAt p) (befL p M) (List.replicate M false) M (keyE n) nn = some res) (hbd : BdC res)
    (hnx : ∀ u, u < M → u ≠ keyE n → 0 ≤ (gC res u).1 → ∃ b ∈ nxN p u, stepB (lenAt p) res u b = true) :
    Calls Tryz.prog 18 #[.agg #[.slice A p.nodes.length c, .slice A2 p.rails.length c2], .agg #[.int .i64 m.rail, .bool m.last], .agg #[.int .i64 n.rail, .bool n.last]] w (ShPost p M (keyE m) (keyE n) res w) := by
  have H1 := Lib.hid (G3st.start m n hP)
  have HV := Lib.hid hv
  have hsz := of_decide_eq_true hv.sizes
  have hM8 : M ≤ 800 := by omega
  have km := key_in hm
  have kn := key_in hn
  have hm0 := km.1
  have hn0 := kn.1
  have hm1 : m.rail ≤ 1000000 := by have := of_decide_eq_true hm; omega
  have hn1 : n.rail ≤ 1000000 := by have := of_decide_eq_true hn; omega
  have HKM := Lib.hid km.2.2
  have HKN := Lib.hid kn.2.2
  have hfM : keyE m < M := by omega
  have htM : keyE n < M := by omega
  have HRM := Lib.hid hm; have HRN := Lib.hid hn
  obtain ⟨f, hf⟩ : ∃ f, keyE m = f := ⟨_, rfl⟩
  obtain ⟨t, ht⟩ : ∃ t, keyE n = t := ⟨_, rfl⟩
  rw [hf] at HKM hfM
  rw [ht] at HKN htM hs hnx
  rw [hf, ht]
  have HRL := Lib.hid (costsL_len hs)
  have HS2 := Lib.hid hs; have HBD := Lib.hid hbd; have HNX := Lib.hid hnx; have HMM := Lib.hid hM
  have hrep : (List.replicate M false).length = M := by simp
  obtain ⟨i1, hi1, hy0, hy1, hy2⟩ := info_parts inf4
  have hmb : ∀ W : World, (Instr.makeSlice 57 (.int .i64 (M : Int)) (.int .i64 (M : Int))).run Tryz.prog W = .ok (.slice (some ⟨W.heap.size, 0, none⟩) M M) (W.alloc (.cells (madeCells #[.bool false] M) 4)) := fun W => by
    have := run_mk (P := Tryz.prog) 57 4 i1 _ 1 Tryz.underlying57 hi1 hy0 hy1 (M : Int) (M : Int) M M rfl rfl (by omega) (by rw [hy2]; omega) (by omega) W
    rw [this, Nat.mul_one]; rfl
  clear hP hv hm hn hs hbd hnx hM km kn hf ht
  go_enter Tryz.func18, Tryz.ntmps18
  go_wp2_with fail
  refine (survey_any A A2 c c2 p _ H1.out.pl).mono ?_
  rintro e w1 ⟨hb, ⟨hv, rfl⟩ | ⟨hv, g, rfl, hg, hN⟩⟩
  · exact absurd HV.out hv
  have H2 := Lib.hid (H1.out.next hb)
  have HN := Lib.hid hN
  clear hb hv hN H1
  obtain ⟨_, _, m0, m1, n0, n1, _, _, hlt⟩ := H2.out
  go_wp2_with fail
  refine (hasRail_any _ g p m.rail _ HN.out).mono ?_
  rintro e w2 ⟨rfl, rfl⟩
  rw [HRM.out]
  go_wp2_with fail
  refine (hasRail_any _ g p n.rail _ HN.out).mono ?_
  rintro e w2 ⟨rfl, rfl⟩
  rw [HRN.out]
  obtain ⟨A', c', A2', c2', lb, sb, nb, bb, hN, x1, x2, x3, x4, x5, x6⟩ := HN.out.net
  obtain ⟨_, _, _, _, k4, _⟩ := hN.cell
  rw [HMM.out] at k4
  have hgl := hN.lt
  clear hN x1 x2 x3 x4 x5 x6
  go_upto_region 4 with (fail)
  obtain ⟨W0, hW0⟩ : ∃ x, w1 = x := ⟨_, rfl⟩
  rw [hW0] at m0 m1 n0 n1 k4 hgl hlt ⊢
  have H2' := Lib.hid (show G3st w W0 w.heap.size A c A2 c2 p m n by rw [← hW0]; exact H2.out)
  have HN' := Lib.hid (show Nw W0 W0.heap.size g p by rw [← hW0]; exact HN.out)
  clear H2 HN hW0
  go_cut [10] from 32 to 41 (fun s10 wx => (∃ cb : Nat, s10 = .slice (some ⟨cb, 0, none⟩) M M ∧ CRow wx cb res) ∧ Below W0.heap.size W0 wx)
  case first =>
    go_region_held3 (fun w' => w'.cell? ⟨g, 4, none⟩ = some (.slice (some ⟨nb, 0, none⟩) M M) ∧ w'.cell? ⟨w.heap.size + 1 + 1, 0, none⟩ = some (.int .i64 n.rail) ∧ w'.cell? ⟨w.heap.size + 1 + 1, 1, none⟩ = some (.bool n.last))
      (first
        | (go_keep; done)
        | exact ⟨(hx.cell (p := ⟨g, 4, none⟩) hgl).trans k4, (hx.cell (p := ⟨w.heap.size + 1 + 1, 0, none⟩) hlt).trans n0, (hx.cell (p := ⟨w.heap.size + 1 + 1, 1, none⟩) hlt).trans n1⟩
        | exact ⟨(hy.cell (p := ⟨g, 4, none⟩) hgl).trans k4, (hy.cell (p := ⟨w.heap.size + 1 + 1, 0, none⟩) hlt).trans n0, (hy.cell (p := ⟨w.heap.size + 1 + 1, 1, none⟩) hlt).trans n1⟩)
      ((first
        | (go_at_call 51; refine (number_any n _ hn0 hn1).mono ?_; rintro e w2 ⟨rfl, hb2⟩; rw [HKN.out]; have hxs := hb2.size; have hx : Below W0.heap.size W0 w2 := by first | exact (Below.refl _ _).drew.trans hb2 | exact (((Below.refl W0.heap.size W0).alloc (Nat.le_refl _) _).drew.trans (hb2.mono (by simp))))
        | (go_at_call 57; have hxz := hx.size; have q1 : W0.heap.size ≤ w2.heap.size := (by omega); have q2 := HN'.out.below (hx.alloc q1 (.cells (madeCells #[.bool false] M) 4)); have q3 := BRow.made w2 M; have q4 : W0.heap.size ≤ (w2.alloc (.cells (madeCells #[.bool false] M) 4)).heap.size := (by simp; omega); (with_reducible refine (costs_M W0.heap.size g w2.heap.size t nn (List.replicate M false) res p _ M HMM.out q2 q4 htM hrep q3 HS2.out).mono ?_); rintro e w3 ⟨⟨cb, rfl, hrow, hcb⟩, hb3⟩; have hy : Below W0.heap.size W0 w3 := (hx.alloc hxz _).trans (hb3.mono (by simp; omega)); clear q2 q3)
        | (go_at_call 57; have hxz := hx.size; have q1 : W0.heap.size ≤ w2.heap.size := (by omega); have q2 := HN'.out.below hx; have q3 := (BRow.made W0 M).below (B := W0.heap.size + 1) ((Below.refl _ _).drew.trans (hb2.mono (by simp))) (by omega); (with_reducible refine (costs_M W0.heap.size g W0.heap.size t nn (List.replicate M false) res p _ M HMM.out q2 q1 htM hrep q3 HS2.out).mono ?_); rintro e w3 ⟨⟨cb, rfl, hrow, hcb⟩, hb3⟩; have hy : Below W0.heap.size W0 w3 := hx.trans (hb3.mono hxz); clear q2 q3)))
    all_goals
      go_wp2_with fail
      go_meet
      exact ⟨⟨cb, rfl, hrow⟩, hy⟩
  case rest =>
  clear hmb
  obtain ⟨⟨cb, rfl, hrow⟩, hbq⟩ := hcut
  have H3 := Lib.hid (H2'.out.next hbq)
  have HN3 := Lib.hid ((HN'.out.below hbq).more hbq.size)
  have HROW := Lib.hid hrow
  clear hrow hbq H2' HN' m0 m1 n0 n1 k4 hgl hlt
  obtain ⟨_, _, m0, m1, n0, n1, _, _, hlt⟩ := H3.out
  go_wp2_with fail
  refine (number_any m _ hm0 hm1).mono ?_
  rintro e w5 ⟨rfl, hb5⟩
  rw [HKM.out]
  have H5 := Lib.hid (H3.out.next hb5)
  have HN5 := Lib.hid ((HN3.out.below hb5).more hb5.size)
  have hrow5 := HROW.out.below hb5 HROW.out.lt
  obtain ⟨d0, d1⟩ := hrow5.gc (i := f) (by rw [HRL.out]; exact hfM)
  have HROW5 := Lib.hid hrow5
  have hbb := HBD.out f (by rw [HRL.out]; exact hfM)
  obtain ⟨x, hx⟩ : ∃ x, (gC res f).1 = x := ⟨_, rfl⟩
  have HX := Lib.hid hx
  rw [hx] at d0 hbb
  have hx1 := hbb.2.1
  have hx2 := hbb.1
  have j0 : (0 : Int) ≤ (f : Int) := by omega
  have j1 : (f : Int) < (M : Int) := by omega
  clear hb5 hrow5 H3 HN3 HROW m0 m1 n0 n1 hlt hx hbb d1
  by_cases hneg : x < 0
  · go_wp2_with fail
    go_ret2
    exact ⟨.inl ⟨by rw [HX.out]; exact hneg, rfl⟩, H5.out.be⟩
  · have hnd : decide (x < 0) = false := by rw [decide_eq_false_iff_not]; exact hneg
    obtain ⟨_, _, m0, m1, n0, n1, _, _, hlt⟩ := H5.out
    go_upto_region 7 with (fail)
    have hl1 : w.heap.size + 1 < w5.heap.size := by omega
    have hl2 : w.heap.size + 1 + 1 < w5.heap.size := hlt
    have HK := Lib.hid (show ∀ w', Below w5.heap.size w5 w' → SM w.heap.size m n w' from fun w' hb' =>
      ⟨(hb'.cell (p := ⟨w.heap.size + 1, 0, none⟩) hl1).trans m0, (hb'.cell (p := ⟨w.heap.size + 1, 1, none⟩) hl1).trans m1, (hb'.cell (p := ⟨w.heap.size + 1 + 1, 0, none⟩) hl2).trans n0, (hb'.cell (p := ⟨w.heap.size + 1 + 1, 1, none⟩) hl2).trans n1⟩)
    have hbq : Below w5.heap.size w5 w5.drew := (Below.refl _ _).drew
    have HS := Lib.hid (HK.out _ hbq)
    refine wp_region_held_drew (S := SM w.heap.size m n) (by kernel_rfl) HS.out (fun _ => ?_)
    refine hTake (i := 0) (d := 49) (v := .pointer (some ⟨g, 0, none⟩)) rfl rfl (by kernel_rfl) (by kernel_rfl) (by kernel_rfl) (fun _ _ _ h => h) (Or.inl ⟨rfl, ?gr⟩) HS.out ?_
    case gr =>
      rintro W' ⟨s0, s1, s2, s3⟩
      go_simp
    simp only [Act.put, List.setIfInBounds_toArray, List.set_cons_zero, List.set_cons_succ]
    refine hTake (i := 1) (d := 50) (v := .agg #[.int .i64 m.rail, .bool m.last]) rfl rfl (by kernel_rfl) (by kernel_rfl) (by kernel_rfl) (fun _ _ _ h => h) (Or.inl ⟨rfl, ?gr⟩) HS.out ?_
    case gr =>
      rintro W' ⟨s0, s1, s2, s3⟩
      go_simp
    simp only [Act.put, List.setIfInBounds_toArray, List.set_cons_zero, List.set_cons_succ]
    refine hTake (i := 3) (d := 52) (v := .agg #[.int .i64 n.rail, .bool n.last]) rfl rfl (by kernel_rfl) (by kernel_rfl) (by kernel_rfl) (fun _ _ _ h => h) (Or.inl ⟨rfl, ?gr⟩) HS.out ?_
    case gr =>
      rintro W' ⟨s0, s1, s2, s3⟩
      go_simp
    simp only [Act.put, List.setIfInBounds_toArray, List.set_cons_zero, List.set_cons_succ]
    refine hTake (i := 5) (d := 54) (v := .slice (some ⟨cb, 0, none⟩) M M) rfl rfl (by kernel_rfl) (by kernel_rfl) (by kernel_rfl) (fun _ _ _ h => h) (Or.inl ⟨rfl, ?gr⟩) HS.out ?_
    case gr =>
      rintro W' ⟨s0, s1, s2, s3⟩
      go_simp
    simp only [Act.put, List.setIfInBounds_toArray, List.set_cons_zero, List.set_cons_succ]
    refine wpAnyH_ready (rs := [2]) (by kernel_rfl) (by simp) ?_
    refine AllReadyH.cons rfl (fun K hK => ?_) AllReadyH.nil
    rw [if_pos (by rfl)]
    go_simp
    go_at_call 51
    refine (number_any m _ hm0 hm1).mono ?_
    rintro e v1 ⟨rfl, hb5⟩
    rw [HKM.out]
    replace hbq := hbq.trans (hb5.mono hbq.size)
    have HS := Lib.hid (HK.out _ hbq)
    clear hb5
    refine hK.out _ _ HS.out (fun _ => ?_)
    clear hK K
    try simp only [Act.put, List.setIfInBounds_toArray, List.set_cons_zero, List.set_cons_succ]
    refine wpAnyH_ready (rs := [4]) (by kernel_rfl) (by simp) ?_
    refine AllReadyH.cons rfl (fun K hK => ?_) AllReadyH.nil
    rw [if_pos (by rfl)]
    go_simp
    go_at_call 51
    refine (number_any n _ hn0 hn1).mono ?_
    rintro e v2 ⟨rfl, hb5⟩
    rw [HKN.out]
    replace hbq := hbq.trans (hb5.mono hbq.size)
    have HS := Lib.hid (HK.out _ hbq)
    clear hb5
    refine hK.out _ _ HS.out (fun _ => ?_)
    clear hK K
    try simp only [Act.put, List.setIfInBounds_toArray, List.set_cons_zero, List.set_cons_succ]
    refine wpAnyH_ready (rs := [6]) (by kernel_rfl) (by simp) ?_
    refine AllReadyH.cons rfl (fun K hK => ?_) AllReadyH.nil
    rw [if_pos (by rfl)]
    go_simp
    go_at_call 58
    have hnw := (HN5.out.below hbq).more hbq.size
    have hcw := HROW5.out.below hbq HROW5.out.lt
    have hpos : 0 ≤ (gC res f).1 := by rw [HX.out]; omega
    have hwb := hbq.size
    (with_reducible refine (descend_gr _ g M f t cb res p _ HMM.out hnw (Nat.le_refl _) hcw HRL.out hfM htM HBD.out HNX.out hpos).mono ?_)
    rintro e v3 ⟨⟨vd, q, rfl, hown, hpth⟩, hb5⟩
    obtain ⟨qz, hqz⟩ : ∃ z, (q.map fun x : Nat => (x : Int)) = z := ⟨_, rfl⟩
    rw [hqz] at hown
    have HQZ := Lib.hid hqz
    obtain ⟨Ad, cd, rfl, _, _, _⟩ := hown.form
    have hsl := fI_CI (hown.sl fI_len rfl)
    have HPT := Lib.hid hpth
    have hqM := hpth.pt.len.2
    have HQB := Lib.hid (show ∀ x ∈ qz, 0 ≤ x ∧ x ≤ 1000000 from fun x hx => by
      rw [← hqz] at hx
      obtain ⟨y, hy, rfl⟩ := List.mem_map.1 hx
      have := (HPT.out.pt.mM y hy).1
      omega)
    replace hbq := hbq.trans (hb5.mono hbq.size)
    have HS := Lib.hid (HK.out _ hbq)
    clear hb5 hnw hcw hpth hown hqz
    refine hK.out _ _ HS.out (fun _ => ?_)
    clear hK K
    try simp only [Act.put, List.setIfInBounds_toArray, List.set_cons_zero, List.set_cons_succ]
    refine wpAnyH_ready (rs := [7]) (by kernel_rfl) (by simp) ?_
    refine AllReadyH.cons rfl (fun K hK => ?_) AllReadyH.nil
    rw [if_pos (by rfl)]
    go_simp
    go_at_call 50
    have hlq : qz.length ≤ 100000 := by rw [← HQZ.out, List.length_map]; omega
    have hwc := hbq.size
    (with_reducible refine (moves_any Ad _ cd _ hsl hlq HQB.out).mono ?_)
    rintro e v4 ⟨⟨vm, rfl, hown⟩, hb5⟩
    have hfin := And.intro hown HPT.out
    replace hbq := hbq.trans (hb5.mono hbq.size)
    have HS := Lib.hid (HK.out _ hbq)
    clear hb5 hown hsl
    refine hK.out _ _ HS.out (fun _ => ?_)
    clear hK K
    try simp only [Act.put, List.setIfInBounds_toArray, List.set_cons_zero, List.set_cons_succ]
    refine hTake (i := 8) (d := 6) (v := vm) rfl rfl (by kernel_rfl) (by kernel_rfl) (by kernel_rfl) (fun _ _ _ h => h) (Or.inl ⟨rfl, ?gr⟩) HS.out ?_
    case gr =>
      rintro W' ⟨s0, s1, s2, s3⟩
      go_simp
    simp only [Act.put, List.setIfInBounds_toArray, List.set_cons_zero, List.set_cons_succ]
    refine hTake (i := 9) (d := 7) (v := .int .i64 0) rfl rfl (by kernel_rfl) (by kernel_rfl) (by kernel_rfl) (fun _ _ _ h => h) (Or.inl ⟨rfl, ?gr⟩) HS.out ?_
    case gr =>
      rintro W' ⟨s0, s1, s2, s3⟩
      go_simp
    simp only [Act.put, List.setIfInBounds_toArray, List.set_cons_zero, List.set_cons_succ]
    refine wpAnyH_done (by kernel_rfl) ?_ _
    have HF := Lib.hid hfin
    go_wp2_with fail
    go_ret2
    exact ⟨.inr ⟨by rw [HX.out]; omega, _, q, rfl, by rw [HQZ.out]; exact HF.out.1.lower (by have := H5.out.be.size; have := hwc; omega), HF.out.2⟩, H5.out.be.trans (hbq.mono (by have := H5.out.be.size; omega))⟩
end Go.Proofs.YtcpanfpijljeaaaGreat.DH

namespace Go.Proofs.YtcpanfpijljeaaaGreat.DH
set_option linter.unusedVariables false
set_option linter.unusedSimpArgs false
open Go.RowKit

/-- the moves of a way, in memory -/
def MR (w : World) (x : W3) : Prop := Own w 0 27 2 fE (.slice x.A x.l.length x.c) ((x.l.map fun y : Nat => (y : Int)).map moveE)
theorem MR.kp {w w' : World} {x : W3} {T : List TypeId} (h : MR w x) (hk : Kp T w w') (hT : 27 ∈ T) : MR w' x := by
  unfold MR at *
  refine h.of_blocks fun k hk2 => ?_
  obtain ⟨cur, hc⟩ := own_ty h k hk2
  exact hk.ro _ _ 27 hT hc
structure MSt (w1 : World) (S : Nat) (wr : World) (v : Value) (ml : List W3) : Prop where
  ow : Own wr S 31 1 fW v ml
  mr : ∀ x ∈ ml, MR wr x
  be : Below S w1 wr
def WaysPost (p : Pl) (M f t most : Nat) (w : World) (e : Ending) (w' : World) : Prop :=
  ∃ v ml, e = .returned (.tuple #[v, .int .i64 0]) ∧ Own w' w.heap.size 31 1 fW v ml ∧ (∀ x ∈ ml, MR w' x) ∧ Res M f t (nxN p) (wtP p) most (ml.map W3.l) ∧ ml.length ≤ most ∧ Below w.heap.size w w'
theorem own1_at {w : World} {base : Nat} {v : Value} {l : List W3} (h : Own w base 50 1 fW v l) {i : Nat} (hi : i < l.length) :
    ∃ gb c, v = .slice (some ⟨gb, 0, none⟩) l.length c ∧ gb < w.heap.size ∧ w.cell? ⟨gb, i, none⟩ = some (.slice l[i].A l[i].l.length l[i].c) := by
  rcases h.2 with ⟨_, hn⟩ | ⟨g, cap, cur, rfl, hb, hg, hn, hm, hs, ht⟩
  · omega
  · refine ⟨g, cap, rfl, lt_of_some hg, ?_⟩
    rw [cell_of_row _ g i _ 50 (0, 0) hg]
    have e := flat_get fW_len (show 0 < 1 by omega) l i
    rw [← ht, Nat.mul_one, List.getElem?_take_of_lt (by omega), List.getElem?_eq_getElem hi] at e
    rw [← Array.getElem?_toList]
    simpa [fW] using e
theorem inf31 : (Tryz.prog.info? 31).map (fun i => (i.zero, i.size, i.bytes)) = some (some (.slice none 0 0), 1, 24) := by kernel_rfl
set_option maxRecDepth 100000 in
set_option maxHeartbeats 4000000 in
theorem Ways_in (A A2 : Option Addr) (c c2 M most : Nat) (p : Pl) (m n : E) (w : World) (hM : 2 * p.rails.length = M) (hP : PlAt w w.heap.size A c A2 c2 p) (hv : Vld p) (hsm : smallB p = true) (hm : railIn p m.rail = true) (hn : railIn p n.rail = true) (hk1 : 1 ≤ most) (hk2 : most ≤ 200) :
    Calls Tryz.prog 20 #[.agg #[.slice A p.nodes.length c, .slice A2 p.rails.length c2], .agg #[.int .i64 m.rail, .bool m.last], .agg #[.int .i64 n.rail, .bool n.last], .int .i64 (most : Int)] w (WaysPost p M (keyE m) (keyE n) most w) := by
  have H1 := Lib.hid (G3st.start m n hP)
  have HV := Lib.hid hv
  have hsz := of_decide_eq_true hv.sizes
  have hM8 : M ≤ 800 := by omega
  have km := key_in hm
  have kn := key_in hn
  have hm0 := km.1
  have hn0 := kn.1
  have hm1 : m.rail ≤ 1000000 := by have := of_decide_eq_true hm; omega
  have hn1 : n.rail ≤ 1000000 := by have := of_decide_eq_true hn; omega
  have HKM := Lib.hid km.2.2
  have HKN := Lib.hid kn.2.2
  have hfM : keyE m < M := by omega
  have htM : keyE n < M := by omega
  have HRM := Lib.hid hm; have HRN := Lib.hid hn
  obtain ⟨f, hf⟩ : ∃ f, keyE m = f := ⟨_, rfl⟩
  obtain ⟨t, ht⟩ : ∃ t, keyE n = t := ⟨_, rfl⟩
  rw [hf] at HKM hfM
  rw [ht] at HKN htM
  rw [hf, ht]
  have HMM := Lib.hid hM; have HSM := Lib.hid hsm
  clear hP hv hm hn hM km kn hf ht hsm
  have b1 : ¬ ((most : Int) < 1) := by omega
  have b2 : ¬ (200 < (most : Int)) := by omega
  have b3 : decide ((most : Int) < 1) = false := by rw [decide_eq_false_iff_not]; exact b1
  have b4 : decide (200 < (most : Int)) = false := by rw [decide_eq_false_iff_not]; exact b2
  go_enter Tryz.func20, Tryz.ntmps20
  go_wp2_with fail
  refine (survey_any A A2 c c2 p _ H1.out.pl).mono ?_
  rintro e w1 ⟨hb, ⟨hv, rfl⟩ | ⟨hv, g, rfl, hg, hN⟩⟩
  · exact absurd HV.out hv
  have H2 := Lib.hid (H1.out.next hb)
  have HN := Lib.hid hN
  clear hb hv hN H1
  obtain ⟨_, _, m0, m1, n0, n1, _, _, hlt⟩ := H2.out
  go_wp2_with fail
  refine (hasRail_any _ g p m.rail _ HN.out).mono ?_
  rintro e w2 ⟨rfl, rfl⟩
  rw [HRM.out]
  go_wp2_with fail
  refine (hasRail_any _ g p n.rail _ HN.out).mono ?_
  rintro e w2 ⟨rfl, rfl⟩
  rw [HRN.out]
  go_upto_region 5 with (fail)
  have hl1 : w.heap.size + 1 < w1.heap.size := by omega
  have HK := Lib.hid (show ∀ w', Below w1.heap.size w1 w' → SM w.heap.size m n w' from fun w' hb' =>
      ⟨(hb'.cell (p := ⟨w.heap.size + 1, 0, none⟩) hl1).trans m0, (hb'.cell (p := ⟨w.heap.size + 1, 1, none⟩) hl1).trans m1, (hb'.cell (p := ⟨w.heap.size + 1 + 1, 0, none⟩) hlt).trans n0, (hb'.cell (p := ⟨w.heap.size + 1 + 1, 1, none⟩) hlt).trans n1⟩)
  have hbq : Below w1.heap.size w1 w1.drew := (Below.refl _ _).drew
  have HS := Lib.hid (HK.out _ hbq)
  refine wp_region_held_drew (S := SM w.heap.size m n) (by kernel_rfl) HS.out (fun _ => ?_)
  refine hTake (i := 0) (d := 44) (v := .pointer (some ⟨g, 0, none⟩)) rfl rfl (by kernel_rfl) (by kernel_rfl) (by kernel_rfl) (fun _ _ _ h => h) (Or.inl ⟨rfl, ?gr⟩) HS.out ?_
  case gr =>
    rintro W' ⟨s0, s1, s2, s3⟩
    go_simp
  simp only [Act.put, List.setIfInBounds_toArray, List.set_cons_zero, List.set_cons_succ]
  refine hTake (i := 1) (d := 45) (v := .agg #[.int .i64 m.rail, .bool m.last]) rfl rfl (by kernel_rfl) (by kernel_rfl) (by kernel_rfl) (fun _ _ _ h => h) (Or.inl ⟨rfl, ?gr⟩) HS.out ?_
  case gr =>
    rintro W' ⟨s0, s1, s2, s3⟩
    go_simp
  simp only [Act.put, List.setIfInBounds_toArray, List.set_cons_zero, List.set_cons_succ]
  refine hTake (i := 3) (d := 47) (v := .agg #[.int .i64 n.rail, .bool n.last]) rfl rfl (by kernel_rfl) (by kernel_rfl) (by kernel_rfl) (fun _ _ _ h => h) (Or.inl ⟨rfl, ?gr⟩) HS.out ?_
  case gr =>
    rintro W' ⟨s0, s1, s2, s3⟩
    go_simp
  simp only [Act.put, List.setIfInBounds_toArray, List.set_cons_zero, List.set_cons_succ]
  refine hTake (i := 5) (d := 49) (v := .int .i64 (most : Int)) rfl rfl (by kernel_rfl) (by kernel_rfl) (by kernel_rfl) (fun _ _ _ h => h) (Or.inl ⟨rfl, ?gr⟩) HS.out ?_
  case gr =>
    rintro W' ⟨s0, s1, s2, s3⟩
    go_simp
  simp only [Act.put, List.setIfInBounds_toArray, List.set_cons_zero, List.set_cons_succ]
  refine hTake (i := 8) (d := 52) (v := .int .i64 0) rfl rfl (by kernel_rfl) (by kernel_rfl) (by kernel_rfl) (fun _ _ _ h => h) (Or.inl ⟨rfl, ?gr⟩) HS.out ?_
  case gr =>
    rintro W' ⟨s0, s1, s2, s3⟩
    go_simp
  simp only [Act.put, List.setIfInBounds_toArray, List.set_cons_zero, List.set_cons_succ]
  refine wpAnyH_ready (rs := [2]) (by kernel_rfl) (by simp) ?_
  refine AllReadyH.cons rfl (fun K hK => ?_) AllReadyH.nil
  rw [if_pos (by rfl)]
  go_simp
  go_at_call 51
  refine (number_any m _ hm0 hm1).mono ?_
  rintro e v1 ⟨rfl, hb5⟩
  rw [HKM.out]
  replace hbq := hbq.trans (hb5.mono hbq.size)
  have HS := Lib.hid (HK.out _ hbq)
  clear hb5
  refine hK.out _ _ HS.out (fun _ => ?_)
  clear hK K
  try simp only [Act.put, List.setIfInBounds_toArray, List.set_cons_zero, List.set_cons_succ]
  refine wpAnyH_ready (rs := [4]) (by kernel_rfl) (by simp) ?_
  refine AllReadyH.cons rfl (fun K hK => ?_) AllReadyH.nil
  rw [if_pos (by rfl)]
  go_simp
  go_at_call 51
  refine (number_any n _ hn0 hn1).mono ?_
  rintro e v2 ⟨rfl, hb5⟩
  rw [HKN.out]
  replace hbq := hbq.trans (hb5.mono hbq.size)
  have HS := Lib.hid (HK.out _ hbq)
  clear hb5
  refine hK.out _ _ HS.out (fun _ => ?_)
  clear hK K
  try simp only [Act.put, List.setIfInBounds_toArray, List.set_cons_zero, List.set_cons_succ]
  refine wpAnyH_ready (rs := [6]) (by kernel_rfl) (by simp) ?_
  refine AllReadyH.cons rfl (fun K hK => ?_) AllReadyH.nil
  rw [if_pos (by rfl)]
  go_simp
  go_at_call 59
  have hnw := (HN.out.below hbq).more hbq.size
  have hwb := hbq.size
  (with_reducible refine (ways_any _ g M f t most p _ hnw HSM.out (Nat.le_refl _) HMM.out hfM htM hk1 hk2).mono ?_)
  rintro e v3 ⟨vw, wl, rfl, hend⟩
  have hb5 := hend.be
  have HEN := Lib.hid hend
  obtain ⟨Aw, cw, rfl, _, _, _⟩ := hend.ow.form
  obtain ⟨k, hkl⟩ : ∃ k, wl.length = k := ⟨_, rfl⟩
  have HKL := Lib.hid hkl
  rw [hkl]
  rw [hkl] at HEN
  have hkm : k ≤ 200 := by have := hend.le; omega
  replace hbq := hbq.trans (hb5.mono hbq.size)
  have HS := Lib.hid (HK.out _ hbq)
  clear hb5 hnw hend hkl
  refine hK.out _ _ HS.out (fun _ => ?_)
  clear hK K
  try simp only [Act.put, List.setIfInBounds_toArray, List.set_cons_zero, List.set_cons_succ]
  refine hTake (i := 7) (d := 51) (v := .int .i64 (k : Int)) rfl rfl (by kernel_rfl) (by kernel_rfl) (by kernel_rfl) (fun _ _ _ h => h) (Or.inl ⟨rfl, ?gr⟩) HS.out ?_
  case gr =>
    rintro W' ⟨s0, s1, s2, s3⟩
    go_simp
  simp only [Act.put, List.setIfInBounds_toArray, List.set_cons_zero, List.set_cons_succ]
  refine wpAnyH_done (by kernel_rfl) ?_ _
  obtain ⟨i0, hi, hz0, hz1, hz2⟩ := info_parts inf31
  have h28 : M ≤ 28 := by have := small_rails HV.out HSM.out; have := HMM.out; omega
  have HB3 := Lib.hid (H2.out.be.trans (hbq.mono H2.out.be.size))
  have hsz3 : w.heap.size ≤ v3.heap.size := HB3.out.size
  clear HK HS hbq m0 m1 n0 n1 hlt hl1 b1 b2 b3 b4 hwb
  go_wp2
  go_loopw [12, 52] (fun s12 s52 wr => ∃ (j : Nat) (ml : List W3), j ≤ k ∧ s52 = .int .i64 (j : Int) ∧ ml.map W3.l = (wl.take j).map W3.l ∧ MSt v3 v3.heap.size wr s12 ml) (fun _ s52 _ => k - (intOf s52).toNat)
  case atStart => exact ⟨0, [], Nat.zero_le _, rfl, rfl, Own.nil _ _ _ _ _, (fun x hx => by cases hx), Below.refl _ _⟩
  case round =>
    obtain ⟨j, ml, hj, rfl, hml, hst⟩ := hrel
    have HST := Lib.hid hst; have HML := Lib.hid hml
    have hwz := hst.be.size
    clear hst hml
    have hmj : ml.length = j := by have := congrArg List.length HML.out; simp at this; have := HKL.out; omega
    have HMJ := Lib.hid hmj
    clear hmj
    by_cases hjk : j < k
    · have hjw : j < wl.length := by rw [HKL.out]; exact hjk
      have how := HEN.out.ow
      obtain ⟨gb, c', e, hgb, k0⟩ := own1_at how hjw
      obtain ⟨e1, e2, e3⟩ : Aw = some ⟨gb, 0, none⟩ ∧ k = wl.length ∧ cw = c' := by simpa using e
      subst e1
      clear e e2 e3
      have k1 := (HST.out.be.cell (p := ⟨gb, j, none⟩) hgb).trans k0
      have hir := (HEN.out.wm _ (List.getElem_mem hjw)).kp (Kp.below [3] HST.out.be) (by simp)
      have hsw := HEN.out.re.sw _ (List.mem_map_of_mem (f := W3.l) (List.getElem_mem hjw))
      have hl8 := nodup_le hsw.nd hsw.lt
      have HTK := Lib.hid (show (wl.take (j + 1)).map W3.l = (wl.take j).map W3.l ++ [wl[j].l] by rw [List.take_succ_eq_append_getElem hjw, List.map_append]; rfl)
      obtain ⟨x, hx⟩ : ∃ x, wl[j] = x := ⟨_, rfl⟩
      rw [hx] at k1 hir hsw hl8 HTK
      have hmv := moves_any x.A (zs x.l) x.c wr (hir.sl (by omega)) (by rw [zs_len]; omega) (fun y hy => by
        unfold zs at hy
        obtain ⟨z, hz, rfl⟩ := List.mem_map.1 hy
        have := hsw.lt z hz
        omega)
      rw [zs_len] at hmv
      have HMV := Lib.hid hmv
      have j0 : (0 : Int) ≤ (j : Int) := by omega
      have j1 : (j : Int) < (k : Int) := by omega
      clear hx hmv hir hsw hl8 k0 how
      go_wp2_with fail
      refine HMV.out.mono ?_
      rintro e w5 ⟨⟨vm, rfl, hom⟩, hb5⟩
      obtain ⟨Am, cm, rfl, _, _, _⟩ := hom.form
      have hlm : ((zs x.l).map moveE).length = x.l.length := by simp [zs_len]
      rw [hlm] at hom ⊢
      have hmr : MR w5 ⟨Am, x.l, cm⟩ := hom.lower (Nat.zero_le _)
      have hk5 := Kp.below [27] hb5
      have how5 := (HST.out.ow.below hb5 (Nat.le_refl _))
      have hbe5 := HST.out.be.trans (hb5.mono hwz)
      have hal : Below w5.heap.size w5 (w5.alloc (.cells #[.slice Am x.l.length cm] 31)) := (Below.refl _ _).alloc (Nat.le_refl _) _
      have hs5 := hb5.size
      have HO6 := Lib.hid (how5.alloc (.cells #[.slice Am x.l.length cm] 31))
      have HR6 := Lib.hid (show ∀ y ∈ ml ++ [⟨Am, x.l, cm⟩], MR (w5.alloc (.cells #[.slice Am x.l.length cm] 31)) y from fun y hy => by
        rcases List.mem_append.1 hy with hy | hy
        · exact ((HST.out.mr y hy).kp hk5 (by simp)).kp (Kp.below [27] hal) (by simp)
        · obtain rfl : y = ⟨Am, x.l, cm⟩ := by simpa using hy
          exact hmr.kp (Kp.below [27] hal) (by simp))
      have HB6 := Lib.hid (hbe5.trans (hal.mono hbe5.size))
      have HSL := Lib.hid (Sl.new (f := fW) (size := 1) w5 31 (⟨Am, x.l, cm⟩ : W3) _ rfl)
      have hz6 : v3.heap.size ≤ w5.heap.size := by omega
      clear hom hmr hk5 how5 hbe5 hal hb5 hlm k1
      go_wp2_with (at_builtin; go_must (refine wpList_app _ rfl (.tmp 56) (.tmp 59) _ rfl v3.heap.size 31 i0 _ 1 24 Tryz.underlying53 hi hz0 hz1 hz2 rfl (by omega) fW_len fW_one _ ml rfl HO6.out _ _ [⟨Am, x.l, cm⟩] 1 rfl HSL.out (by rw [HMJ.out]; unfold maxLen; simp only [List.length_cons, List.length_nil]; omega) (by rw [HMJ.out]; simp only [List.length_cons, List.length_nil]; omega) (by simp; omega) (fun _ => .inr ⟨_, rfl⟩) ?_); intro v7 w7 ho7 hgr7 hat7 hne7)
      have hk7 : Kp [27] (w5.alloc (.cells #[.slice Am x.l.length cm] 31)) w7 := Kp.grown hgr7 fun b hb cur ty hty he => by
        obtain ⟨c2', hc⟩ := own_ty HO6.out b hb
        rw [hc] at he
        injection he with he; injection he with _ he
        subst he; simp at hty
      have HST7 := Lib.hid (show MSt v3 v3.heap.size w7 v7 (ml ++ [⟨Am, x.l, cm⟩]) from ⟨ho7, fun y hy => (HR6.out y hy).kp hk7 (by simp), HB6.out.grown hgr7 (by simp; omega) (fun b hb => (HO6.out.lt b hb).1)⟩)
      have HTK2 := Lib.hid (show (ml ++ [(⟨Am, x.l, cm⟩ : W3)]).map W3.l = (wl.take (j + 1)).map W3.l by rw [HTK.out, List.map_append, HML.out]; rfl)
      clear ho7 hgr7 hat7 hne7 hk7
      go_roundw
      case rel => exact ⟨j + 1, _, by omega, by go_num, HTK2.out, HST7.out⟩
      case measure => simp [intOf]; omega
    · obtain rfl : j = k := by omega
      have HQ := Lib.hid (show ml.map W3.l = wl.map W3.l by rw [HML.out, List.take_of_length_le (by rw [HKL.out]; exact Nat.le_refl _)])
      go_wp2_with fail
      go_ret2
      exact ⟨_, ml, rfl, HST.out.ow.lower hsz3, HST.out.mr, by rw [HQ.out]; exact HEN.out.re, by rw [HMJ.out]; have := HEN.out.le; have := HKL.out; omega, HB3.out.trans (HST.out.be.mono hsz3)⟩
end Go.Proofs.YtcpanfpijljeaaaGreat.DH

namespace Go.Proofs.YtcpanfpijljeaaaGreat.DH
set_option linter.unusedVariables false
set_option linter.unusedSimpArgs false
open Go.RowKit

set_option maxRecDepth 100000 in
set_option maxHeartbeats 2000000 in
theorem Ways_bad (A A2 : Option Addr) (c c2 M : Nat) (most : Int) (p : Pl) (m n : E) (w : World) (hM : 2 * p.rails.length = M) (hP : PlAt w w.heap.size A c A2 c2 p) (hv : Vld p) (hm : railIn p m.rail = true) (hn : railIn p n.rail = true) (hbad : most < 1 ∨ 200 < most) :
    Calls Tryz.prog 20 #[.agg #[.slice A p.nodes.length c, .slice A2 p.rails.length c2], .agg #[.int .i64 m.rail, .bool m.last], .agg #[.int .i64 n.rail, .bool n.last], .int .i64 most] w (fun e w' => e = .returned (.tuple #[.slice none 0 0, .int .i64 2]) ∧ Below w.heap.size w w') := by
  have H1 := Lib.hid (G3st.start m n hP)
  have HV := Lib.hid hv
  have hsz := of_decide_eq_true hv.sizes
  have hM8 : M ≤ 800 := by omega
  have km := key_in hm
  have kn := key_in hn
  have hm0 := km.1
  have hn0 := kn.1
  have hm1 : m.rail ≤ 1000000 := by have := of_decide_eq_true hm; omega
  have hn1 : n.rail ≤ 1000000 := by have := of_decide_eq_true hn; omega
  have HKM := Lib.hid km.2.2
  have HKN := Lib.hid kn.2.2
  have hfM : keyE m < M := by omega
  have htM : keyE n < M := by omega
  have HRM := Lib.hid hm; have HRN := Lib.hid hn
  have HMM := Lib.hid hM
  clear hP hv hm hn hM km kn
  rcases hbad with hbad | hbad
  · have b3 : decide (most < 1) = true := by rw [decide_eq_true_iff]; exact hbad
    go_enter Tryz.func20, Tryz.ntmps20
    go_wp2_with fail
    refine (survey_any A A2 c c2 p _ H1.out.pl).mono ?_
    rintro e w1 ⟨hb, ⟨hv, rfl⟩ | ⟨hv, g, rfl, hg, hN⟩⟩
    · exact absurd HV.out hv
    have H2 := Lib.hid (H1.out.next hb)
    have HN := Lib.hid hN
    clear hb hv hN H1
    obtain ⟨_, _, m0, m1, n0, n1, _, _, hlt⟩ := H2.out
    go_wp2_with fail
    refine (hasRail_any _ g p m.rail _ HN.out).mono ?_
    rintro e w2 ⟨rfl, rfl⟩
    rw [HRM.out]
    go_wp2_with fail
    refine (hasRail_any _ g p n.rail _ HN.out).mono ?_
    rintro e w2 ⟨rfl, rfl⟩
    rw [HRN.out]
    go_wp2_with fail
    go_ret2
    exact ⟨rfl, H2.out.be⟩
  · have b1 : ¬ (most < 1) := by omega
    have b3 : decide (most < 1) = false := by rw [decide_eq_false_iff_not]; exact b1
    have b4 : decide (200 < most) = true := by rw [decide_eq_true_iff]; exact hbad
    go_enter Tryz.func20, Tryz.ntmps20
    go_wp2_with fail
    refine (survey_any A A2 c c2 p _ H1.out.pl).mono ?_
    rintro e w1 ⟨hb, ⟨hv, rfl⟩ | ⟨hv, g, rfl, hg, hN⟩⟩
    · exact absurd HV.out hv
    have H2 := Lib.hid (H1.out.next hb)
    have HN := Lib.hid hN
    clear hb hv hN H1
    obtain ⟨_, _, m0, m1, n0, n1, _, _, hlt⟩ := H2.out
    go_wp2_with fail
    refine (hasRail_any _ g p m.rail _ HN.out).mono ?_
    rintro e w2 ⟨rfl, rfl⟩
    rw [HRM.out]
    go_wp2_with fail
    refine (hasRail_any _ g p n.rail _ HN.out).mono ?_
    rintro e w2 ⟨rfl, rfl⟩
    rw [HRN.out]
    go_wp2_with fail
    go_ret2
    exact ⟨rfl, H2.out.be⟩
end Go.Proofs.YtcpanfpijljeaaaGreat.DH
