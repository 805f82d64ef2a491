/- Contracts: the specification. -/
import Derived.Test.YtekambdnmaompaaGreatG3
import Derived.Test.YtekambdnmaompaaGreatJ2
import Derived.Test.YtekambdnmaompaaGreatJ3
import Derived.Test.YtekambdnmaompaaGreatJ9
namespace Go.Proofs.YtekambdnmaompaaGreat.SW
set_option linter.unusedVariables false
set_option linter.unusedSimpArgs false
open Go.RowKit

/-- a rail of a valid plan, and its line -/
structure RlOk (p : Pl) (r : Nat) (L : List S) : Prop where
  hr : r < p.rails.length
  h1 : nodeIx p p.rails[r].frm
  h2 : nodeIx p p.rails[r].to
  hs : p.rails[r].shape.length ≤ 40
  eL : lineOf p p.rails[r] = L
  hR : allR L
  hok : okL L = true
theorem RlOk.len {p : Pl} {r : Nat} {L : List S} (h : RlOk p r L) : L.length = (p.rails[r]'h.hr).shape.length + 2 := by
  have e := congrArg List.length h.eL
  rw [← e]; simp [lineOf]
theorem RlOk.le {p : Pl} {r : Nat} {L : List S} (h : RlOk p r L) : 2 ≤ L.length ∧ L.length ≤ 42 := by
  have := h.len; have := h.hs; omega
theorem Vld.rl {p : Pl} (h : Vld p) {r : Nat} (hr : r < p.rails.length) : RlOk p r (lineOf p p.rails[r]) := by
  obtain ⟨h1, h2⟩ := h.rail hr
  have h3 := railB_ix h1
  exact ⟨hr, h3.1, h3.2.1, by have := h3.2.2; omega, rfl, allR_line (spots_ok h.nodes) h1, h2⟩
theorem box_first4 (w : World) (a b c d : Array Value) (t1 t2 t3 t4 : TypeId) (i : Nat) : ((((w.alloc (.cells a t1)).alloc (.cells b t2)).alloc (.cells c t3)).alloc (.cells d t4)).cell? ⟨w.heap.size, i, none⟩ = a[i]? :=
  cell_keep1 (cell_keep1 (cell_keep1 (cell_new1 w a t1 i) (by simp)) (by simp; omega)) (by simp; omega)
theorem box_frz4 (w : World) (a b c d : Array Value) (t1 t2 t3 t4 : TypeId) (i : Nat) : ((((w.alloc (.cells a t1)).alloc (.cells b t2)).alloc (.cells c t3)).alloc (.cells d t4)).frozen? ⟨w.heap.size + 1 + 1, i, none⟩ = false ∧ ((((w.alloc (.cells a t1)).alloc (.cells b t2)).alloc (.cells c t3)).alloc (.cells d t4)).frozen? ⟨w.heap.size + 1 + 1 + 1, i, none⟩ = false := by
  have h1 := frozen_new1 ((w.alloc (.cells a t1)).alloc (.cells b t2)) c t3 i
  have h2 := frozen_new1 (((w.alloc (.cells a t1)).alloc (.cells b t2)).alloc (.cells c t3)) d t4 i
  simp only [World.size_alloc] at h1 h2
  exact ⟨frozen_keep1 h1 (by simp), h2⟩
theorem c2far {w : World} {g b i : Nat} {u v : Value} (h : g ≠ b) : ((w.setCell ⟨g, 0, none⟩ u).setCell ⟨g, 1, none⟩ v).drew.cell? ⟨b, i, none⟩ = w.cell? ⟨b, i, none⟩ :=
  (World.cell?_setCell_far _ ⟨g, 1, none⟩ ⟨b, i, none⟩ _ h).trans (World.cell?_setCell_far _ ⟨g, 0, none⟩ ⟨b, i, none⟩ _ h)
theorem c4far {w : World} {g h b i : Nat} {u v x y : Value} (hg : g ≠ b) (hh : h ≠ b) : ((((w.setCell ⟨g, 0, none⟩ u).setCell ⟨g, 1, none⟩ v).setCell ⟨h, 0, none⟩ x).setCell ⟨h, 1, none⟩ y).drew.cell? ⟨b, i, none⟩ = w.cell? ⟨b, i, none⟩ :=
  ((World.cell?_setCell_far _ ⟨h, 1, none⟩ ⟨b, i, none⟩ _ hh).trans (World.cell?_setCell_far _ ⟨h, 0, none⟩ ⟨b, i, none⟩ _ hh)).trans (c2far hg)
set_option maxRecDepth 100000 in
set_option maxHeartbeats 2000000 in
theorem rEnds_any (A A2 : Option Addr) (c c2 : Nat) (p : Pl) (r k : Nat) (L : List S) (w : World) (hP : PlAt w w.heap.size A c A2 c2 p) (h : RlOk p r L) (hk : k + 1 < L.length) :
    Calls Tryz.prog 58 #[.agg #[.slice A p.nodes.length c, .slice A2 p.rails.length c2], .agg #[.int .i64 r, .int .i64 k]] w fun e w' =>
      e = .returned (.tuple #[.agg #[.int .i64 (sAt L k).x, .int .i64 (sAt L k).y], .agg #[.int .i64 (sAt L (k + 1)).x, .int .i64 (sAt L (k + 1)).y]]) ∧ Below w.heap.size w w' := by
  have hl := h.le
  obtain ⟨s, hs⟩ : ∃ z, sAt L k = z := ⟨_, rfl⟩
  obtain ⟨t, ht⟩ : ∃ z, sAt L (k + 1) = z := ⟨_, rfl⟩
  rw [hs, ht]
  have HST := Lib.hid (And.intro hs ht)
  clear hs ht
  have HL := Lib.hid (fun (W : World) (hW : PlAt W W.heap.size A c A2 c2 p) => rLine_any A A2 c c2 p r W hW h.hr h.h1 h.h2 h.hs)
  rw [h.eL] at HL
  have hb4 := ((((Below.refl _ w).alloc (Nat.le_refl _) (.cells #[.slice A p.nodes.length c, .slice A2 p.rails.length c2] 25)).alloc (by simp) (.cells #[.int .i64 (r : Int), .int .i64 (k : Int)] 34)).alloc (by simp; omega) (.cells #[.int .i64 0, .int .i64 0] 82)).alloc (by simp; omega) (.cells #[.int .i64 0, .int .i64 0] 82)
  have HPB := Lib.hid ((hP.below hb4).more hb4.size)
  have hbx := fun i => box_cells4 w #[.slice A p.nodes.length c, .slice A2 p.rails.length c2] #[.int .i64 (r : Int), .int .i64 (k : Int)] #[.int .i64 0, .int .i64 0] #[.int .i64 0, .int .i64 0] 25 34 82 82 i
  have hbf := fun i => box_first4 w #[.slice A p.nodes.length c, .slice A2 p.rails.length c2] #[.int .i64 (r : Int), .int .i64 (k : Int)] #[.int .i64 0, .int .i64 0] #[.int .i64 0, .int .i64 0] 25 34 82 82 i
  have hfz := fun i => box_frz4 w #[.slice A p.nodes.length c, .slice A2 p.rails.length c2] #[.int .i64 (r : Int), .int .i64 (k : Int)] #[.int .i64 0, .int .i64 0] #[.int .i64 0, .int .i64 0] 25 34 82 82 i
  have hz : ((((w.alloc (.cells #[.slice A p.nodes.length c, .slice A2 p.rails.length c2] 25)).alloc (.cells #[.int .i64 (r : Int), .int .i64 (k : Int)] 34)).alloc (.cells #[.int .i64 0, .int .i64 0] 82)).alloc (.cells #[.int .i64 0, .int .i64 0] 82)).heap.size = w.heap.size + 4 := by simp
  obtain ⟨W1, hW1⟩ : ∃ z, ((((w.alloc (.cells #[.slice A p.nodes.length c, .slice A2 p.rails.length c2] 25)).alloc (.cells #[.int .i64 (r : Int), .int .i64 (k : Int)] 34)).alloc (.cells #[.int .i64 0, .int .i64 0] 82)).alloc (.cells #[.int .i64 0, .int .i64 0] 82)) = z := ⟨_, rfl⟩
  rw [hW1] at hb4 HPB hbx hz
  have HFZ := Lib.hid (show ∀ i, W1.frozen? ⟨w.heap.size + 1 + 1, i, none⟩ = false ∧ W1.frozen? ⟨w.heap.size + 1 + 1 + 1, i, none⟩ = false from fun i => by rw [← hW1]; exact hfz i)
  clear hfz
  have f0 : W1.cell? ⟨w.heap.size, 0, none⟩ = some (.slice A p.nodes.length c) := by rw [← hW1]; exact hbf 0
  have f1 : W1.cell? ⟨w.heap.size, 1, none⟩ = some (.slice A2 p.rails.length c2) := by rw [← hW1]; exact hbf 1
  have g0 := (hbx 0).1
  have g1 := (hbx 1).1
  clear hbf
  have hrw : Rw W1 (w.heap.size + 1 + 1) 82 #[.int .i64 0, .int .i64 0] ∧ Rw W1 (w.heap.size + 1 + 1 + 1) 82 #[.int .i64 0, .int .i64 0] := by
    rw [← hW1]
    have q1 := (Rw.new ((w.alloc (.cells #[.slice A p.nodes.length c, .slice A2 p.rails.length c2] 25)).alloc (.cells #[.int .i64 (r : Int), .int .i64 (k : Int)] 34)) #[.int .i64 0, .int .i64 0] 82).alloc (.cells #[.int .i64 0, .int .i64 0] 82)
    have q2 := Rw.new (((w.alloc (.cells #[.slice A p.nodes.length c, .slice A2 p.rails.length c2] 25)).alloc (.cells #[.int .i64 (r : Int), .int .i64 (k : Int)] 34)).alloc (.cells #[.int .i64 0, .int .i64 0] 82)) #[.int .i64 0, .int .i64 0] 82
    simp only [World.size_alloc] at q1 q2
    exact ⟨q1, q2⟩
  have HB4 := Lib.hid hb4
  have HBX := Lib.hid hbx
  clear hb4 hbx hP h
  go_enter Tryz.func58, Tryz.ntmps58
  go_wp2_with fail
  refine (HL.out _ HPB.out).mono ?_
  rintro e w1 ⟨v, rfl, ho, hb1⟩
  obtain ⟨A', c', rfl, hc1, hc2, _⟩ := ho.form
  have hsl := ho.sl fS_len rfl
  obtain ⟨b, o, rfl, hb, p0, p1⟩ := spot_at hsl (i := k) (by omega)
  obtain ⟨b', o', e', _, q0, q1⟩ := spot_at hsl (i := k + 1) (by omega)
  obtain ⟨rfl, rfl⟩ : b = b' ∧ o = o' := by simpa using e'
  rw [← sAt_eq (by omega)] at p0 p1 q0 q1
  have hbl := (ho.lt b rfl).1
  have hg2 : w.heap.size + 1 + 1 ≠ b := by omega
  have hg1 : w.heap.size + 1 + 1 ≠ w.heap.size + 1 := by omega
  have hg3 : w.heap.size + 1 + 1 + 1 ≠ b := by omega
  have hg4 : w.heap.size + 1 + 1 + 1 ≠ w.heap.size + 1 := by omega
  have HG := Lib.hid (And.intro hg1 (And.intro hg2 (And.intro hg3 hg4)))
  clear hg1 hg2 hg3 hg4
  obtain ⟨n, hn⟩ : ∃ z, L.length = z := ⟨_, rfl⟩
  rw [hn] at hc1 hk hl ⊢
  have hz1 := hb1.size
  have x0 := (hb1.cell (p := ⟨w.heap.size + 1, 0, none⟩) (by simp; omega)).trans (HBX.out 0).1
  have x1 := (hb1.cell (p := ⟨w.heap.size + 1, 1, none⟩) (by simp; omega)).trans (HBX.out 1).1
  have y0 := (hb1.cell (p := ⟨w.heap.size + 1 + 1, 0, none⟩) (by simp; omega)).trans (HBX.out 0).2.1
  have y1 := (hb1.cell (p := ⟨w.heap.size + 1 + 1, 1, none⟩) (by simp; omega)).trans (HBX.out 1).2.1
  have u0 := (hb1.cell (p := ⟨w.heap.size + 1 + 1 + 1, 0, none⟩) (by simp; omega)).trans (HBX.out 0).2.2.1
  have u1 := (hb1.cell (p := ⟨w.heap.size + 1 + 1 + 1, 1, none⟩) (by simp; omega)).trans (HBX.out 1).2.2.1
  have z0 := (hb1.frozen (p := ⟨w.heap.size + 1 + 1, 0, none⟩) (by simp; omega)).trans (HFZ.out 0).1
  have z1 := (hb1.frozen (p := ⟨w.heap.size + 1 + 1, 1, none⟩) (by simp; omega)).trans (HFZ.out 1).1
  have z2 := (hb1.frozen (p := ⟨w.heap.size + 1 + 1 + 1, 0, none⟩) (by simp; omega)).trans (HFZ.out 0).2
  have z3 := (hb1.frozen (p := ⟨w.heap.size + 1 + 1 + 1, 1, none⟩) (by simp; omega)).trans (HFZ.out 1).2
  have HB14 := Lib.hid (show Below w.heap.size W1 w1 from hb1.mono (by omega))
  have HRW := Lib.hid (And.intro (hrw.1.below hb1 (by omega)) (hrw.2.below hb1 (by omega)))
  have hwk : IntKind.i64.wrap ((k : Int) + 1) = (k : Int) + 1 := by rw [IntKind.wrap_i64]; omega
  have hk1 : (k : Int) + 1 < (n : Int) := by omega
  have hk0 : (0 : Int) ≤ (k : Int) := by omega
  have hk2 : (k : Int) < (n : Int) := by omega
  have hk3 : (0 : Int) ≤ (k : Int) + 1 := by omega
  rw [HST.out.1] at p0 p1
  rw [HST.out.2] at q0 q1
  clear hn hb1 ho hsl e' hW1 hrw
  go_upto_region 2 with (fail)
  go_region_held3 (fun w' => w'.cell? ⟨w.heap.size + 1, 1, none⟩ = some (.int .i64 (k : Int)) ∧ w'.cell? ⟨b, o + k * 2, none⟩ = some (.int .i64 s.x) ∧ w'.cell? ⟨b, o + k * 2 + 1, none⟩ = some (.int .i64 s.y) ∧ w'.cell? ⟨b, o + (k + 1) * 2, none⟩ = some (.int .i64 t.x) ∧ w'.cell? ⟨b, o + (k + 1) * 2 + 1, none⟩ = some (.int .i64 t.y)) (first | (go_keep; done) | (refine ⟨?_, ?_, ?_, ?_, ?_⟩ <;> first | (rw [c2far HG.out.1]; assumption) | (rw [c2far HG.out.2.1]; assumption) | (rw [c4far HG.out.1 HG.out.2.2.2]; assumption) | (rw [c4far HG.out.2.1 HG.out.2.2.1]; assumption)) | go_goals) (fail)
  all_goals
    go_wp2
    (try simp only [Exit.inBlock, Exit.then])
    have r2 := ((HRW.out.1.set2 (x := .int .i64 s.x) (y := .int .i64 s.y)).far2 (k := w.heap.size + 1 + 1 + 1) (x := .int .i64 t.x) (y := .int .i64 t.y) (by omega)).drew
    have r3 := ((HRW.out.2.far2 (k := w.heap.size + 1 + 1) (x := .int .i64 s.x) (y := .int .i64 s.y) (by omega)).set2 (x := .int .i64 t.x) (y := .int .i64 t.y)).drew
    refine bodyPost_ret (res_cc rfl _ _ _ _ _ _ _ _ _ _ rfl rfl r2 r3 Tryz.underlying82 rfl (by kernel_rfl) Tryz.underlying82 rfl (by kernel_rfl)) rfl ⟨rfl, ?_⟩
    exact ((((((HB4.out.trans HB14.out).setCell (by simp; omega) _).setCell (by simp; omega) _).setCell (by simp; omega) _).setCell (by simp; omega) _)).drew
set_option maxHeartbeats 1000000 in
theorem rStrips_any (A A2 : Option Addr) (c c2 : Nat) (p : Pl) (r n : Nat) (w : World) (hP : PlAt w w.heap.size A c A2 c2 p) (hr : r < p.rails.length) (hn : p.rails[r].shape.length + 1 = n) (hs : n ≤ 100000) :
    Calls Tryz.prog 20 #[.agg #[.slice A p.nodes.length c, .slice A2 p.rails.length c2], .int .i64 r] w fun e w' => e = .returned (.int .i64 (n : Int)) ∧ Below w.heap.size w w' := by
  obtain ⟨b, off, A', c', rfl, hb, _, hc1, hc2, k0, k1, k2, k3, k4⟩ := hP.rail hr
  have hrc := hP.rc; have hrm := hP.rm; have hnc := hP.nc; have hnm := hP.nm
  obtain ⟨m, hm⟩ : ∃ z, p.rails[r].shape.length = z := ⟨_, rfl⟩
  rw [hm] at hn hc1 k2
  subst hn
  have hbe := (Below.refl w.heap.size w).alloc (Nat.le_refl _) (.cells #[.slice A p.nodes.length c, .slice (some ⟨b, off, none⟩) p.rails.length c2] 25)
  have k2' := (hbe.cell (p := ⟨b, off + r * 5 + 2, none⟩) hb).trans k2
  obtain ⟨N, hN⟩ : ∃ z, p.rails.length = z := ⟨_, rfl⟩
  rw [hN] at hr hrc hbe k2' ⊢
  have g1 : (0 : Int) ≤ (r : Int) := by omega
  have g2 : (r : Int) < (N : Int) := by omega
  have HB := Lib.hid hbe
  clear hP hbe hm hN k0 k1 k2 k3 k4
  go_enter Tryz.func20, Tryz.ntmps20
  go_wp2
  go_ret
  exact ⟨rfl, HB.out⟩
def profB (s : S) : Bool := inB s.x 1 2000 && inB s.y 0 1500
theorem profB_pr (s : S) : profB s = prB s := by
  unfold profB prB inB
  by_cases h1 : s.x < 1 <;> by_cases h2 : 2000 < s.x <;> by_cases h3 : s.y < 0 <;> by_cases h4 : 1500 < s.y <;> simp [h1, h2, h3, h4] <;> omega
set_option maxHeartbeats 1000000 in
theorem rProfile_any (s : S) (w : World) :
    Calls Tryz.prog 29 #[.agg #[.int .i64 s.x, .int .i64 s.y]] w fun e w' => e = .returned (.bool (prB s)) ∧ Below w.heap.size w w' := by
  rw [← profB_pr]
  have HV := Lib.hid (show profB s = (inB s.x 1 2000 && inB s.y 0 1500) from rfl)
  rw [HV.out]
  have H1 := Lib.hid (rin_any s.x 1 2000)
  have H2 := Lib.hid (rin_any s.y 0 1500)
  obtain ⟨b1, h1⟩ : ∃ z, inB s.x 1 2000 = z := ⟨_, rfl⟩
  obtain ⟨b2, h2⟩ : ∃ z, inB s.y 0 1500 = z := ⟨_, rfl⟩
  rw [h1] at H1; rw [h2] at H2; rw [h1, h2]
  clear h1 h2 HV
  cases b1 with
  | true =>
    go_enter Tryz.func29, Tryz.ntmps29
    go_wp2_with fail
    refine (H1.out _).mono ?_
    rintro e w1 ⟨rfl, rfl⟩
    go_wp2_with fail
    refine (H2.out _).mono ?_
    rintro e w1 ⟨rfl, rfl⟩
    go_wp2
    go_ret
    exact ⟨rfl, (Below.refl _ _).alloc (Nat.le_refl _) _⟩
  | false =>
    go_enter Tryz.func29, Tryz.ntmps29
    go_wp2_with fail
    refine (H1.out _).mono ?_
    rintro e w1 ⟨rfl, rfl⟩
    go_wp2
    go_ret
    exact ⟨rfl, (Below.refl _ _).alloc (Nat.le_refl _) _⟩
end Go.Proofs.YtekambdnmaompaaGreat.SW

namespace Go.Proofs.YtekambdnmaompaaGreat.SW
set_option linter.unusedVariables false
set_option linter.unusedSimpArgs false
open Go.RowKit

def segN (p : Pl) (r : Int) : Nat := ((p.rails[r.toNat]?).map (fun x => x.shape.length)).getD 0
def stripB (p : Pl) (r k : Int) : Bool := railIn p r && inB k 0 (segN p r)
theorem segN_eq {p : Pl} {r : Nat} (h : r < p.rails.length) : segN p (r : Int) = p.rails[r].shape.length := by simp [segN, h]
theorem two_box (w : World) (a b : Array Value) (t1 t2 : TypeId) (i : Nat) : ((w.alloc (.cells a t1)).alloc (.cells b t2)).cell? ⟨w.heap.size, i, none⟩ = a[i]? ∧ ((w.alloc (.cells a t1)).alloc (.cells b t2)).cell? ⟨w.heap.size + 1, i, none⟩ = b[i]? := by
  have h := cell_new1 (w.alloc (.cells a t1)) b t2 i
  rw [World.size_alloc] at h
  exact ⟨cell_keep1 (cell_new1 w a t1 i) (by simp), h⟩
/-- two boxes of two cells each -/
def P22 (k : Nat) (a b c d : Value) (w' : World) : Prop := w'.cell? ⟨k, 0, none⟩ = some a ∧ w'.cell? ⟨k, 1, none⟩ = some b ∧ w'.cell? ⟨k + 1, 0, none⟩ = some c ∧ w'.cell? ⟨k + 1, 1, none⟩ = some d
theorem P22.start (w : World) (a b c d : Value) (t1 t2 : TypeId) : P22 w.heap.size a b c d ((w.alloc (.cells #[a, b] t1)).alloc (.cells #[c, d] t2)) :=
  have h := fun i => two_box w #[a, b] #[c, d] t1 t2 i
  ⟨(h 0).1, (h 1).1, (h 0).2, (h 1).2⟩
theorem P22.keep {k B : Nat} {a b c d : Value} {w w' : World} (h : P22 k a b c d w) (hb : Below B w w') (hk : k + 1 < B) : P22 k a b c d w' := by
  obtain ⟨h0, h1, h2, h3⟩ := h
  exact ⟨(hb.cell (p := ⟨k, 0, none⟩) (by simp; omega)).trans h0, (hb.cell (p := ⟨k, 1, none⟩) (by simp; omega)).trans h1, (hb.cell (p := ⟨k + 1, 0, none⟩) (by simp; omega)).trans h2, (hb.cell (p := ⟨k + 1, 1, none⟩) (by simp; omega)).trans h3⟩
set_option maxRecDepth 100000 in
set_option maxHeartbeats 4000000 in
theorem rStrip_any (A A2 : Option Addr) (c c2 : Nat) (p : Pl) (r k : Int) (w : World) (hP : PlAt w w.heap.size A c A2 c2 p) (hV : Vld p) :
    Calls Tryz.prog 25 #[.agg #[.slice A p.nodes.length c, .slice A2 p.rails.length c2], .agg #[.int .i64 r, .int .i64 k]] w fun e w' => e = .returned (.bool (stripB p r k)) ∧ Below w.heap.size w w' := by
  have hrc := hP.rc; have hrm := hP.rm
  obtain ⟨N, hN⟩ : ∃ z, p.rails.length = z := ⟨_, rfl⟩
  obtain ⟨M, hM⟩ : ∃ z, p.nodes.length = z := ⟨_, rfl⟩
  rw [hN] at hrc
  rw [hM, hN]
  have hb1 := ((Below.refl _ w).alloc (Nat.le_refl _) (.cells #[.slice A M c, .slice A2 N c2] 25)).alloc (by simp) (.cells #[.int .i64 r, .int .i64 k] 34)
  have hp := P22.start w (.slice A M c) (.slice A2 N c2) (.int .i64 r) (.int .i64 k) 25 34
  have hz : ((w.alloc (.cells #[.slice A M c, .slice A2 N c2] 25)).alloc (.cells #[.int .i64 r, .int .i64 k] 34)).heap.size = w.heap.size + 2 := by simp
  obtain ⟨W1, hW1⟩ : ∃ z, (w.alloc (.cells #[.slice A M c, .slice A2 N c2] 25)).alloc (.cells #[.int .i64 r, .int .i64 k] 34) = z := ⟨_, rfl⟩
  rw [hW1] at hb1 hp hz
  have HK := Lib.hid (show ∀ wx, Below W1.heap.size W1 wx → P22 w.heap.size (.slice A M c) (.slice A2 N c2) (.int .i64 r) (.int .i64 k) wx from fun wx h => hp.keep h (by omega))
  have HB1 := Lib.hid hb1
  have HPB := Lib.hid (show ∀ wx, Below W1.heap.size W1 wx → PlAt wx wx.heap.size A c A2 c2 p from fun wx h => ((hP.below hb1).below (h.mono hb1.size)).more (Nat.le_trans hb1.size h.size))
  have HI1 := Lib.hid (show ∀ w, Calls Tryz.prog 64 #[.int .i64 r, .int .i64 0, .int .i64 ((p.rails.length : Int) - 1)] w fun e w' => e = .returned (.bool (railIn p r)) ∧ w = w' from fun w => by
    have := rin_any r 0 ((p.rails.length : Int) - 1) w
    rwa [show inB r 0 ((p.rails.length : Int) - 1) = railIn p r by unfold inB railIn; rw [← Bool.decide_and]; exact decide_eq_decide.2 (by omega)] at this)
  have HI2 := Lib.hid (show ∀ w, Calls Tryz.prog 64 #[.int .i64 k, .int .i64 0, .int .i64 (segN p r : Nat)] w fun e w' => e = .returned (.bool (inB k 0 (segN p r))) ∧ w = w' from fun w => rin_any k 0 _ w)
  have HV := Lib.hid (show stripB p r k = (railIn p r && inB k 0 (segN p r)) from rfl)
  rw [HV.out]
  obtain ⟨ib, hib⟩ : ∃ z, inB k 0 (segN p r) = z := ⟨_, rfl⟩
  rw [hib] at HI2
  rw [hib]
  have w1' : IntKind.i64.wrap ((N : Int) - 1) = (N : Int) - 1 := by rw [IntKind.wrap_i64]; omega
  cases hri : railIn p r with
  | true =>
    have h2 := of_decide_eq_true hri
    obtain ⟨n, rfl⟩ := Int.eq_ofNat_of_zero_le h2.1
    have hnl : n < p.rails.length := by omega
    have hsg := (Vld.rl hV hnl).hs
    have HST := Lib.hid (fun (W : World) (hW : PlAt W W.heap.size A c A2 c2 p) => rStrips_any A A2 c c2 p n (p.rails[n].shape.length + 1) W hW hnl rfl (by omega))
    obtain ⟨m, hm⟩ : ∃ z, p.rails[n].shape.length = z := ⟨_, rfl⟩
    rw [segN_eq hnl, hm] at HI2
    rw [hm] at HST hsg
    rw [hri] at HI1
    rw [Bool.true_and]
    rw [hN] at HI1
    rw [hM, hN] at HST
    have w2' : IntKind.i64.wrap (m : Int) = (m : Int) := by rw [IntKind.wrap_i64]; omega
    clear hp hb1 hP hN hM hri h2 hm hnl hib hrc hV
    go_enter Tryz.func25, Tryz.ntmps25
    go_upto_region 1 with (fail)
    clear hW1
    have hbq : Below W1.heap.size W1 W1.drew := (Below.refl _ _).drew
    have HS := Lib.hid (HK.out _ hbq)
    refine wp_region_held_drew (S := P22 w.heap.size (.slice A M c) (.slice A2 N c2) (.int .i64 n) (.int .i64 k)) (by kernel_rfl) HS.out (fun _ => ?_)
    refine hTake (i := 0) (d := 5) (v := .pointer (some ⟨w.heap.size + 1, 0, none⟩)) rfl rfl (by kernel_rfl) (by kernel_rfl) (by kernel_rfl) (fun _ _ _ h => h) (Or.inl ⟨rfl, ?gr⟩) HS.out ?_
    case gr =>
      rintro W' ⟨s0, s1, s2, s3⟩
      go_simp
    simp only [Act.put, List.setIfInBounds_toArray, List.set_cons_zero, List.set_cons_succ]
    refine hTake (i := 1) (d := 6) (v := .int .i64 n) rfl rfl (by kernel_rfl) (by kernel_rfl) (by kernel_rfl) (fun _ _ _ h => h) (Or.inl ⟨rfl, ?gr⟩) HS.out ?_
    case gr =>
      rintro W' ⟨s0, s1, s2, s3⟩
      go_simp
    simp only [Act.put, List.setIfInBounds_toArray, List.set_cons_zero, List.set_cons_succ]
    refine hTake (i := 2) (d := 7) (v := .pointer (some ⟨w.heap.size, 1, none⟩)) rfl rfl (by kernel_rfl) (by kernel_rfl) (by kernel_rfl) (fun _ _ _ h => h) (Or.inl ⟨rfl, ?gr⟩) HS.out ?_
    case gr =>
      rintro W' ⟨s0, s1, s2, s3⟩
      go_simp
    simp only [Act.put, List.setIfInBounds_toArray, List.set_cons_zero, List.set_cons_succ]
    refine hTake (i := 3) (d := 8) (v := .slice A2 N c2) rfl rfl (by kernel_rfl) (by kernel_rfl) (by kernel_rfl) (fun _ _ _ h => h) (Or.inl ⟨rfl, ?gr⟩) HS.out ?_
    case gr =>
      rintro W' ⟨s0, s1, s2, s3⟩
      go_simp
    simp only [Act.put, List.setIfInBounds_toArray, List.set_cons_zero, List.set_cons_succ]
    refine hTake (i := 4) (d := 9) (v := .int .i64 N) rfl rfl (by kernel_rfl) (by kernel_rfl) (by kernel_rfl) (fun _ _ _ h => h) (Or.inl ⟨rfl, ?gr⟩) HS.out ?_
    case gr =>
      rintro W' ⟨s0, s1, s2, s3⟩
      go_simp
    simp only [Act.put, List.setIfInBounds_toArray, List.set_cons_zero, List.set_cons_succ]
    refine hTake (i := 5) (d := 10) (v := .int .i64 ((N : Int) - 1)) rfl rfl (by kernel_rfl) (by kernel_rfl) (by kernel_rfl) (fun _ _ _ h => h) (Or.inl ⟨rfl, ?gr⟩) HS.out ?_
    case gr =>
      rintro W' ⟨s0, s1, s2, s3⟩
      go_simp
    simp only [Act.put, List.setIfInBounds_toArray, List.set_cons_zero, List.set_cons_succ]
    refine wpAnyH_ready (rs := [6]) (by kernel_rfl) (by simp) ?_
    refine AllReadyH.cons rfl (fun K hK => ?_) AllReadyH.nil
    rw [if_pos (by rfl)]
    go_simp
    go_at_call 64
    (with_reducible refine (HI1.out _).mono ?_)
    rintro e v1 ⟨rfl, rfl⟩
    refine hK.out _ _ HS.out (fun _ => ?_)
    clear hK K
    try simp only [Act.put, List.setIfInBounds_toArray, List.set_cons_zero, List.set_cons_succ]
    refine hTake (i := 7) (d := 12) (v := .bool true) rfl rfl (by kernel_rfl) (by kernel_rfl) (by kernel_rfl) (fun _ _ _ h => h) (Or.inl ⟨rfl, ?gr⟩) HS.out ?_
    case gr =>
      rintro W' ⟨s0, s1, s2, s3⟩
      go_simp
    simp only [Act.put, List.setIfInBounds_toArray, List.set_cons_zero, List.set_cons_succ]
    refine hTake (i := 8) (d := 13) (v := .pointer (some ⟨w.heap.size + 1, 1, none⟩)) rfl rfl (by kernel_rfl) (by kernel_rfl) (by kernel_rfl) (fun _ _ _ h => h) (Or.inl ⟨rfl, ?gr⟩) HS.out ?_
    case gr =>
      rintro W' ⟨s0, s1, s2, s3⟩
      go_simp
    simp only [Act.put, List.setIfInBounds_toArray, List.set_cons_zero, List.set_cons_succ]
    refine hTake (i := 9) (d := 14) (v := .int .i64 k) rfl rfl (by kernel_rfl) (by kernel_rfl) (by kernel_rfl) (fun _ _ _ h => h) (Or.inl ⟨rfl, ?gr⟩) HS.out ?_
    case gr =>
      rintro W' ⟨s0, s1, s2, s3⟩
      go_simp
    simp only [Act.put, List.setIfInBounds_toArray, List.set_cons_zero, List.set_cons_succ]
    refine hTake (i := 10) (d := 15) (v := .agg #[.slice A M c, .slice A2 N c2]) rfl rfl (by kernel_rfl) (by kernel_rfl) (by kernel_rfl) (fun _ _ _ h => h) (Or.inl ⟨rfl, ?gr⟩) HS.out ?_
    case gr =>
      rintro W' ⟨s0, s1, s2, s3⟩
      go_simp
    simp only [Act.put, List.setIfInBounds_toArray, List.set_cons_zero, List.set_cons_succ]
    refine hTake (i := 11) (d := 16) (v := .pointer (some ⟨w.heap.size + 1, 0, none⟩)) rfl rfl (by kernel_rfl) (by kernel_rfl) (by kernel_rfl) (fun _ _ _ h => h) (Or.inl ⟨rfl, ?gr⟩) HS.out ?_
    case gr =>
      rintro W' ⟨s0, s1, s2, s3⟩
      go_simp
    simp only [Act.put, List.setIfInBounds_toArray, List.set_cons_zero, List.set_cons_succ]
    refine hTake (i := 12) (d := 17) (v := .int .i64 n) rfl rfl (by kernel_rfl) (by kernel_rfl) (by kernel_rfl) (fun _ _ _ h => h) (Or.inl ⟨rfl, ?gr⟩) HS.out ?_
    case gr =>
      rintro W' ⟨s0, s1, s2, s3⟩
      go_simp
    simp only [Act.put, List.setIfInBounds_toArray, List.set_cons_zero, List.set_cons_succ]
    refine wpAnyH_ready (rs := [13]) (by kernel_rfl) (by simp) ?_
    refine AllReadyH.cons rfl (fun K hK => ?_) AllReadyH.nil
    rw [if_pos (by rfl)]
    go_simp
    go_at_call 20
    (with_reducible refine (HST.out _ (HPB.out _ hbq)).mono ?_)
    rintro e v2 ⟨rfl, hb5⟩
    replace hbq := hbq.trans (hb5.mono hbq.size)
    have HS := Lib.hid (HK.out _ hbq)
    clear hb5
    refine hK.out _ _ HS.out (fun _ => ?_)
    clear hK K
    try simp only [Act.put, List.setIfInBounds_toArray, List.set_cons_zero, List.set_cons_succ]
    refine hTake (i := 14) (d := 19) (v := .int .i64 (m : Int)) rfl rfl (by kernel_rfl) (by kernel_rfl) (by kernel_rfl) (fun _ _ _ h => h) (Or.inl ⟨rfl, ?gr⟩) HS.out ?_
    case gr =>
      rintro W' ⟨s0, s1, s2, s3⟩
      go_simp
    simp only [Act.put, List.setIfInBounds_toArray, List.set_cons_zero, List.set_cons_succ]
    refine wpAnyH_ready (rs := [15]) (by kernel_rfl) (by simp) ?_
    refine AllReadyH.cons rfl (fun K hK => ?_) AllReadyH.nil
    rw [if_pos (by rfl)]
    go_simp
    go_at_call 64
    (with_reducible refine (HI2.out _).mono ?_)
    rintro e v3 ⟨rfl, rfl⟩
    refine hK.out _ _ HS.out (fun _ => ?_)
    clear hK K
    try simp only [Act.put, List.setIfInBounds_toArray, List.set_cons_zero, List.set_cons_succ]
    refine hTake (i := 16) (d := 21) (v := .bool ib) rfl rfl (by kernel_rfl) (by kernel_rfl) (by kernel_rfl) (fun _ _ _ h => h) (Or.inl ⟨rfl, ?gr⟩) HS.out ?_
    case gr =>
      rintro W' ⟨s0, s1, s2, s3⟩
      go_simp
    simp only [Act.put, List.setIfInBounds_toArray, List.set_cons_zero, List.set_cons_succ]
    refine hTake (i := 17) (d := 4) (v := .bool ib) rfl rfl (by kernel_rfl) (by kernel_rfl) (by kernel_rfl) (fun _ _ _ h => h) (Or.inl ⟨rfl, ?gr⟩) HS.out ?_
    case gr =>
      rintro W' ⟨s0, s1, s2, s3⟩
      go_simp
    simp only [Act.put, List.setIfInBounds_toArray, List.set_cons_zero, List.set_cons_succ]
    refine wpAnyH_done (by kernel_rfl) ?_ _
    go_wp2
    go_ret
    exact ⟨rfl, HB1.out.trans (hbq.mono HB1.out.size)⟩
  | false =>
    rw [hri] at HI1
    rw [Bool.false_and]
    rw [hN] at HI1
    clear hp hb1 hP hN hM hri hrc hib hV
    go_enter Tryz.func25, Tryz.ntmps25
    go_upto_region 1 with (fail)
    clear hW1
    have hbq : Below W1.heap.size W1 W1.drew := (Below.refl _ _).drew
    have HS := Lib.hid (HK.out _ hbq)
    refine wp_region_held_drew (S := P22 w.heap.size (.slice A M c) (.slice A2 N c2) (.int .i64 r) (.int .i64 k)) (by kernel_rfl) HS.out (fun _ => ?_)
    refine hTake (i := 0) (d := 5) (v := .pointer (some ⟨w.heap.size + 1, 0, none⟩)) rfl rfl (by kernel_rfl) (by kernel_rfl) (by kernel_rfl) (fun _ _ _ h => h) (Or.inl ⟨rfl, ?gr⟩) HS.out ?_
    case gr =>
      rintro W' ⟨s0, s1, s2, s3⟩
      go_simp
    simp only [Act.put, List.setIfInBounds_toArray, List.set_cons_zero, List.set_cons_succ]
    refine hTake (i := 1) (d := 6) (v := .int .i64 r) rfl rfl (by kernel_rfl) (by kernel_rfl) (by kernel_rfl) (fun _ _ _ h => h) (Or.inl ⟨rfl, ?gr⟩) HS.out ?_
    case gr =>
      rintro W' ⟨s0, s1, s2, s3⟩
      go_simp
    simp only [Act.put, List.setIfInBounds_toArray, List.set_cons_zero, List.set_cons_succ]
    refine hTake (i := 2) (d := 7) (v := .pointer (some ⟨w.heap.size, 1, none⟩)) rfl rfl (by kernel_rfl) (by kernel_rfl) (by kernel_rfl) (fun _ _ _ h => h) (Or.inl ⟨rfl, ?gr⟩) HS.out ?_
    case gr =>
      rintro W' ⟨s0, s1, s2, s3⟩
      go_simp
    simp only [Act.put, List.setIfInBounds_toArray, List.set_cons_zero, List.set_cons_succ]
    refine hTake (i := 3) (d := 8) (v := .slice A2 N c2) rfl rfl (by kernel_rfl) (by kernel_rfl) (by kernel_rfl) (fun _ _ _ h => h) (Or.inl ⟨rfl, ?gr⟩) HS.out ?_
    case gr =>
      rintro W' ⟨s0, s1, s2, s3⟩
      go_simp
    simp only [Act.put, List.setIfInBounds_toArray, List.set_cons_zero, List.set_cons_succ]
    refine hTake (i := 4) (d := 9) (v := .int .i64 N) rfl rfl (by kernel_rfl) (by kernel_rfl) (by kernel_rfl) (fun _ _ _ h => h) (Or.inl ⟨rfl, ?gr⟩) HS.out ?_
    case gr =>
      rintro W' ⟨s0, s1, s2, s3⟩
      go_simp
    simp only [Act.put, List.setIfInBounds_toArray, List.set_cons_zero, List.set_cons_succ]
    refine hTake (i := 5) (d := 10) (v := .int .i64 ((N : Int) - 1)) rfl rfl (by kernel_rfl) (by kernel_rfl) (by kernel_rfl) (fun _ _ _ h => h) (Or.inl ⟨rfl, ?gr⟩) HS.out ?_
    case gr =>
      rintro W' ⟨s0, s1, s2, s3⟩
      go_simp
    simp only [Act.put, List.setIfInBounds_toArray, List.set_cons_zero, List.set_cons_succ]
    refine wpAnyH_ready (rs := [6]) (by kernel_rfl) (by simp) ?_
    refine AllReadyH.cons rfl (fun K hK => ?_) AllReadyH.nil
    rw [if_pos (by rfl)]
    go_simp
    go_at_call 64
    (with_reducible refine (HI1.out _).mono ?_)
    rintro e v1 ⟨rfl, rfl⟩
    refine hK.out _ _ HS.out (fun _ => ?_)
    clear hK K
    try simp only [Act.put, List.setIfInBounds_toArray, List.set_cons_zero, List.set_cons_succ]
    refine hTake (i := 7) (d := 12) (v := .bool false) rfl rfl (by kernel_rfl) (by kernel_rfl) (by kernel_rfl) (fun _ _ _ h => h) (Or.inl ⟨rfl, ?gr⟩) HS.out ?_
    case gr =>
      rintro W' ⟨s0, s1, s2, s3⟩
      go_simp
    simp only [Act.put, List.setIfInBounds_toArray, List.set_cons_zero, List.set_cons_succ]
    refine hTake (i := 8) (d := 13) (v := undef) rfl rfl (by kernel_rfl) (by kernel_rfl) (by kernel_rfl) (fun _ _ _ h => h) (Or.inr ⟨rfl, rfl⟩) HS.out ?_
    simp only [Act.put, List.setIfInBounds_toArray, List.set_cons_zero, List.set_cons_succ]
    refine hTake (i := 9) (d := 14) (v := undef) rfl rfl (by kernel_rfl) (by kernel_rfl) (by kernel_rfl) (fun _ _ _ h => h) (Or.inr ⟨rfl, rfl⟩) HS.out ?_
    simp only [Act.put, List.setIfInBounds_toArray, List.set_cons_zero, List.set_cons_succ]
    refine hTake (i := 10) (d := 15) (v := undef) rfl rfl (by kernel_rfl) (by kernel_rfl) (by kernel_rfl) (fun _ _ _ h => h) (Or.inr ⟨rfl, rfl⟩) HS.out ?_
    simp only [Act.put, List.setIfInBounds_toArray, List.set_cons_zero, List.set_cons_succ]
    refine hTake (i := 11) (d := 16) (v := undef) rfl rfl (by kernel_rfl) (by kernel_rfl) (by kernel_rfl) (fun _ _ _ h => h) (Or.inr ⟨rfl, rfl⟩) HS.out ?_
    simp only [Act.put, List.setIfInBounds_toArray, List.set_cons_zero, List.set_cons_succ]
    refine hTake (i := 12) (d := 17) (v := undef) rfl rfl (by kernel_rfl) (by kernel_rfl) (by kernel_rfl) (fun _ _ _ h => h) (Or.inr ⟨rfl, rfl⟩) HS.out ?_
    simp only [Act.put, List.setIfInBounds_toArray, List.set_cons_zero, List.set_cons_succ]
    refine hTake (i := 13) (d := 18) (v := undef) rfl rfl (by kernel_rfl) (by kernel_rfl) (by kernel_rfl) (fun _ _ _ h => h) (Or.inr ⟨rfl, rfl⟩) HS.out ?_
    simp only [Act.put, List.setIfInBounds_toArray, List.set_cons_zero, List.set_cons_succ]
    refine hTake (i := 14) (d := 19) (v := undef) rfl rfl (by kernel_rfl) (by kernel_rfl) (by kernel_rfl) (fun _ _ _ h => h) (Or.inr ⟨rfl, rfl⟩) HS.out ?_
    simp only [Act.put, List.setIfInBounds_toArray, List.set_cons_zero, List.set_cons_succ]
    refine hTake (i := 15) (d := 20) (v := undef) rfl rfl (by kernel_rfl) (by kernel_rfl) (by kernel_rfl) (fun _ _ _ h => h) (Or.inr ⟨rfl, rfl⟩) HS.out ?_
    simp only [Act.put, List.setIfInBounds_toArray, List.set_cons_zero, List.set_cons_succ]
    refine hTake (i := 16) (d := 21) (v := .bool false) rfl rfl (by kernel_rfl) (by kernel_rfl) (by kernel_rfl) (fun _ _ _ h => h) (Or.inl ⟨rfl, ?gr⟩) HS.out ?_
    case gr =>
      rintro W' ⟨s0, s1, s2, s3⟩
      go_simp
    simp only [Act.put, List.setIfInBounds_toArray, List.set_cons_zero, List.set_cons_succ]
    refine hTake (i := 17) (d := 4) (v := .bool false) rfl rfl (by kernel_rfl) (by kernel_rfl) (by kernel_rfl) (fun _ _ _ h => h) (Or.inl ⟨rfl, ?gr⟩) HS.out ?_
    case gr =>
      rintro W' ⟨s0, s1, s2, s3⟩
      go_simp
    simp only [Act.put, List.setIfInBounds_toArray, List.set_cons_zero, List.set_cons_succ]
    refine wpAnyH_done (by kernel_rfl) ?_ _
    go_wp2
    go_ret
    exact ⟨rfl, HB1.out.trans (hbq.mono HB1.out.size)⟩

theorem rows3 (w : World) (a b c : Array Value) (t1 t2 t3 : TypeId) : Rw (((w.alloc (.cells a t1)).alloc (.cells b t2)).alloc (.cells c t3)) w.heap.size t1 a ∧ Rw (((w.alloc (.cells a t1)).alloc (.cells b t2)).alloc (.cells c t3)) (w.heap.size + 1) t2 b ∧
    Rw (((w.alloc (.cells a t1)).alloc (.cells b t2)).alloc (.cells c t3)) (w.heap.size + 1 + 1) t3 c := by
  have q1 := ((Rw.new w a t1).alloc (.cells b t2)).alloc (.cells c t3)
  have q2 := (Rw.new (w.alloc (.cells a t1)) b t2).alloc (.cells c t3)
  have q3 := Rw.new ((w.alloc (.cells a t1)).alloc (.cells b t2)) c t3
  simp only [World.size_alloc] at q2 q3
  exact ⟨q1, q2, q3⟩
theorem rows2 (w : World) (a b : Array Value) (t1 t2 : TypeId) : Rw ((w.alloc (.cells a t1)).alloc (.cells b t2)) w.heap.size t1 a ∧ Rw ((w.alloc (.cells a t1)).alloc (.cells b t2)) (w.heap.size + 1) t2 b := by
  have q1 := (Rw.new w a t1).alloc (.cells b t2)
  have q2 := Rw.new (w.alloc (.cells a t1)) b t2
  simp only [World.size_alloc] at q2
  exact ⟨q1, q2⟩
set_option maxRecDepth 100000 in
set_option maxHeartbeats 4000000 in
theorem rWithin_any (A A2 : Option Addr) (c c2 : Nat) (p : Pl) (r k r2 k2 : Nat) (L L2 : List S) (d : Int) (w : World) (hP : PlAt w w.heap.size A c A2 c2 p) (h : RlOk p r L) (hk : k + 1 < L.length) (h2 : RlOk p r2 L2) (hk2 : k2 + 1 < L2.length) (hd0 : 0 ≤ d) (hd1 : d ≤ 1000000) :
    Calls Tryz.prog 27 #[.agg #[.slice A p.nodes.length c, .slice A2 p.rails.length c2], .agg #[.int .i64 r, .int .i64 k], .agg #[.int .i64 r2, .int .i64 k2], .int .i64 d] w fun e w' =>
      e = .returned (.bool (nearL (sAt L k) (sAt L (k + 1)) (sAt L2 k2) (sAt L2 (k2 + 1)) d false)) ∧ Below w.heap.size w w' := by
  have HE1 := Lib.hid (fun (W : World) (hW : PlAt W W.heap.size A c A2 c2 p) => rEnds_any A A2 c c2 p r k L W hW h hk)
  have HE2 := Lib.hid (fun (W : World) (hW : PlAt W W.heap.size A c A2 c2 p) => rEnds_any A A2 c c2 p r2 k2 L2 W hW h2 hk2)
  have HN := Lib.hid (fun (W : World) => near_any (sAt L k) (sAt L (k + 1)) (sAt L2 k2) (sAt L2 (k2 + 1)) d false W (h.hR k (by omega)) (h.hR (k + 1) hk) (h2.hR k2 (by omega)) (h2.hR (k2 + 1) hk2) hd0 hd1)
  obtain ⟨s, hs⟩ : ∃ z, sAt L k = z := ⟨_, rfl⟩
  obtain ⟨t, ht⟩ : ∃ z, sAt L (k + 1) = z := ⟨_, rfl⟩
  obtain ⟨u, hu⟩ : ∃ z, sAt L2 k2 = z := ⟨_, rfl⟩
  obtain ⟨v, hv⟩ : ∃ z, sAt L2 (k2 + 1) = z := ⟨_, rfl⟩
  rw [hs, ht, hu, hv] at HN
  rw [hs, ht] at HE1
  rw [hu, hv] at HE2
  rw [hs, ht, hu, hv]
  have hb3 := (((Below.refl _ w).alloc (Nat.le_refl _) (.cells #[.slice A p.nodes.length c, .slice A2 p.rails.length c2] 25)).alloc (by simp) (.cells #[.int .i64 (r : Int), .int .i64 (k : Int)] 34)).alloc (by simp; omega) (.cells #[.int .i64 (r2 : Int), .int .i64 (k2 : Int)] 34)
  have HPB := Lib.hid (show ∀ wx, Below w.heap.size w wx → PlAt wx wx.heap.size A c A2 c2 p from fun wx h => (hP.below h).more h.size)
  obtain ⟨r0, _, r2'⟩ := rows3 w #[.slice A p.nodes.length c, .slice A2 p.rails.length c2] #[.int .i64 (r : Int), .int .i64 (k : Int)] #[.int .i64 (r2 : Int), .int .i64 (k2 : Int)] 25 34 34
  have HR3 := Lib.hid (And.intro r0 r2')
  have HB3 := Lib.hid hb3
  clear hb3 r0 r2' hP h h2 hs ht hu hv hk hk2
  go_enter Tryz.func27, Tryz.ntmps27
  go_wp2_with fail
  refine (HE1.out _ (HPB.out _ HB3.out)).mono ?_
  rintro e w1 ⟨rfl, hb1⟩
  have z1 := hb1.size
  simp only [World.size_alloc] at z1 hb1
  have a0 := HR3.out.1.below hb1 (by omega)
  have a2 := HR3.out.2.below hb1 (by omega)
  have e0 := a0.cell 0
  have e1 := a0.cell 1
  have e2 := a2.cell 0
  have e3 := a2.cell 1
  have hb13 := HB3.out.trans (hb1.mono (by omega))
  have hb15 := (hb13.alloc (by omega) (.cells #[.int .i64 s.x, .int .i64 s.y] 82)).alloc (by simp; omega) (.cells #[.int .i64 t.x, .int .i64 t.y] 82)
  obtain ⟨q1, q2⟩ := rows2 w1 #[.int .i64 s.x, .int .i64 s.y] #[.int .i64 t.x, .int .i64 t.y] 82 82
  have HQ := Lib.hid (And.intro q1 q2)
  have HB15 := Lib.hid hb15
  have HB13 := Lib.hid hb13
  clear hb1 a0 a2 q1 q2 hb15 hb13
  have l0 : w.heap.size < w1.heap.size := by omega
  have l1 : w.heap.size < w1.heap.size + 1 := by omega
  have l2 : w.heap.size + 1 + 1 < w1.heap.size := by omega
  have l3 : w.heap.size + 1 + 1 < w1.heap.size + 1 := by omega
  go_wp2_with fail
  refine (HE2.out _ (HPB.out _ HB15.out)).mono ?_
  rintro e w2 ⟨rfl, hb2⟩
  have z2 := hb2.size
  simp only [World.size_alloc] at z2 hb2
  have a0 := HQ.out.1.below hb2 (by omega)
  have a1 := HQ.out.2.below hb2 (by omega)
  have e4 := a0.cell 0
  have e5 := a0.cell 1
  have e6 := a1.cell 0
  have e7 := a1.cell 1
  have hb25 := HB15.out.trans (hb2.mono (by omega))
  have HB27 := Lib.hid ((hb25.alloc (by omega) (.cells #[.int .i64 u.x, .int .i64 u.y] 82)).alloc (by simp; omega) (.cells #[.int .i64 v.x, .int .i64 v.y] 82))
  clear hb2 a0 a1 hb25
  have l4 : w1.heap.size < w2.heap.size := by omega
  have l5 : w1.heap.size < w2.heap.size + 1 := by omega
  have l6 : w1.heap.size + 1 < w2.heap.size := by omega
  have l7 : w1.heap.size + 1 < w2.heap.size + 1 := by omega
  go_wp2_with fail
  refine (HN.out _).mono ?_
  rintro e w3 ⟨rfl, hb3⟩
  have HB := Lib.hid (HB27.out.trans (hb3.mono HB27.out.size))
  clear hb3
  go_wp2
  go_ret
  exact ⟨rfl, HB.out⟩
end Go.Proofs.YtekambdnmaompaaGreat.SW

namespace Go.Proofs.YtekambdnmaompaaGreat.SW
set_option linter.unusedVariables false
set_option linter.unusedSimpArgs false
open Go.RowKit

theorem sepSeg_nn (s a b : S) : 0 ≤ (sepSeg s a b).under := by
  unfold sepSeg sepSpot
  split
  · simp
  · split
    · simp
    · unfold sq2
      have h1 := sq_nn (b.x - a.x)
      have h2 := sq_nn (b.y - a.y)
      simp only
      omega
end Go.Proofs.YtekambdnmaompaaGreat.SW

namespace Go.Proofs.YtekambdnmaompaaGreat.SW
set_option linter.unusedVariables false
set_option linter.unusedSimpArgs false
open Go.RowKit

end Go.Proofs.YtekambdnmaompaaGreat.SW

namespace Go.Proofs.YtekambdnmaompaaGreat.SW
set_option linter.unusedVariables false
set_option linter.unusedSimpArgs false
open Go.RowKit

/-- the bends among the first spots of a strip -/
def bendsTo (L : List S) (k : Nat) : Nat → List S
  | 0 => []
  | j + 1 => bendsTo L k j ++ bendAt L (k + j)
theorem bendsTo_len (L : List S) (k : Nat) : ∀ j, (bendsTo L k j).length ≤ j
  | 0 => by simp [bendsTo]
  | j + 1 => by
    have h1 := bendsTo_len L k j
    have h2 := bendAt_len L (k + j)
    simp only [bendsTo, List.length_append]
    omega
theorem isBend_ref {L : List S} {j : Nat} (h : j + 2 < L.length) : isBendB L (j + 1) = (decide (¬ ((sAt L (j + 1)).x - (sAt L j).x) * ((sAt L (j + 2)).y - (sAt L (j + 1)).y) = ((sAt L (j + 1)).y - (sAt L j).y) * ((sAt L (j + 2)).x - (sAt L (j + 1)).x)) ||
    decide (((sAt L (j + 1)).x - (sAt L j).x) * ((sAt L (j + 2)).x - (sAt L (j + 1)).x) + ((sAt L (j + 1)).y - (sAt L j).y) * ((sAt L (j + 2)).y - (sAt L (j + 1)).y) < 0)) := by
  unfold isBendB
  rw [if_neg (by omega)]
  simp only [Nat.add_sub_cancel, side_turn]
  congr 1
  apply decide_eq_decide.2
  have e : turnV (sAt L j) (sAt L (j + 1)) (sAt L (j + 2)) = ((sAt L (j + 1)).x - (sAt L j).x) * ((sAt L (j + 2)).y - (sAt L (j + 1)).y) - ((sAt L (j + 1)).y - (sAt L j).y) * ((sAt L (j + 2)).x - (sAt L (j + 1)).x) := by
    unfold turnV; grind
  rw [show j + 1 + 1 = j + 2 from rfl, e]
  generalize ((sAt L (j + 1)).x - (sAt L j).x) * ((sAt L (j + 2)).y - (sAt L (j + 1)).y) = p
  generalize ((sAt L (j + 1)).y - (sAt L j).y) * ((sAt L (j + 2)).x - (sAt L (j + 1)).x) = q
  rcases sgn_vals (p - q) with ⟨h1, h2⟩ | ⟨h1, h2⟩ | ⟨h1, h2⟩ <;> rw [h1] <;> constructor <;> intro h <;> omega
theorem vi {a b : Int} (h : a = b) : Value.int .i64 a = .int .i64 b := by rw [h]
set_option maxRecDepth 100000 in
set_option maxHeartbeats 8000000 in
theorem rBends_any (A A2 : Option Addr) (c c2 : Nat) (p : Pl) (r k : Nat) (L : List S) (w : World) (hP : PlAt w w.heap.size A c A2 c2 p) (h : RlOk p r L) (hk : k + 1 < L.length) :
    Calls Tryz.prog 68 #[.agg #[.slice A p.nodes.length c, .slice A2 p.rails.length c2], .agg #[.int .i64 r, .int .i64 k]] w fun e w' =>
      ∃ v, e = .returned v ∧ Own w' w.heap.size 82 2 fS v (bendAt L k ++ bendAt L (k + 1)) ∧ Below w.heap.size w w' := by
  have hle := h.le
  obtain ⟨i0, hi, hz0, hz1, hz2⟩ := info_parts info82
  have HL := Lib.hid (fun (W : World) (hW : PlAt W W.heap.size A c A2 c2 p) => rLine_any A A2 c c2 p r W hW h.hr h.h1 h.h2 h.hs)
  rw [h.eL] at HL
  have HR := Lib.hid h.hR
  have HBT := Lib.hid (show bendsTo L k 2 = bendAt L k ++ bendAt L (k + 1) from rfl)
  rw [← HBT.out]
  have hb1 := ((Below.refl _ w).alloc (Nat.le_refl _) (.cells #[.slice A p.nodes.length c, .slice A2 p.rails.length c2] 25)).alloc (by simp) (.cells #[.int .i64 (r : Int), .int .i64 (k : Int)] 34)
  obtain ⟨q1, q2⟩ := rows2 w #[.slice A p.nodes.length c, .slice A2 p.rails.length c2] #[.int .i64 (r : Int), .int .i64 (k : Int)] 25 34
  have hz : ((w.alloc (.cells #[.slice A p.nodes.length c, .slice A2 p.rails.length c2] 25)).alloc (.cells #[.int .i64 (r : Int), .int .i64 (k : Int)] 34)).heap.size = w.heap.size + 2 := by simp
  have HPB := Lib.hid ((hP.below hb1).more hb1.size)
  obtain ⟨W1, hW1⟩ : ∃ z, (w.alloc (.cells #[.slice A p.nodes.length c, .slice A2 p.rails.length c2] 25)).alloc (.cells #[.int .i64 (r : Int), .int .i64 (k : Int)] 34) = z := ⟨_, rfl⟩
  rw [hW1] at hb1 hz q1 q2 HPB
  have HQ := Lib.hid (show ∀ wx, Below W1.heap.size W1 wx → Rw wx (w.heap.size + 1) 34 #[.int .i64 (r : Int), .int .i64 (k : Int)] from fun wx hx => q2.below hx (by omega))
  have HB1 := Lib.hid hb1
  have d0 := q1.cell 0; have d1 := q1.cell 1; have d2 := q2.cell 0
  have hkk : k ≤ 41 := by omega
  clear hb1 q1 q2 hP h
  go_enter Tryz.func68, Tryz.ntmps68
  go_wp2_with fail
  refine (HL.out _ HPB.out).mono ?_
  rintro e w1 ⟨vL, rfl, ho, hbl⟩
  obtain ⟨A', c', rfl, hc1, hc2, _⟩ := ho.form
  have hsl := ho.sl fS_len rfl
  obtain ⟨b, o, rfl, hb, _, _⟩ := spot_at hsl (i := 0) (by omega)
  have hzl := hbl.size
  have HSL := Lib.hid (show ∀ wx, Below w1.heap.size w1 wx → ∀ j, j < L.length → wx.cell? ⟨b, o + j * 2, none⟩ = some (.int .i64 (sAt L j).x) ∧ wx.cell? ⟨b, o + j * 2 + 1, none⟩ = some (.int .i64 (sAt L j).y) from fun wx hx j hj => by
    obtain ⟨b', o', e', _, p0, p1⟩ := spot_at hsl hj
    obtain ⟨rfl, rfl⟩ : b = b' ∧ o = o' := by simpa using e'
    rw [sAt_eq hj]
    exact ⟨(hx.cell (p := ⟨b, o + j * 2, none⟩) hb).trans p0, (hx.cell (p := ⟨b, o + j * 2 + 1, none⟩) hb).trans p1⟩)
  obtain ⟨n, hn⟩ : ∃ z, L.length = z := ⟨_, rfl⟩
  rw [hn] at hc1 hk hle HSL ⊢
  have HN := Lib.hid hn
  have HQ2 := Lib.hid (show ∀ wx, Below w1.heap.size w1 wx → Rw wx (w.heap.size + 1) 34 #[.int .i64 (r : Int), .int .i64 (k : Int)] from fun wx hx => HQ.out wx (hbl.trans (hx.mono hzl)))
  have HB2 := Lib.hid (HB1.out.trans (hbl.mono (by omega)))
  have d3 := (HQ2.out _ (Below.refl _ _)).cell 1
  clear ho hsl hb hbl hn d0 d1 d2
  go_wp2
  go_loopw [6, 7] (fun s6 s7 wr => ∃ i : Nat, Own wr w1.heap.size 82 2 fS s6 (bendsTo L k i) ∧ s7 = .int .i64 ((k + i : Nat) : Int) ∧ i ≤ 2 ∧ Below w1.heap.size w1 wr) (fun s6 s7 _ => k + 2 - (intOf s7).toNat)
  case atStart => exact ⟨0, Own.nil _ _ _ _ _, rfl, by omega, Below.refl _ _⟩
  case round =>
    obtain ⟨i, hown, rfl, hi2, hb⟩ := hrel
    have HO := Lib.hid hown
    have HB := Lib.hid hb
    have d3 := (HQ2.out _ hb).cell 1
    have hzr := hb.size
    have hlen := bendsTo_len L k i
    clear hown hb
    have wk : IntKind.i64.wrap ((k : Int) + 1) = (k : Int) + 1 := by rw [IntKind.wrap_i64]; omega
    have wn : IntKind.i64.wrap ((n : Int) - 1) = (n : Int) - 1 := by rw [IntKind.wrap_i64]; omega
    by_cases hlt : i < 2
    · obtain ⟨m, hm⟩ : ∃ m, k + i = m := ⟨_, rfl⟩
      have HBS := Lib.hid (show bendsTo L k (i + 1) = bendsTo L k i ++ bendAt L m from by rw [← hm]; rfl)
      have hmk : (m : Int) ≤ (k : Int) + 1 := by omega
      have hmn : m < n := by omega
      have HM := Lib.hid hm
      rw [hm]
      clear hm
      have wm : IntKind.i64.wrap ((m : Int) + 1) = (m : Int) + 1 := by rw [IntKind.wrap_i64]; omega
      by_cases he : m = 0 ∨ m + 1 = n
      · have HE := Lib.hid (show bendAt L m = [] from by unfold bendAt isBendB; rw [HN.out, if_pos he]; rfl)
        rcases he with he | he
        · subst he
          go_wp2
          go_roundw
          case rel => exact ⟨i + 1, by rw [HBS.out, HE.out, List.append_nil]; exact HO.out, vi (by have := HM.out; omega), by omega, HB.out⟩
          case measure => have := HM.out; simp [intOf] <;> omega
        · have hm0 : ((m : Int) == 0) = false := by simp; omega
          have hm1 : ((m : Int) == (n : Int) - 1) = true := by simp; omega
          go_wp2
          go_roundw
          case rel => exact ⟨i + 1, by rw [HBS.out, HE.out, List.append_nil]; exact HO.out, vi (by have := HM.out; omega), by omega, HB.out⟩
          case measure => have := HM.out; simp [intOf] <;> omega
      · obtain ⟨j, rfl⟩ : ∃ j, m = j + 1 := ⟨m - 1, by omega⟩
        have hj2 : j + 2 < n := by omega
        have HV := Lib.hid (isBend_ref (L := L) (j := j) (by rw [HN.out]; exact hj2))
        have i0' := HR.out j (by rw [HN.out]; omega)
        have i1' := HR.out (j + 1) (by rw [HN.out]; omega)
        have i2' := HR.out (j + 2) (by rw [HN.out]; omega)
        obtain ⟨p0, p1⟩ := HSL.out _ HB.out j (by omega)
        obtain ⟨p2, p3⟩ := HSL.out _ HB.out (j + 1) (by omega)
        obtain ⟨p4, p5⟩ := HSL.out _ HB.out (j + 2) (by omega)
        have HB1s := Lib.hid (show bendAt L (j + 1) = if isBendB L (j + 1) then [sAt L (j + 1)] else [] from rfl)
        obtain ⟨s, hs⟩ : ∃ z, sAt L j = z := ⟨_, rfl⟩
        obtain ⟨t, ht⟩ : ∃ z, sAt L (j + 1) = z := ⟨_, rfl⟩
        obtain ⟨u, hu⟩ : ∃ z, sAt L (j + 2) = z := ⟨_, rfl⟩
        rw [hs] at i0' p0 p1
        rw [ht] at i1' p2 p3 HB1s
        rw [hu] at i2' p4 p5
        rw [hs, ht, hu] at HV
        clear hs ht hu
        obtain ⟨x1, x2, x3, x4⟩ := i0'
        obtain ⟨x5, x6, x7, x8⟩ := i1'
        obtain ⟨x9, x10, x11, x12⟩ := i2'
        have m1 := mul_bd2 (x := t.x - s.x) (y := u.y - t.y) (c := 20000000) (d := 20000000) (by omega) (by omega) (by omega) (by omega)
        have m2 := mul_bd2 (x := t.y - s.y) (y := u.x - t.x) (c := 20000000) (d := 20000000) (by omega) (by omega) (by omega) (by omega)
        have m3 := mul_bd2 (x := t.x - s.x) (y := u.x - t.x) (c := 20000000) (d := 20000000) (by omega) (by omega) (by omega) (by omega)
        have m4 := mul_bd2 (x := t.y - s.y) (y := u.y - t.y) (c := 20000000) (d := 20000000) (by omega) (by omega) (by omega) (by omega)
        obtain ⟨g1, hg1⟩ : ∃ z, (t.x - s.x) * (u.y - t.y) = z := ⟨_, rfl⟩
        obtain ⟨g2, hg2⟩ : ∃ z, (t.y - s.y) * (u.x - t.x) = z := ⟨_, rfl⟩
        rw [hg1] at m1
        rw [hg2] at m2
        rw [hg1, hg2] at HV
        have b0 : (0 : Int) ≤ (j : Int) := by omega
        have b1 : (j : Int) < (n : Int) := by omega
        have b2 : (j : Int) + 1 < (n : Int) := by omega
        have b3 : (j : Int) + 1 + 1 < (n : Int) := by omega
        have b4 : (0 : Int) ≤ (j : Int) + 1 := by omega
        have b5 : (0 : Int) ≤ (j : Int) + 1 + 1 := by omega
        have b6 : ((j : Int) + 1 == 0) = false := by simp; omega
        have b7 : ((j : Int) + 1 == (n : Int) - 1) = false := by simp; omega
        have wj : IntKind.i64.wrap ((j : Int) + 1 - 1) = (j : Int) := by rw [IntKind.wrap_i64]; omega
        have wj2 : IntKind.i64.wrap ((j : Int) + 1 + 1) = (j : Int) + 1 + 1 := by rw [IntKind.wrap_i64]; omega
        have HL1 := Lib.hid (show (bendsTo L k i).length + [t].length ≤ maxLen ∧ ((bendsTo L k i).length + [t].length) * 16 ≤ 140737488355328 from by constructor <;> (simp only [maxLen, List.length_cons, List.length_nil]; omega))
        by_cases c1 : g1 = g2
        · have c1' : (g1 == g2) = true := by simp [c1]
          by_cases c2' : (t.x - s.x) * (u.x - t.x) + (t.y - s.y) * (u.y - t.y) < 0
          · have HE := Lib.hid (show bendAt L (j + 1) = [t] from by rw [HB1s.out, HV.out, decide_eq_true c2', Bool.or_true]; rfl)
            go_wp2
            go_quiet (fail)
            go_wp2
            go_quiet (fail)
            go_wp2_with (at_builtin; go_must (refine wpList_app _ rfl (.tmp 99) (.tmp 104) _ rfl w1.heap.size 82 i0 _ 2 16 Tryz.underlying61 hi hz0 hz1 hz2 rfl (by omega) fS_len fS_one u6 _ rfl ((HO.out.drewN _).alloc _) _ _ [t] 1 rfl (Sl.new _ _ t _ rfl) HL1.out.1 HL1.out.2 (by simp; omega) (fun _ => .inr ⟨_, rfl⟩) ?_); intro v2 w4 o2 gr2 at2 ne2)
            have hB4 := ((bDrewN HB.out _).alloc (by simp; omega) _).grown gr2 (by simp; omega) (fun q hq => (HO.out.lt q hq).1)
            go_roundw
            case rel => exact ⟨i + 1, by rw [HBS.out, HE.out]; exact o2, vi (by have := HM.out; omega), by omega, hB4⟩
            case measure => have := HM.out; simp [intOf] <;> omega
          · have HE := Lib.hid (show bendAt L (j + 1) = [] from by rw [HB1s.out, HV.out, decide_eq_false c2', c1]; simp)
            go_wp2
            go_quiet (fail)
            go_wp2
            go_quiet (fail)
            go_wp2
            go_roundw
            case rel => exact ⟨i + 1, by rw [HBS.out, HE.out, List.append_nil]; exact HO.out.drewN _, vi (by have := HM.out; omega), by omega, bDrewN HB.out _⟩
            case measure => have := HM.out; simp [intOf] <;> omega
        · have c1' : (g1 == g2) = false := by simp [c1]
          have HE := Lib.hid (show bendAt L (j + 1) = [t] from by rw [HB1s.out, HV.out, decide_eq_true c1, Bool.true_or]; rfl)
          go_wp2
          go_quiet (fail)
          go_wp2
          go_quiet (fail)
          go_wp2_with (at_builtin; go_must (refine wpList_app _ rfl (.tmp 99) (.tmp 104) _ rfl w1.heap.size 82 i0 _ 2 16 Tryz.underlying61 hi hz0 hz1 hz2 rfl (by omega) fS_len fS_one u6 _ rfl ((HO.out.drewN _).alloc _) _ _ [t] 1 rfl (Sl.new _ _ t _ rfl) HL1.out.1 HL1.out.2 (by simp; omega) (fun _ => .inr ⟨_, rfl⟩) ?_); intro v2 w4 o2 gr2 at2 ne2)
          have hB4 := ((bDrewN HB.out _).alloc (by simp; omega) _).grown gr2 (by simp; omega) (fun q hq => (HO.out.lt q hq).1)
          go_roundw
          case rel => exact ⟨i + 1, by rw [HBS.out, HE.out]; exact o2, vi (by have := HM.out; omega), by omega, hB4⟩
          case measure => have := HM.out; simp [intOf] <;> omega
    · obtain rfl : i = 2 := by omega
      go_wp2
      go_ret
      exact ⟨_, rfl, HO.out.lower (by omega), HB2.out.trans (HB.out.mono (by omega))⟩
end Go.Proofs.YtekambdnmaompaaGreat.SW

namespace Go.Proofs.YtekambdnmaompaaGreat.SW
set_option linter.unusedVariables false
set_option linter.unusedSimpArgs false
open Go.RowKit

/-- the specification's look at two strips -/
def foulQ (s t u v : S) (K M : List S) (hx sx hy sy : Int) : Bool :=
  nearL s t u v (hx + hy) false || (K.any (fun b => spotNearL b u v (hx + sx + hy) false || M.any (fun d => decide ((b.x - d.x) * (b.x - d.x) + (b.y - d.y) * (b.y - d.y) ≤ (hx + sx + hy + sy) * (hx + sx + hy + sy)))) || M.any (fun d => spotNearL d s t (hx + hy + sy) false))
theorem any_take_snoc {α : Type} {f : α → Bool} {l : List α} {i : Nat} (hi : i < l.length) : (l.take (i + 1)).any f = ((l.take i).any f || f l[i]) := by
  rw [List.take_succ_eq_append_getElem hi, List.any_append]
  simp
theorem rows5 (w : World) (a b c d e : Array Value) (t1 t2 t3 t4 t5 : TypeId) :
    Rw (((((w.alloc (.cells a t1)).alloc (.cells b t2)).alloc (.cells c t3)).alloc (.cells d t4)).alloc (.cells e t5)) w.heap.size t1 a ∧ Rw (((((w.alloc (.cells a t1)).alloc (.cells b t2)).alloc (.cells c t3)).alloc (.cells d t4)).alloc (.cells e t5)) (w.heap.size + 1) t2 b ∧
    Rw (((((w.alloc (.cells a t1)).alloc (.cells b t2)).alloc (.cells c t3)).alloc (.cells d t4)).alloc (.cells e t5)) (w.heap.size + 1 + 1) t3 c ∧ Rw (((((w.alloc (.cells a t1)).alloc (.cells b t2)).alloc (.cells c t3)).alloc (.cells d t4)).alloc (.cells e t5)) (w.heap.size + 1 + 1 + 1) t4 d ∧
    Rw (((((w.alloc (.cells a t1)).alloc (.cells b t2)).alloc (.cells c t3)).alloc (.cells d t4)).alloc (.cells e t5)) (w.heap.size + 1 + 1 + 1 + 1) t5 e := by
  obtain ⟨q1, q2, q3⟩ := rows3 w a b c t1 t2 t3
  obtain ⟨q4, q5⟩ := rows2 (((w.alloc (.cells a t1)).alloc (.cells b t2)).alloc (.cells c t3)) d e t4 t5
  simp only [World.size_alloc] at q4 q5
  exact ⟨(q1.alloc _).alloc _, (q2.alloc _).alloc _, (q3.alloc _).alloc _, q4, q5⟩
/-- what the loops of Foul read -/
structure FM (kx ky e f : Nat) (hx sx hy sy : Int) (s t u v : S) (A1 A2 : Option Addr) (K M : List S) (wx : World) : Prop where
  x : Rw wx kx 46 #[.int .i64 hx, .int .i64 sx]
  y : Rw wx ky 46 #[.int .i64 hy, .int .i64 sy]
  s : Rw wx e 82 #[.int .i64 s.x, .int .i64 s.y]
  t : Rw wx (e + 1) 82 #[.int .i64 t.x, .int .i64 t.y]
  u : Rw wx f 82 #[.int .i64 u.x, .int .i64 u.y]
  v : Rw wx (f + 1) 82 #[.int .i64 v.x, .int .i64 v.y]
  K : Sl wx wx.heap.size 2 CS A1 K
  M : Sl wx wx.heap.size 2 CS A2 M
theorem FM.below {kx ky e f : Nat} {hx sx hy sy : Int} {s t u v : S} {A1 A2 : Option Addr} {K M : List S} {w w' : World} (h : FM kx ky e f hx sx hy sy s t u v A1 A2 K M w) (hb : Below w.heap.size w w') : FM kx ky e f hx sx hy sy s t u v A1 A2 K M w' :=
  ⟨h.x.below hb h.x.lt, h.y.below hb h.y.lt, h.s.below hb h.s.lt, h.t.below hb h.t.lt, h.u.below hb h.u.lt, h.v.below hb h.v.lt, (h.K.below hb).more (fun _ _ h => h) hb.size, (h.M.below hb).more (fun _ _ h => h) hb.size⟩
theorem bendAt_in {L : List S} (hR : allR L) {k : Nat} (hk : k + 1 < L.length) : ∀ s ∈ bendAt L k ++ bendAt L (k + 1), inR s := fun s hs => by
  rcases List.mem_append.1 hs with h | h
  · rw [bendAt_mem h]; exact hR k (by omega)
  · rw [bendAt_mem h]; exact hR (k + 1) hk
theorem any_of_q {α : Type} {f : α → Bool} {l : List α} {i : Nat} {b : α} (h : l[i]? = some b) (hf : f b = true) : l.any f = true := List.any_eq_true.2 ⟨b, List.mem_of_getElem? h, hf⟩
theorem any_snoc_q {α : Type} {f : α → Bool} {l : List α} {i : Nat} {b : α} (h : l[i]? = some b) : (l.take (i + 1)).any f = ((l.take i).any f || f b) := by
  obtain ⟨hi, e⟩ := List.getElem?_eq_some_iff.1 h
  rw [any_take_snoc hi, e]
set_option maxRecDepth 100000 in
set_option maxHeartbeats 16000000 in
theorem rFoul_any (A A2 : Option Addr) (c c2 : Nat) (p : Pl) (r k r2 k2 : Nat) (L L2 : List S) (hx sx hy sy : Int) (w : World) (hP : PlAt w w.heap.size A c A2 c2 p) (h : RlOk p r L) (hk : k + 1 < L.length) (h2 : RlOk p r2 L2) (hk2 : k2 + 1 < L2.length) (hX : Pr hx sx) (hY : Pr hy sy) :
    Calls Tryz.prog 30 #[.agg #[.slice A p.nodes.length c, .slice A2 p.rails.length c2], .agg #[.int .i64 r, .int .i64 k], .agg #[.int .i64 hx, .int .i64 sx], .agg #[.int .i64 r2, .int .i64 k2], .agg #[.int .i64 hy, .int .i64 sy]] w fun e w' =>
      e = .returned (.bool (foulQ (sAt L k) (sAt L (k + 1)) (sAt L2 k2) (sAt L2 (k2 + 1)) (bendAt L k ++ bendAt L (k + 1)) (bendAt L2 k2 ++ bendAt L2 (k2 + 1)) hx sx hy sy)) ∧ Below w.heap.size w w' := by
  obtain ⟨x1, x2, x3, x4⟩ := hX
  obtain ⟨y1, y2, y3, y4⟩ := hY
  have HW := Lib.hid (fun (W : World) (hW : PlAt W W.heap.size A c A2 c2 p) => rWithin_any A A2 c c2 p r k r2 k2 L L2 (hx + hy) W hW h hk h2 hk2 (by omega) (by omega))
  have HE1 := Lib.hid (fun (W : World) (hW : PlAt W W.heap.size A c A2 c2 p) => rEnds_any A A2 c c2 p r k L W hW h hk)
  have HE2 := Lib.hid (fun (W : World) (hW : PlAt W W.heap.size A c A2 c2 p) => rEnds_any A A2 c c2 p r2 k2 L2 W hW h2 hk2)
  have HC1 := Lib.hid (fun (W : World) (hW : PlAt W W.heap.size A c A2 c2 p) => rBends_any A A2 c c2 p r k L W hW h hk)
  have HC2 := Lib.hid (fun (W : World) (hW : PlAt W W.heap.size A c A2 c2 p) => rBends_any A A2 c c2 p r2 k2 L2 W hW h2 hk2)
  have HIK := Lib.hid (bendAt_in h.hR hk)
  have HIM := Lib.hid (bendAt_in h2.hR hk2)
  have HKL := Lib.hid (show (bendAt L k ++ bendAt L (k + 1)).length ≤ 2 from by have e1 := bendAt_len L k; have e2 := bendAt_len L (k + 1); rw [List.length_append]; omega)
  have HML := Lib.hid (show (bendAt L2 k2 ++ bendAt L2 (k2 + 1)).length ≤ 2 from by have e1 := bendAt_len L2 k2; have e2 := bendAt_len L2 (k2 + 1); rw [List.length_append]; omega)
  obtain ⟨K, hKK⟩ : ∃ z, bendAt L k ++ bendAt L (k + 1) = z := ⟨_, rfl⟩
  obtain ⟨M, hMM⟩ : ∃ z, bendAt L2 k2 ++ bendAt L2 (k2 + 1) = z := ⟨_, rfl⟩
  have HIS := Lib.hid (h.hR k (by omega))
  have HIT := Lib.hid (h.hR (k + 1) hk)
  have HIU := Lib.hid (h2.hR k2 (by omega))
  have HIV := Lib.hid (h2.hR (k2 + 1) hk2)
  obtain ⟨s, hs⟩ : ∃ z, sAt L k = z := ⟨_, rfl⟩
  obtain ⟨t, ht⟩ : ∃ z, sAt L (k + 1) = z := ⟨_, rfl⟩
  obtain ⟨u, hu⟩ : ∃ z, sAt L2 k2 = z := ⟨_, rfl⟩
  obtain ⟨v, hv⟩ : ∃ z, sAt L2 (k2 + 1) = z := ⟨_, rfl⟩
  rw [hs, ht, hu, hv] at HW
  rw [hs, ht] at HE1
  rw [hu, hv] at HE2
  rw [hs] at HIS; rw [ht] at HIT; rw [hu] at HIU; rw [hv] at HIV
  rw [hKK] at HC1 HIK HKL
  rw [hMM] at HC2 HIM HML
  rw [hs, ht, hu, hv, hKK, hMM]
  have HV := Lib.hid (show foulQ s t u v K M hx sx hy sy = (nearL s t u v (hx + hy) false || (K.any (fun b => spotNearL b u v (hx + sx + hy) false || M.any (fun d => decide ((b.x - d.x) * (b.x - d.x) + (b.y - d.y) * (b.y - d.y) ≤ (hx + sx + hy + sy) * (hx + sx + hy + sy)))) || M.any (fun d => spotNearL d s t (hx + hy + sy) false))) from rfl)
  have HN2 := Lib.hid (fun (b : S) (hb : inR b) (W : World) => spotNear_any b u v (hx + sx + hy) false W hb HIU.out HIV.out (by omega) (by omega))
  have HN3 := Lib.hid (fun (b : S) (hb : inR b) (W : World) => spotNear_any b s t (hx + hy + sy) false W hb HIS.out HIT.out (by omega) (by omega))
  obtain ⟨r1, e1⟩ : ∃ z, hx + hy = z := ⟨_, rfl⟩
  obtain ⟨q2, e2⟩ : ∃ z, hx + sx + hy = z := ⟨_, rfl⟩
  obtain ⟨q3, e3⟩ : ∃ z, r1 + sy = z := ⟨_, rfl⟩
  obtain ⟨q4, e4⟩ : ∃ z, q2 + sy = z := ⟨_, rfl⟩
  rw [e1, e3] at HN3
  rw [e2] at HN2
  rw [e1] at HW
  rw [e1, e2, e3, e4] at HV
  have wA : IntKind.i64.wrap r1 = r1 := by rw [IntKind.wrap_i64]; omega
  have wB : IntKind.i64.wrap (hx + sx) = hx + sx := by rw [IntKind.wrap_i64]; omega
  have wC : IntKind.i64.wrap q2 = q2 := by rw [IntKind.wrap_i64]; omega
  have wD : IntKind.i64.wrap q3 = q3 := by rw [IntKind.wrap_i64]; omega
  have wE : IntKind.i64.wrap q4 = q4 := by rw [IntKind.wrap_i64]; omega
  have hq4 : 0 ≤ q4 ∧ q4 ≤ 40000 := by omega
  have HQ4 := Lib.hid hq4
  have hb5 := (((((Below.refl _ w).alloc (Nat.le_refl _) (.cells #[.slice A p.nodes.length c, .slice A2 p.rails.length c2] 25)).alloc (by simp) (.cells #[.int .i64 (r : Int), .int .i64 (k : Int)] 34)).alloc (by simp; omega) (.cells #[.int .i64 hx, .int .i64 sx] 46)).alloc (by simp; omega) (.cells #[.int .i64 (r2 : Int), .int .i64 (k2 : Int)] 34)).alloc (by simp; omega) (.cells #[.int .i64 hy, .int .i64 sy] 46)
  have hr5 := rows5 w #[.slice A p.nodes.length c, .slice A2 p.rails.length c2] #[.int .i64 (r : Int), .int .i64 (k : Int)] #[.int .i64 hx, .int .i64 sx] #[.int .i64 (r2 : Int), .int .i64 (k2 : Int)] #[.int .i64 hy, .int .i64 sy] 25 34 46 34 46
  have hz5 : (((((w.alloc (.cells #[.slice A p.nodes.length c, .slice A2 p.rails.length c2] 25)).alloc (.cells #[.int .i64 (r : Int), .int .i64 (k : Int)] 34)).alloc (.cells #[.int .i64 hx, .int .i64 sx] 46)).alloc (.cells #[.int .i64 (r2 : Int), .int .i64 (k2 : Int)] 34)).alloc (.cells #[.int .i64 hy, .int .i64 sy] 46)).heap.size = w.heap.size + 5 := by simp
  obtain ⟨W5, hW5⟩ : ∃ z, (((((w.alloc (.cells #[.slice A p.nodes.length c, .slice A2 p.rails.length c2] 25)).alloc (.cells #[.int .i64 (r : Int), .int .i64 (k : Int)] 34)).alloc (.cells #[.int .i64 hx, .int .i64 sx] 46)).alloc (.cells #[.int .i64 (r2 : Int), .int .i64 (k2 : Int)] 34)).alloc (.cells #[.int .i64 hy, .int .i64 sy] 46)) = z := ⟨_, rfl⟩
  rw [hW5] at hb5 hr5 hz5
  have HPB := Lib.hid (show ∀ wx, Below w.heap.size w wx → PlAt wx wx.heap.size A c A2 c2 p from fun wx h => (hP.below h).more h.size)
  have HR5 := Lib.hid (show ∀ wx, Below W5.heap.size W5 wx → Rw wx w.heap.size 25 #[.slice A p.nodes.length c, .slice A2 p.rails.length c2] ∧ Rw wx (w.heap.size + 1) 34 #[.int .i64 (r : Int), .int .i64 (k : Int)] ∧ Rw wx (w.heap.size + 1 + 1) 46 #[.int .i64 hx, .int .i64 sx] ∧ Rw wx (w.heap.size + 1 + 1 + 1) 34 #[.int .i64 (r2 : Int), .int .i64 (k2 : Int)] ∧ Rw wx (w.heap.size + 1 + 1 + 1 + 1) 46 #[.int .i64 hy, .int .i64 sy] from fun wx hx => ⟨hr5.1.below hx (by omega), hr5.2.1.below hx (by omega), hr5.2.2.1.below hx (by omega), hr5.2.2.2.1.below hx (by omega), hr5.2.2.2.2.below hx (by omega)⟩)
  have HB5 := Lib.hid hb5
  obtain ⟨a1, a2, a3, a4, a5⟩ := hr5
  have c0 := a1.cell 0; have c1 := a1.cell 1; have c2' := a2.cell 0; have c3 := a2.cell 1; have c4 := a3.cell 0; have c6 := a4.cell 0; have c7 := a4.cell 1; have c8 := a5.cell 0
  obtain ⟨b0, hb0⟩ : ∃ z, nearL s t u v r1 false = z := ⟨_, rfl⟩
  rw [hb0] at HW HV
  clear hb5 a1 a2 a3 a4 a5 hP h h2 hk hk2 hs ht hu hv hKK hMM hb0 x1 x2 x3 x4 y1 y2 y3 y4
  go_enter Tryz.func30, Tryz.ntmps30
  go_wp2_with fail
  refine (HW.out _ (HPB.out _ HB5.out)).mono ?_
  rintro e w1 ⟨rfl, hb1⟩
  have HB1 := Lib.hid hb1
  have z1 := hb1.size
  obtain ⟨a1, a2, a3, a4, a5⟩ := HR5.out _ hb1
  have c0 := a1.cell 0; have c1 := a1.cell 1; have c2' := a2.cell 0; have c3 := a2.cell 1; have c6 := a4.cell 0; have c7 := a4.cell 1
  clear hb1 a1 a2 a3 a4 a5 c4 c8
  cases b0 with
  | true =>
    go_wp2
    go_ret
    exact ⟨by rw [HV.out]; rfl, HB5.out.trans (HB1.out.mono HB5.out.size)⟩
  | false =>
  go_wp2_with fail
  refine (HE1.out _ (HPB.out _ (HB5.out.trans (HB1.out.mono HB5.out.size)))).mono ?_
  rintro e w2 ⟨rfl, hb2⟩
  have z2 := hb2.size
  have hb2' := (HB1.out.trans (hb2.mono z1))
  have HB2 := Lib.hid hb2'
  obtain ⟨a1, a2, a3, a4, a5⟩ := HR5.out _ hb2'
  have c0 := a1.cell 0; have c1 := a1.cell 1; have c6 := a4.cell 0; have c7 := a4.cell 1
  have HB2a := Lib.hid ((hb2'.alloc (by omega) (.cells #[.int .i64 s.x, .int .i64 s.y] 82)).alloc (by simp; omega) (.cells #[.int .i64 t.x, .int .i64 t.y] 82))
  obtain ⟨g1, g2⟩ := rows2 w2 #[.int .i64 s.x, .int .i64 s.y] #[.int .i64 t.x, .int .i64 t.y] 82 82
  have HGS := Lib.hid (And.intro g1 g2)
  clear hb2 hb2' a1 a2 a3 a4 a5 g1 g2 c2' c3
  have l0 : w.heap.size < w2.heap.size := by omega
  have l1 : w.heap.size < w2.heap.size + 1 := by omega
  have l2 : w.heap.size + 1 + 1 + 1 < w2.heap.size := by omega
  have l3 : w.heap.size + 1 + 1 + 1 < w2.heap.size + 1 := by omega
  go_wp2_with fail
  refine (HE2.out _ (HPB.out _ (HB5.out.trans (HB2a.out.mono HB5.out.size)))).mono ?_
  rintro e w3 ⟨rfl, hb3⟩
  have z3 := hb3.size
  simp only [World.size_alloc] at z3
  have hb3' := (HB2a.out.trans (hb3.mono HB2a.out.size))
  have hb3s := hb3
  simp only [World.size_alloc] at hb3s
  have g3 := HGS.out.1.below hb3s (by omega)
  have g4 := HGS.out.2.below hb3s (by omega)
  have HB3a := Lib.hid ((hb3'.alloc (by omega) (.cells #[.int .i64 u.x, .int .i64 u.y] 82)).alloc (by simp; omega) (.cells #[.int .i64 v.x, .int .i64 v.y] 82))
  obtain ⟨g5, g6⟩ := rows2 w3 #[.int .i64 u.x, .int .i64 u.y] #[.int .i64 v.x, .int .i64 v.y] 82 82
  have HG := Lib.hid (And.intro ((g3.alloc (.cells #[.int .i64 u.x, .int .i64 u.y] 82)).alloc (.cells #[.int .i64 v.x, .int .i64 v.y] 82)) (And.intro ((g4.alloc (.cells #[.int .i64 u.x, .int .i64 u.y] 82)).alloc (.cells #[.int .i64 v.x, .int .i64 v.y] 82)) (And.intro g5 g6)))
  have hz7 : ((w3.alloc (.cells #[.int .i64 u.x, .int .i64 u.y] 82)).alloc (.cells #[.int .i64 v.x, .int .i64 v.y] 82)).heap.size = w3.heap.size + 2 := by simp
  obtain ⟨W7, hW7⟩ : ∃ z, (w3.alloc (.cells #[.int .i64 u.x, .int .i64 u.y] 82)).alloc (.cells #[.int .i64 v.x, .int .i64 v.y] 82) = z := ⟨_, rfl⟩
  rw [hW7] at HB3a HG hz7
  have HS7 := Lib.hid (show ∀ wx, Below W7.heap.size W7 wx → wx.cell? ⟨w.heap.size, 0, none⟩ = some (.slice A p.nodes.length c) ∧ wx.cell? ⟨w.heap.size, 1, none⟩ = some (.slice A2 p.rails.length c2) ∧ wx.cell? ⟨w.heap.size + 1, 0, none⟩ = some (.int .i64 (r : Int)) ∧ wx.cell? ⟨w.heap.size + 1, 1, none⟩ = some (.int .i64 (k : Int)) ∧ wx.cell? ⟨w.heap.size + 1 + 1 + 1, 0, none⟩ = some (.int .i64 (r2 : Int)) ∧ wx.cell? ⟨w.heap.size + 1 + 1 + 1, 1, none⟩ = some (.int .i64 (k2 : Int)) from fun wx hwx => by
    obtain ⟨a1, a2, a3, a4, a5⟩ := HR5.out wx (HB3a.out.trans (hwx.mono HB3a.out.size))
    exact ⟨a1.cell 0, a1.cell 1, a2.cell 0, a2.cell 1, a4.cell 0, a4.cell 1⟩)
  have HF7 := Lib.hid (show ∀ (wx : World) (B1 B2 : Option Addr), Below W7.heap.size W7 wx → Sl wx wx.heap.size 2 CS B1 K → Sl wx wx.heap.size 2 CS B2 M → FM (w.heap.size + 1 + 1) (w.heap.size + 1 + 1 + 1 + 1) w2.heap.size w3.heap.size hx sx hy sy s t u v B1 B2 K M wx from fun wx B1 B2 hwx hK hM => by
    obtain ⟨a1, a2, a3, a4, a5⟩ := HR5.out wx (HB3a.out.trans (hwx.mono HB3a.out.size))
    obtain ⟨g3, g4, g5, g6⟩ := HG.out
    exact ⟨a3, a5, g3.below hwx g3.lt, g4.below hwx g4.lt, g5.below hwx g5.lt, g6.below hwx g6.lt, hK, hM⟩)
  clear hb3 hb3' hb3s g3 g4 g5 g6 c0 c1 c6 c7 l0 l1 l2 l3
  go_upto_region 5 with (fail)
  clear hW7 hW5
  have hbq : Below W7.heap.size W7 W7.drew := (Below.refl _ _).drew
  have HS := Lib.hid (HS7.out _ hbq)
  refine wp_region_held_drew (S := fun wx => wx.cell? ⟨w.heap.size, 0, none⟩ = some (.slice A p.nodes.length c) ∧ wx.cell? ⟨w.heap.size, 1, none⟩ = some (.slice A2 p.rails.length c2) ∧ wx.cell? ⟨w.heap.size + 1, 0, none⟩ = some (.int .i64 (r : Int)) ∧ wx.cell? ⟨w.heap.size + 1, 1, none⟩ = some (.int .i64 (k : Int)) ∧ wx.cell? ⟨w.heap.size + 1 + 1 + 1, 0, none⟩ = some (.int .i64 (r2 : Int)) ∧ wx.cell? ⟨w.heap.size + 1 + 1 + 1, 1, none⟩ = some (.int .i64 (k2 : Int))) (by kernel_rfl) HS.out (fun _ => ?_)
  refine hTake (i := 0) (d := 44) (v := .agg #[.slice A p.nodes.length c, .slice A2 p.rails.length c2]) rfl rfl (by kernel_rfl) (by kernel_rfl) (by kernel_rfl) (fun _ _ _ h => h) (Or.inl ⟨rfl, ?gr⟩) HS.out ?_
  case gr =>
    rintro W' ⟨s0, s1, s2, s3, s4, s5⟩
    go_simp
  simp only [Act.put, List.setIfInBounds_toArray, List.set_cons_zero, List.set_cons_succ]
  refine hTake (i := 1) (d := 45) (v := .agg #[.int .i64 (r : Int), .int .i64 (k : Int)]) rfl rfl (by kernel_rfl) (by kernel_rfl) (by kernel_rfl) (fun _ _ _ h => h) (Or.inl ⟨rfl, ?gr⟩) HS.out ?_
  case gr =>
    rintro W' ⟨s0, s1, s2, s3, s4, s5⟩
    go_simp
  simp only [Act.put, List.setIfInBounds_toArray, List.set_cons_zero, List.set_cons_succ]
  refine hTake (i := 3) (d := 47) (v := .agg #[.slice A p.nodes.length c, .slice A2 p.rails.length c2]) rfl rfl (by kernel_rfl) (by kernel_rfl) (by kernel_rfl) (fun _ _ _ h => h) (Or.inl ⟨rfl, ?gr⟩) HS.out ?_
  case gr =>
    rintro W' ⟨s0, s1, s2, s3, s4, s5⟩
    go_simp
  simp only [Act.put, List.setIfInBounds_toArray, List.set_cons_zero, List.set_cons_succ]
  refine hTake (i := 4) (d := 48) (v := .agg #[.int .i64 (r2 : Int), .int .i64 (k2 : Int)]) rfl rfl (by kernel_rfl) (by kernel_rfl) (by kernel_rfl) (fun _ _ _ h => h) (Or.inl ⟨rfl, ?gr⟩) HS.out ?_
  case gr =>
    rintro W' ⟨s0, s1, s2, s3, s4, s5⟩
    go_simp
  simp only [Act.put, List.setIfInBounds_toArray, List.set_cons_zero, List.set_cons_succ]
  refine wpAnyH_ready (rs := [2]) (by kernel_rfl) (by simp) ?_
  refine AllReadyH.cons rfl (fun K hK => ?_) AllReadyH.nil
  rw [if_pos (by rfl)]
  go_simp
  go_at_call 68
  (with_reducible refine (HC1.out _ (HPB.out _ (HB5.out.trans ((HB3a.out.trans (hbq.mono HB3a.out.size)).mono HB5.out.size)))).mono ?_)
  rintro e w4 ⟨v4, rfl, ho4, hbc⟩
  replace hbq := hbq.trans (hbc.mono hbq.size)
  have HS := Lib.hid (HS7.out _ hbq)
  have HO4 := Lib.hid ho4
  clear hbc ho4
  refine hK.out _ _ HS.out (fun _ => ?_)
  clear hK K
  try simp only [Act.put, List.setIfInBounds_toArray, List.set_cons_zero, List.set_cons_succ]
  refine wpAnyH_ready (rs := [5]) (by kernel_rfl) (by simp) ?_
  refine AllReadyH.cons rfl (fun K hK => ?_) AllReadyH.nil
  rw [if_pos (by rfl)]
  go_simp
  go_at_call 68
  (with_reducible refine (HC2.out _ (HPB.out _ (HB5.out.trans ((HB3a.out.trans (hbq.mono HB3a.out.size)).mono HB5.out.size)))).mono ?_)
  rintro e w5 ⟨v5, rfl, ho5, hbc⟩
  have HO4 := Lib.hid ((HO4.out.below (hbc) (Nat.le_refl _)))
  replace hbq := hbq.trans (hbc.mono hbq.size)
  have HS := Lib.hid (HS7.out _ hbq)
  have HO5 := Lib.hid ho5
  clear hbc ho5
  refine hK.out _ _ HS.out (fun _ => ?_)
  clear hK K
  try simp only [Act.put, List.setIfInBounds_toArray, List.set_cons_zero, List.set_cons_succ]
  refine hTake (i := 6) (d := 15) (v := v4) rfl rfl (by kernel_rfl) (by kernel_rfl) (by kernel_rfl) (fun _ _ _ h => h) (Or.inl ⟨rfl, ?gr⟩) HS.out ?_
  case gr =>
    rintro W' ⟨s0, s1, s2, s3, s4, s5⟩
    go_simp
  simp only [Act.put, List.setIfInBounds_toArray, List.set_cons_zero, List.set_cons_succ]
  refine hTake (i := 7) (d := 16) (v := v5) rfl rfl (by kernel_rfl) (by kernel_rfl) (by kernel_rfl) (fun _ _ _ h => h) (Or.inl ⟨rfl, ?gr⟩) HS.out ?_
  case gr =>
    rintro W' ⟨s0, s1, s2, s3, s4, s5⟩
    go_simp
  simp only [Act.put, List.setIfInBounds_toArray, List.set_cons_zero, List.set_cons_succ]
  refine wpAnyH_done (by kernel_rfl) ?_ _

  obtain ⟨KA, kc, rfl, hk1, hk2, _⟩ := HO4.out.form
  obtain ⟨MA, mc, rfl, hm1, hm2, _⟩ := HO5.out.form
  obtain ⟨wl, hwl⟩ : ∃ z, z = w5 := ⟨_, rfl⟩
  have hFM := HF7.out w5 KA MA hbq (HO4.out.sl fS_len rfl) (HO5.out.sl fS_len rfl)
  have HFM := Lib.hid (fun (wx : World) (h : Below w5.heap.size w5 wx) => hFM.below h)
  have HBW := Lib.hid (HB5.out.trans ((HB3a.out.trans (hbq.mono HB3a.out.size)).mono HB5.out.size))
  obtain ⟨P, hP⟩ : ∃ P : S → Bool, P = (fun b => spotNearL b u v q2 false || M.any (fun d => decide ((b.x - d.x) * (b.x - d.x) + (b.y - d.y) * (b.y - d.y) ≤ q4 * q4))) := ⟨_, rfl⟩
  obtain ⟨R, hR⟩ : ∃ R : S → S → Bool, R = (fun b d => decide ((b.x - d.x) * (b.x - d.x) + (b.y - d.y) * (b.y - d.y) ≤ q4 * q4)) := ⟨_, rfl⟩
  obtain ⟨Q, hQ⟩ : ∃ Q : S → Bool, Q = (fun d => spotNearL d s t q3 false) := ⟨_, rfl⟩
  have HPd := Lib.hid (show ∀ b, P b = (spotNearL b u v q2 false || M.any (R b)) from fun b => by rw [hP, hR])
  have HRd := Lib.hid (show ∀ b d, R b d = decide ((b.x - d.x) * (b.x - d.x) + (b.y - d.y) * (b.y - d.y) ≤ q4 * q4) from fun b d => by rw [hR])
  have HQd := Lib.hid (show ∀ d, Q d = spotNearL d s t q3 false from fun d => by rw [hQ])
  have HVF := Lib.hid (show foulQ s t u v K M hx sx hy sy = (K.any P || M.any Q) from by rw [HV.out, hP, hQ, Bool.false_or])
  obtain ⟨n, hn⟩ : ∃ z, K.length = z := ⟨_, rfl⟩
  obtain ⟨m, hm⟩ : ∃ z, M.length = z := ⟨_, rfl⟩
  have HN := Lib.hid hn
  have HM := Lib.hid hm
  have hn2 : n ≤ 2 := by rw [← hn]; exact HKL.out
  have hm2' : m ≤ 2 := by rw [← hm]; exact HML.out
  rw [hn] at hk1 ⊢
  rw [hm] at hm1 ⊢
  clear hFM hP hR hQ hn hm hbq HV hwl
  go_wp2
  go_loopw [17] (fun s17 wr => ∃ i : Nat, i ≤ n ∧ s17 = .int .i64 (i : Int) ∧ (K.take i).any P = false ∧ Below w5.heap.size w5 wr) (fun s17 _ => n - (intOf s17).toNat)
  case atStart => exact ⟨0, Nat.zero_le _, rfl, by simp, Below.refl _ _⟩
  case round =>
    obtain ⟨i, hi, rfl, hno, hb⟩ := hrel
    obtain ⟨wb, rfl⟩ : ∃ z, z = wr := ⟨_, rfl⟩
    have HNO := Lib.hid hno; have HB := Lib.hid hb
    clear hno
    by_cases hin : i < n
    · have hil : i < K.length := by rw [HN.out]; exact hin
      have fm := HFM.out wb hb
      obtain ⟨bk, ok, eA, hbk, q0, q1⟩ := spot_at fm.K hil
      subst eA
      have HIL := Lib.hid hil
      obtain ⟨b, hbb⟩ : ∃ z, K[i]'hil = z := ⟨_, rfl⟩
      have HBB := Lib.hid (show K[i]? = some b from by rw [List.getElem?_eq_getElem hil, hbb])
      rw [hbb] at q0 q1
      have hbin := HIK.out b (by rw [← hbb]; exact List.getElem_mem hil)
      have HBI := Lib.hid hbin
      have HN2b := Lib.hid (HN2.out b hbin)
      obtain ⟨bn, hbn⟩ : ∃ z, spotNearL b u v q2 false = z := ⟨_, rfl⟩
      rw [hbn] at HN2b
      have HPb := Lib.hid (show P b = (bn || M.any (R b)) from by rw [HPd.out, hbn])
      have hii : (i : Int) < (n : Int) := by omega
      have hi0 : (0 : Int) ≤ (i : Int) := by omega
      have HCELL := Lib.hid (show ∀ wx, Below wb.heap.size wb wx → wx.cell? ⟨bk, ok + i * 2, none⟩ = some (.int .i64 b.x) ∧ wx.cell? ⟨bk, ok + i * 2 + 1, none⟩ = some (.int .i64 b.y) ∧ wx.cell? ⟨w3.heap.size, 0, none⟩ = some (.int .i64 u.x) ∧ wx.cell? ⟨w3.heap.size, 1, none⟩ = some (.int .i64 u.y) ∧ wx.cell? ⟨w3.heap.size + 1, 0, none⟩ = some (.int .i64 v.x) ∧ wx.cell? ⟨w3.heap.size + 1, 1, none⟩ = some (.int .i64 v.y) ∧ wx.cell? ⟨w.heap.size + 1 + 1, 0, none⟩ = some (.int .i64 hx) ∧ wx.cell? ⟨w.heap.size + 1 + 1, 1, none⟩ = some (.int .i64 sx) ∧ wx.cell? ⟨w.heap.size + 1 + 1 + 1 + 1, 0, none⟩ = some (.int .i64 hy) from fun wx hwx => by
        have f2 := fm.below hwx
        exact ⟨(hwx.cell (p := ⟨bk, ok + i * 2, none⟩) hbk).trans q0, (hwx.cell (p := ⟨bk, ok + i * 2 + 1, none⟩) hbk).trans q1, f2.u.cell 0, f2.u.cell 1, f2.v.cell 0, f2.v.cell 1, f2.x.cell 0, f2.x.cell 1, f2.y.cell 0⟩)
      clear hb fm q0 q1 hbb hbin hbn hil
      go_upto_region 9 with (fail)
      have hbq : Below wb.heap.size wb wb.drew := (Below.refl _ _).drew
      have HS := Lib.hid (HCELL.out _ hbq)
      refine wp_region_held_drew (S := fun wx => wx.cell? ⟨bk, ok + i * 2, none⟩ = some (.int .i64 b.x) ∧ wx.cell? ⟨bk, ok + i * 2 + 1, none⟩ = some (.int .i64 b.y) ∧ wx.cell? ⟨w3.heap.size, 0, none⟩ = some (.int .i64 u.x) ∧ wx.cell? ⟨w3.heap.size, 1, none⟩ = some (.int .i64 u.y) ∧ wx.cell? ⟨w3.heap.size + 1, 0, none⟩ = some (.int .i64 v.x) ∧ wx.cell? ⟨w3.heap.size + 1, 1, none⟩ = some (.int .i64 v.y) ∧ wx.cell? ⟨w.heap.size + 1 + 1, 0, none⟩ = some (.int .i64 hx) ∧ wx.cell? ⟨w.heap.size + 1 + 1, 1, none⟩ = some (.int .i64 sx) ∧ wx.cell? ⟨w.heap.size + 1 + 1 + 1 + 1, 0, none⟩ = some (.int .i64 hy)) (by kernel_rfl) HS.out (fun _ => ?_)
      refine hTake (i := 0) (d := 56) (v := .slice (some ⟨bk, ok, none⟩) n kc) rfl rfl (by kernel_rfl) (by kernel_rfl) (by kernel_rfl) (fun _ _ _ h => h) (Or.inl ⟨rfl, ?gr⟩) HS.out ?_
      case gr =>
        rintro W' ⟨s0, s1, s2, s3, s4, s5, s6, s7, s8⟩
        go_simp
      simp only [Act.put, List.setIfInBounds_toArray, List.set_cons_zero, List.set_cons_succ]
      refine hTake (i := 1) (d := 57) (v := .int .i64 (i : Int)) rfl rfl (by kernel_rfl) (by kernel_rfl) (by kernel_rfl) (fun _ _ _ h => h) (Or.inl ⟨rfl, ?gr⟩) HS.out ?_
      case gr =>
        rintro W' ⟨s0, s1, s2, s3, s4, s5, s6, s7, s8⟩
        go_simp
      simp only [Act.put, List.setIfInBounds_toArray, List.set_cons_zero, List.set_cons_succ]
      refine hTake (i := 2) (d := 58) (v := .pointer (some ⟨bk, ok + i * 2, none⟩)) rfl rfl (by kernel_rfl) (by kernel_rfl) (by kernel_rfl) (fun _ _ _ h => h) (Or.inl ⟨rfl, ?gr⟩) HS.out ?_
      case gr =>
        rintro W' ⟨s0, s1, s2, s3, s4, s5, s6, s7, s8⟩
        go_simp
      simp only [Act.put, List.setIfInBounds_toArray, List.set_cons_zero, List.set_cons_succ]
      refine hTake (i := 3) (d := 59) (v := .agg #[.int .i64 b.x, .int .i64 b.y]) rfl rfl (by kernel_rfl) (by kernel_rfl) (by kernel_rfl) (fun _ _ _ h => h) (Or.inl ⟨rfl, ?gr⟩) HS.out ?_
      case gr =>
        rintro W' ⟨s0, s1, s2, s3, s4, s5, s6, s7, s8⟩
        go_simp
      simp only [Act.put, List.setIfInBounds_toArray, List.set_cons_zero, List.set_cons_succ]
      refine hTake (i := 4) (d := 60) (v := .agg #[.int .i64 u.x, .int .i64 u.y]) rfl rfl (by kernel_rfl) (by kernel_rfl) (by kernel_rfl) (fun _ _ _ h => h) (Or.inl ⟨rfl, ?gr⟩) HS.out ?_
      case gr =>
        rintro W' ⟨s0, s1, s2, s3, s4, s5, s6, s7, s8⟩
        go_simp
      simp only [Act.put, List.setIfInBounds_toArray, List.set_cons_zero, List.set_cons_succ]
      refine hTake (i := 5) (d := 61) (v := .agg #[.int .i64 v.x, .int .i64 v.y]) rfl rfl (by kernel_rfl) (by kernel_rfl) (by kernel_rfl) (fun _ _ _ h => h) (Or.inl ⟨rfl, ?gr⟩) HS.out ?_
      case gr =>
        rintro W' ⟨s0, s1, s2, s3, s4, s5, s6, s7, s8⟩
        go_simp
      simp only [Act.put, List.setIfInBounds_toArray, List.set_cons_zero, List.set_cons_succ]
      refine hTake (i := 6) (d := 62) (v := .pointer (some ⟨w.heap.size + 1 + 1, 0, none⟩)) rfl rfl (by kernel_rfl) (by kernel_rfl) (by kernel_rfl) (fun _ _ _ h => h) (Or.inl ⟨rfl, ?gr⟩) HS.out ?_
      case gr =>
        rintro W' ⟨s0, s1, s2, s3, s4, s5, s6, s7, s8⟩
        go_simp
      simp only [Act.put, List.setIfInBounds_toArray, List.set_cons_zero, List.set_cons_succ]
      refine hTake (i := 7) (d := 63) (v := .int .i64 hx) rfl rfl (by kernel_rfl) (by kernel_rfl) (by kernel_rfl) (fun _ _ _ h => h) (Or.inl ⟨rfl, ?gr⟩) HS.out ?_
      case gr =>
        rintro W' ⟨s0, s1, s2, s3, s4, s5, s6, s7, s8⟩
        go_simp
      simp only [Act.put, List.setIfInBounds_toArray, List.set_cons_zero, List.set_cons_succ]
      refine hTake (i := 8) (d := 64) (v := .pointer (some ⟨w.heap.size + 1 + 1, 1, none⟩)) rfl rfl (by kernel_rfl) (by kernel_rfl) (by kernel_rfl) (fun _ _ _ h => h) (Or.inl ⟨rfl, ?gr⟩) HS.out ?_
      case gr =>
        rintro W' ⟨s0, s1, s2, s3, s4, s5, s6, s7, s8⟩
        go_simp
      simp only [Act.put, List.setIfInBounds_toArray, List.set_cons_zero, List.set_cons_succ]
      refine hTake (i := 9) (d := 65) (v := .int .i64 sx) rfl rfl (by kernel_rfl) (by kernel_rfl) (by kernel_rfl) (fun _ _ _ h => h) (Or.inl ⟨rfl, ?gr⟩) HS.out ?_
      case gr =>
        rintro W' ⟨s0, s1, s2, s3, s4, s5, s6, s7, s8⟩
        go_simp
      simp only [Act.put, List.setIfInBounds_toArray, List.set_cons_zero, List.set_cons_succ]
      refine hTake (i := 10) (d := 66) (v := .int .i64 (hx + sx)) rfl rfl (by kernel_rfl) (by kernel_rfl) (by kernel_rfl) (fun _ _ _ h => h) (Or.inl ⟨rfl, ?gr⟩) HS.out ?_
      case gr =>
        rintro W' ⟨s0, s1, s2, s3, s4, s5, s6, s7, s8⟩
        go_simp
      simp only [Act.put, List.setIfInBounds_toArray, List.set_cons_zero, List.set_cons_succ]
      refine hTake (i := 11) (d := 67) (v := .pointer (some ⟨w.heap.size + 1 + 1 + 1 + 1, 0, none⟩)) rfl rfl (by kernel_rfl) (by kernel_rfl) (by kernel_rfl) (fun _ _ _ h => h) (Or.inl ⟨rfl, ?gr⟩) HS.out ?_
      case gr =>
        rintro W' ⟨s0, s1, s2, s3, s4, s5, s6, s7, s8⟩
        go_simp
      simp only [Act.put, List.setIfInBounds_toArray, List.set_cons_zero, List.set_cons_succ]
      refine hTake (i := 12) (d := 68) (v := .int .i64 hy) rfl rfl (by kernel_rfl) (by kernel_rfl) (by kernel_rfl) (fun _ _ _ h => h) (Or.inl ⟨rfl, ?gr⟩) HS.out ?_
      case gr =>
        rintro W' ⟨s0, s1, s2, s3, s4, s5, s6, s7, s8⟩
        go_simp
      simp only [Act.put, List.setIfInBounds_toArray, List.set_cons_zero, List.set_cons_succ]
      refine hTake (i := 13) (d := 69) (v := .int .i64 q2) rfl rfl (by kernel_rfl) (by kernel_rfl) (by kernel_rfl) (fun _ _ _ h => h) (Or.inl ⟨rfl, ?gr⟩) HS.out ?_
      case gr =>
        rintro W' ⟨s0, s1, s2, s3, s4, s5, s6, s7, s8⟩
        go_simp
      simp only [Act.put, List.setIfInBounds_toArray, List.set_cons_zero, List.set_cons_succ]
      refine wpAnyH_ready (rs := [14]) (by kernel_rfl) (by simp) ?_
      refine AllReadyH.cons rfl (fun K hK => ?_) AllReadyH.nil
      rw [if_pos (by rfl)]
      go_simp
      go_at_call 69
      (with_reducible refine (HN2b.out _).mono ?_)
      rintro e wc ⟨rfl, hbc⟩
      replace hbq := hbq.trans (hbc.mono hbq.size)
      have HS := Lib.hid (HCELL.out _ hbq)
      clear hbc
      refine hK.out _ _ HS.out (fun _ => ?_)
      clear hK K
      try simp only [Act.put, List.setIfInBounds_toArray, List.set_cons_zero, List.set_cons_succ]
      refine wpAnyH_done (by kernel_rfl) ?_ _

      have HBA := Lib.hid (HB.out.trans (hbq.mono HB.out.size))
      clear hbq HS
      cases bn with
      | true =>
        have HR := Lib.hid (show foulQ s t u v K M hx sx hy sy = true from by rw [HVF.out, any_of_q HBB.out (by rw [HPb.out]; rfl), Bool.true_or])
        go_wp2
        go_ret
        exact ⟨by rw [HR.out]; rfl, HBW.out.trans (HBA.out.mono HBW.out.size)⟩
      | false =>
        go_wp2
        go_loopw [18] (fun s18 wr => ∃ j : Nat, j ≤ m ∧ s18 = .int .i64 (j : Int) ∧ (M.take j).any (R b) = false ∧ Below w5.heap.size w5 wr) (fun s18 _ => m - (intOf s18).toNat)
        case atStart => exact ⟨0, Nat.zero_le _, rfl, by simp, HBA.out⟩
        case round =>
          obtain ⟨j, hj, rfl, hno2, hb2⟩ := hrel
          have HNO2 := Lib.hid hno2; have HB2 := Lib.hid hb2
          clear hno2
          by_cases hjm : j < m
          · have hjl : j < M.length := by rw [HM.out]; exact hjm
            have fm2 := HFM.out _ hb2
            obtain ⟨bk', ok', eA', _, q0, q1⟩ := spot_at fm2.K HIL.out
            obtain ⟨rfl, rfl⟩ : bk = bk' ∧ ok = ok' := by simpa using eA'
            obtain ⟨bm, om, eM, _, q2', q3'⟩ := spot_at fm2.M hjl
            subst eM
            have hKi : K[i]'HIL.out = b := by have := HBB.out; rw [List.getElem?_eq_getElem HIL.out] at this; exact Option.some.inj this
            rw [hKi] at q0 q1
            have HJL := Lib.hid hjl
            obtain ⟨d, hdd⟩ : ∃ z, M[j]'hjl = z := ⟨_, rfl⟩
            have HDD := Lib.hid (show M[j]? = some d from by rw [List.getElem?_eq_getElem hjl, hdd])
            have hdin := HIM.out d (by rw [← hdd]; exact List.getElem_mem hjl)
            rw [hdd] at q2' q3'
            have f0 := fm2.x.cell 0; have f1 := fm2.x.cell 1; have f2 := fm2.y.cell 0; have f3 := fm2.y.cell 1
            obtain ⟨i1, i2, i3, i4⟩ := HBI.out
            obtain ⟨i5, i6, i7, i8⟩ := hdin
            have g1 := mul_bd2 (x := b.x - d.x) (y := b.x - d.x) (c := 20000000) (d := 20000000) (by omega) (by omega) (by omega) (by omega)
            have g2 := mul_bd2 (x := b.y - d.y) (y := b.y - d.y) (c := 20000000) (d := 20000000) (by omega) (by omega) (by omega) (by omega)
            have g3 := mul_bd2 (x := q4) (y := q4) (c := 40000) (d := 40000) (by have := HQ4.out; omega) HQ4.out.2 (by have := HQ4.out; omega) HQ4.out.2
            have hj0 : (0 : Int) ≤ (j : Int) := by omega
            have hjj : (j : Int) < (m : Int) := by omega
            have HRb := Lib.hid (HRd.out b d)
            clear hb2 fm2 eA' hdd hKi hjl
            by_cases hle : (b.x - d.x) * (b.x - d.x) + (b.y - d.y) * (b.y - d.y) ≤ q4 * q4
            · have HR := Lib.hid (show foulQ s t u v K M hx sx hy sy = true from by
                rw [HVF.out, any_of_q HBB.out (by rw [HPb.out, any_of_q HDD.out (by rw [HRb.out]; exact decide_eq_true hle)]; rfl), Bool.true_or])
              go_wp2
              go_quiet (fail)
              go_wp2
              go_ret
              exact ⟨by rw [HR.out]; rfl, bDrewN (HBW.out.trans (HB2.out.mono HBW.out.size)) _⟩
            · have HRF := Lib.hid (show R b d = false from by rw [HRb.out]; exact decide_eq_false hle)
              go_wp2
              go_quiet (fail)
              go_wp2
              go_roundw
              case rel => exact ⟨j + 1, by omega, vi (by omega), by rw [any_snoc_q HDD.out, HNO2.out, HRF.out]; rfl, bDrewN HB2.out _⟩
              case measure => simp [intOf] <;> omega
          · obtain rfl : j = m := by omega
            have HRM := Lib.hid (show M.any (R b) = false from by have := HNO2.out; rwa [List.take_of_length_le (by rw [HM.out]; omega)] at this)
            clear hb2
            go_wp2
            go_roundw
            case rel => exact ⟨i + 1, by omega, vi (by omega), by rw [any_snoc_q HBB.out, HNO.out, HPb.out, HRM.out]; rfl, HB2.out⟩
            case measure => simp [intOf] <;> omega
    · obtain rfl : i = n := by omega
      have HKF := Lib.hid (show K.any P = false from by have := HNO.out; rwa [List.take_of_length_le (by rw [HN.out]; omega)] at this)
      clear hb
      go_wp2
      go_loopw [22] (fun s22 wr => ∃ j : Nat, j ≤ m ∧ s22 = .int .i64 (j : Int) ∧ (M.take j).any Q = false ∧ Below w5.heap.size w5 wr) (fun s22 _ => m - (intOf s22).toNat)
      case atStart => exact ⟨0, Nat.zero_le _, rfl, by simp, HB.out⟩
      case round =>
        obtain ⟨j, hj, rfl, hno2, hb2⟩ := hrel
        obtain ⟨wb2, rfl⟩ : ∃ z, z = wr := ⟨_, rfl⟩
        have HNO2 := Lib.hid hno2; have HB2 := Lib.hid hb2
        clear hno2
        by_cases hjm : j < m
        · have hjl : j < M.length := by rw [HM.out]; exact hjm
          have fm := HFM.out wb2 hb2
          obtain ⟨bk, ok, eA, hbk, q0, q1⟩ := spot_at fm.M hjl
          subst eA
          have HJL := Lib.hid hjl
          obtain ⟨b, hbb⟩ : ∃ z, M[j]'hjl = z := ⟨_, rfl⟩
          have HBB := Lib.hid (show M[j]? = some b from by rw [List.getElem?_eq_getElem hjl, hbb])
          rw [hbb] at q0 q1
          have hbin := HIM.out b (by rw [← hbb]; exact List.getElem_mem hjl)
          have HN3b := Lib.hid (HN3.out b hbin)
          obtain ⟨bn, hbn⟩ : ∃ z, spotNearL b s t q3 false = z := ⟨_, rfl⟩
          rw [hbn] at HN3b
          have HQb := Lib.hid (show Q b = bn from by rw [HQd.out, hbn])
          have hjj : (j : Int) < (m : Int) := by omega
          have hj0 : (0 : Int) ≤ (j : Int) := by omega
          have HCELL := Lib.hid (show ∀ wx, Below wb2.heap.size wb2 wx → wx.cell? ⟨bk, ok + j * 2, none⟩ = some (.int .i64 b.x) ∧ wx.cell? ⟨bk, ok + j * 2 + 1, none⟩ = some (.int .i64 b.y) ∧ wx.cell? ⟨w2.heap.size, 0, none⟩ = some (.int .i64 s.x) ∧ wx.cell? ⟨w2.heap.size, 1, none⟩ = some (.int .i64 s.y) ∧ wx.cell? ⟨w2.heap.size + 1, 0, none⟩ = some (.int .i64 t.x) ∧ wx.cell? ⟨w2.heap.size + 1, 1, none⟩ = some (.int .i64 t.y) ∧ wx.cell? ⟨w.heap.size + 1 + 1, 0, none⟩ = some (.int .i64 hx) ∧ wx.cell? ⟨w.heap.size + 1 + 1 + 1 + 1, 0, none⟩ = some (.int .i64 hy) ∧ wx.cell? ⟨w.heap.size + 1 + 1 + 1 + 1, 1, none⟩ = some (.int .i64 sy) from fun wx hwx => by
            have f2 := fm.below hwx
            exact ⟨(hwx.cell (p := ⟨bk, ok + j * 2, none⟩) hbk).trans q0, (hwx.cell (p := ⟨bk, ok + j * 2 + 1, none⟩) hbk).trans q1, f2.s.cell 0, f2.s.cell 1, f2.t.cell 0, f2.t.cell 1, f2.x.cell 0, f2.y.cell 0, f2.y.cell 1⟩)
          clear hb2 fm q0 q1 hbb hbin hbn hjl
          go_upto_region 21 with (fail)
          have hbq : Below wb2.heap.size wb2 wb2.drew := (Below.refl _ _).drew
          have HS := Lib.hid (HCELL.out _ hbq)
          refine wp_region_held_drew (S := fun wx => wx.cell? ⟨bk, ok + j * 2, none⟩ = some (.int .i64 b.x) ∧ wx.cell? ⟨bk, ok + j * 2 + 1, none⟩ = some (.int .i64 b.y) ∧ wx.cell? ⟨w2.heap.size, 0, none⟩ = some (.int .i64 s.x) ∧ wx.cell? ⟨w2.heap.size, 1, none⟩ = some (.int .i64 s.y) ∧ wx.cell? ⟨w2.heap.size + 1, 0, none⟩ = some (.int .i64 t.x) ∧ wx.cell? ⟨w2.heap.size + 1, 1, none⟩ = some (.int .i64 t.y) ∧ wx.cell? ⟨w.heap.size + 1 + 1, 0, none⟩ = some (.int .i64 hx) ∧ wx.cell? ⟨w.heap.size + 1 + 1 + 1 + 1, 0, none⟩ = some (.int .i64 hy) ∧ wx.cell? ⟨w.heap.size + 1 + 1 + 1 + 1, 1, none⟩ = some (.int .i64 sy)) (by kernel_rfl) HS.out (fun _ => ?_)
          refine hTake (i := 0) (d := 127) (v := .slice (some ⟨bk, ok, none⟩) m mc) rfl rfl (by kernel_rfl) (by kernel_rfl) (by kernel_rfl) (fun _ _ _ h => h) (Or.inl ⟨rfl, ?gr⟩) HS.out ?_
          case gr =>
            rintro W' ⟨s0, s1, s2, s3, s4, s5, s6, s7, s8⟩
            go_simp
          simp only [Act.put, List.setIfInBounds_toArray, List.set_cons_zero, List.set_cons_succ]
          refine hTake (i := 1) (d := 128) (v := .int .i64 (j : Int)) rfl rfl (by kernel_rfl) (by kernel_rfl) (by kernel_rfl) (fun _ _ _ h => h) (Or.inl ⟨rfl, ?gr⟩) HS.out ?_
          case gr =>
            rintro W' ⟨s0, s1, s2, s3, s4, s5, s6, s7, s8⟩
            go_simp
          simp only [Act.put, List.setIfInBounds_toArray, List.set_cons_zero, List.set_cons_succ]
          refine hTake (i := 2) (d := 129) (v := .pointer (some ⟨bk, ok + j * 2, none⟩)) rfl rfl (by kernel_rfl) (by kernel_rfl) (by kernel_rfl) (fun _ _ _ h => h) (Or.inl ⟨rfl, ?gr⟩) HS.out ?_
          case gr =>
            rintro W' ⟨s0, s1, s2, s3, s4, s5, s6, s7, s8⟩
            go_simp
          simp only [Act.put, List.setIfInBounds_toArray, List.set_cons_zero, List.set_cons_succ]
          refine hTake (i := 3) (d := 130) (v := .agg #[.int .i64 b.x, .int .i64 b.y]) rfl rfl (by kernel_rfl) (by kernel_rfl) (by kernel_rfl) (fun _ _ _ h => h) (Or.inl ⟨rfl, ?gr⟩) HS.out ?_
          case gr =>
            rintro W' ⟨s0, s1, s2, s3, s4, s5, s6, s7, s8⟩
            go_simp
          simp only [Act.put, List.setIfInBounds_toArray, List.set_cons_zero, List.set_cons_succ]
          refine hTake (i := 4) (d := 131) (v := .agg #[.int .i64 s.x, .int .i64 s.y]) rfl rfl (by kernel_rfl) (by kernel_rfl) (by kernel_rfl) (fun _ _ _ h => h) (Or.inl ⟨rfl, ?gr⟩) HS.out ?_
          case gr =>
            rintro W' ⟨s0, s1, s2, s3, s4, s5, s6, s7, s8⟩
            go_simp
          simp only [Act.put, List.setIfInBounds_toArray, List.set_cons_zero, List.set_cons_succ]
          refine hTake (i := 5) (d := 132) (v := .agg #[.int .i64 t.x, .int .i64 t.y]) rfl rfl (by kernel_rfl) (by kernel_rfl) (by kernel_rfl) (fun _ _ _ h => h) (Or.inl ⟨rfl, ?gr⟩) HS.out ?_
          case gr =>
            rintro W' ⟨s0, s1, s2, s3, s4, s5, s6, s7, s8⟩
            go_simp
          simp only [Act.put, List.setIfInBounds_toArray, List.set_cons_zero, List.set_cons_succ]
          refine hTake (i := 6) (d := 133) (v := .pointer (some ⟨w.heap.size + 1 + 1, 0, none⟩)) rfl rfl (by kernel_rfl) (by kernel_rfl) (by kernel_rfl) (fun _ _ _ h => h) (Or.inl ⟨rfl, ?gr⟩) HS.out ?_
          case gr =>
            rintro W' ⟨s0, s1, s2, s3, s4, s5, s6, s7, s8⟩
            go_simp
          simp only [Act.put, List.setIfInBounds_toArray, List.set_cons_zero, List.set_cons_succ]
          refine hTake (i := 7) (d := 134) (v := .int .i64 hx) rfl rfl (by kernel_rfl) (by kernel_rfl) (by kernel_rfl) (fun _ _ _ h => h) (Or.inl ⟨rfl, ?gr⟩) HS.out ?_
          case gr =>
            rintro W' ⟨s0, s1, s2, s3, s4, s5, s6, s7, s8⟩
            go_simp
          simp only [Act.put, List.setIfInBounds_toArray, List.set_cons_zero, List.set_cons_succ]
          refine hTake (i := 8) (d := 135) (v := .pointer (some ⟨w.heap.size + 1 + 1 + 1 + 1, 0, none⟩)) rfl rfl (by kernel_rfl) (by kernel_rfl) (by kernel_rfl) (fun _ _ _ h => h) (Or.inl ⟨rfl, ?gr⟩) HS.out ?_
          case gr =>
            rintro W' ⟨s0, s1, s2, s3, s4, s5, s6, s7, s8⟩
            go_simp
          simp only [Act.put, List.setIfInBounds_toArray, List.set_cons_zero, List.set_cons_succ]
          refine hTake (i := 9) (d := 136) (v := .int .i64 hy) rfl rfl (by kernel_rfl) (by kernel_rfl) (by kernel_rfl) (fun _ _ _ h => h) (Or.inl ⟨rfl, ?gr⟩) HS.out ?_
          case gr =>
            rintro W' ⟨s0, s1, s2, s3, s4, s5, s6, s7, s8⟩
            go_simp
          simp only [Act.put, List.setIfInBounds_toArray, List.set_cons_zero, List.set_cons_succ]
          refine hTake (i := 10) (d := 137) (v := .int .i64 r1) rfl rfl (by kernel_rfl) (by kernel_rfl) (by kernel_rfl) (fun _ _ _ h => h) (Or.inl ⟨rfl, ?gr⟩) HS.out ?_
          case gr =>
            rintro W' ⟨s0, s1, s2, s3, s4, s5, s6, s7, s8⟩
            go_simp
          simp only [Act.put, List.setIfInBounds_toArray, List.set_cons_zero, List.set_cons_succ]
          refine hTake (i := 11) (d := 138) (v := .pointer (some ⟨w.heap.size + 1 + 1 + 1 + 1, 1, none⟩)) rfl rfl (by kernel_rfl) (by kernel_rfl) (by kernel_rfl) (fun _ _ _ h => h) (Or.inl ⟨rfl, ?gr⟩) HS.out ?_
          case gr =>
            rintro W' ⟨s0, s1, s2, s3, s4, s5, s6, s7, s8⟩
            go_simp
          simp only [Act.put, List.setIfInBounds_toArray, List.set_cons_zero, List.set_cons_succ]
          refine hTake (i := 12) (d := 139) (v := .int .i64 sy) rfl rfl (by kernel_rfl) (by kernel_rfl) (by kernel_rfl) (fun _ _ _ h => h) (Or.inl ⟨rfl, ?gr⟩) HS.out ?_
          case gr =>
            rintro W' ⟨s0, s1, s2, s3, s4, s5, s6, s7, s8⟩
            go_simp
          simp only [Act.put, List.setIfInBounds_toArray, List.set_cons_zero, List.set_cons_succ]
          refine hTake (i := 13) (d := 140) (v := .int .i64 q3) rfl rfl (by kernel_rfl) (by kernel_rfl) (by kernel_rfl) (fun _ _ _ h => h) (Or.inl ⟨rfl, ?gr⟩) HS.out ?_
          case gr =>
            rintro W' ⟨s0, s1, s2, s3, s4, s5, s6, s7, s8⟩
            go_simp
          simp only [Act.put, List.setIfInBounds_toArray, List.set_cons_zero, List.set_cons_succ]
          refine wpAnyH_ready (rs := [14]) (by kernel_rfl) (by simp) ?_
          refine AllReadyH.cons rfl (fun K hK => ?_) AllReadyH.nil
          rw [if_pos (by rfl)]
          go_simp
          go_at_call 69
          (with_reducible refine (HN3b.out _).mono ?_)
          rintro e wc ⟨rfl, hbc⟩
          replace hbq := hbq.trans (hbc.mono hbq.size)
          have HS := Lib.hid (HCELL.out _ hbq)
          clear hbc
          refine hK.out _ _ HS.out (fun _ => ?_)
          clear hK K
          try simp only [Act.put, List.setIfInBounds_toArray, List.set_cons_zero, List.set_cons_succ]
          refine wpAnyH_done (by kernel_rfl) ?_ _

          have HBA := Lib.hid (HB2.out.trans (hbq.mono HB2.out.size))
          clear hbq HS
          cases bn with
          | true =>
            have HR := Lib.hid (show foulQ s t u v K M hx sx hy sy = true from by rw [HVF.out, any_of_q HBB.out (by rw [HQb.out]), Bool.or_true])
            go_wp2
            go_ret
            exact ⟨by rw [HR.out]; rfl, HBW.out.trans (HBA.out.mono HBW.out.size)⟩
          | false =>
            go_wp2
            go_roundw
            case rel => exact ⟨j + 1, by omega, vi (by omega), by rw [any_snoc_q HBB.out, HNO2.out, HQb.out]; rfl, HBA.out⟩
            case measure => simp [intOf] <;> omega
        · obtain rfl : j = m := by omega
          have HR := Lib.hid (show foulQ s t u v K M hx sx hy sy = false from by
            rw [HVF.out, HKF.out, Bool.false_or]
            have := HNO2.out
            rwa [List.take_of_length_le (by rw [HM.out]; omega)] at this)
          clear hb2
          go_wp2
          go_ret
          exact ⟨by rw [HR.out]; rfl, HBW.out.trans (HB2.out.mono HBW.out.size)⟩
end Go.Proofs.YtekambdnmaompaaGreat.SW
