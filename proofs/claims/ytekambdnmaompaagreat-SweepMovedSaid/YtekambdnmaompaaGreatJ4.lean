/- Contracts: the specification. -/
import Derived.Test.YtekambdnmaompaaGreatG3
import Derived.Test.YtekambdnmaompaaGreatJ2
import Derived.Test.YtekambdnmaompaaGreatJ3
import Derived.Test.YtekambdnmaompaaGreatJ9
namespace Go.Proofs.YtekambdnmaompaaGreat.SW
set_option linter.unusedVariables false
set_option linter.unusedSimpArgs false
open Go.RowKit

/-- a rail of a valid plan, and its line -/
structure RlOk (p : Pl) (r : Nat) (L : List S) : Prop where
  hr : r < p.rails.length
  h1 : nodeIx p p.rails[r].frm
  h2 : nodeIx p p.rails[r].to
  hs : p.rails[r].shape.length ≤ 40
  eL : lineOf p p.rails[r] = L
  hR : allR L
  hok : okL L = true
theorem RlOk.len {p : Pl} {r : Nat} {L : List S} (h : RlOk p r L) : L.length = (p.rails[r]'h.hr).shape.length + 2 := by
  have e := congrArg List.length h.eL
  rw [← e]; simp [lineOf]
theorem RlOk.le {p : Pl} {r : Nat} {L : List S} (h : RlOk p r L) : 2 ≤ L.length ∧ L.length ≤ 42 := by
  have := h.len; have := h.hs; omega
theorem Vld.rl {p : Pl} (h : Vld p) {r : Nat} (hr : r < p.rails.length) : RlOk p r (lineOf p p.rails[r]) := by
  obtain ⟨h1, h2⟩ := h.rail hr
  have h3 := railB_ix h1
  exact ⟨hr, h3.1, h3.2.1, by have := h3.2.2; omega, rfl, allR_line (spots_ok h.nodes) h1, h2⟩
set_option maxHeartbeats 1000000 in
theorem rStrips_any (A A2 : Option Addr) (c c2 : Nat) (p : Pl) (r n : Nat) (w : World) (hP : PlAt w w.heap.size A c A2 c2 p) (hr : r < p.rails.length) (hn : p.rails[r].shape.length + 1 = n) (hs : n ≤ 100000) :
    Calls Tryz.prog 20 #[.agg #[.slice A p.nodes.length c, .slice A2 p.rails.length c2], .int .i64 r] w fun e w' => e = .returned (.int .i64 (n : Int)) ∧ Below w.heap.size w w' := by
  obtain ⟨b, off, A', c', rfl, hb, _, hc1, hc2, k0, k1, k2, k3, k4⟩ := hP.rail hr
  have hrc := hP.rc; have hrm := hP.rm; have hnc := hP.nc; have hnm := hP.nm
  obtain ⟨m, hm⟩ : ∃ z, p.rails[r].shape.length = z := ⟨_, rfl⟩
  rw [hm] at hn hc1 k2
  subst hn
  have hbe := (Below.refl w.heap.size w).alloc (Nat.le_refl _) (.cells #[.slice A p.nodes.length c, .slice (some ⟨b, off, none⟩) p.rails.length c2] 25)
  have k2' := (hbe.cell (p := ⟨b, off + r * 5 + 2, none⟩) hb).trans k2
  obtain ⟨N, hN⟩ : ∃ z, p.rails.length = z := ⟨_, rfl⟩
  rw [hN] at hr hrc hbe k2' ⊢
  have g1 : (0 : Int) ≤ (r : Int) := by omega
  have g2 : (r : Int) < (N : Int) := by omega
  have HB := Lib.hid hbe
  clear hP hbe hm hN k0 k1 k2 k3 k4
  go_enter Tryz.func20, Tryz.ntmps20
  go_wp2
  go_ret
  exact ⟨rfl, HB.out⟩
def profB (s : S) : Bool := inB s.x 1 2000 && inB s.y 0 1500
theorem profB_pr (s : S) : profB s = prB s := by
  unfold profB prB inB
  by_cases h1 : s.x < 1 <;> by_cases h2 : 2000 < s.x <;> by_cases h3 : s.y < 0 <;> by_cases h4 : 1500 < s.y <;> simp [h1, h2, h3, h4] <;> omega
set_option maxHeartbeats 1000000 in
theorem rProfile_any (s : S) (w : World) :
    Calls Tryz.prog 29 #[.agg #[.int .i64 s.x, .int .i64 s.y]] w fun e w' => e = .returned (.bool (prB s)) ∧ Below w.heap.size w w' := by
  rw [← profB_pr]
  have HV := Lib.hid (show profB s = (inB s.x 1 2000 && inB s.y 0 1500) from rfl)
  rw [HV.out]
  have H1 := Lib.hid (rin_any s.x 1 2000)
  have H2 := Lib.hid (rin_any s.y 0 1500)
  obtain ⟨b1, h1⟩ : ∃ z, inB s.x 1 2000 = z := ⟨_, rfl⟩
  obtain ⟨b2, h2⟩ : ∃ z, inB s.y 0 1500 = z := ⟨_, rfl⟩
  rw [h1] at H1; rw [h2] at H2; rw [h1, h2]
  clear h1 h2 HV
  cases b1 with
  | true =>
    go_enter Tryz.func29, Tryz.ntmps29
    go_wp2_with fail
    refine (H1.out _).mono ?_
    rintro e w1 ⟨rfl, rfl⟩
    go_wp2_with fail
    refine (H2.out _).mono ?_
    rintro e w1 ⟨rfl, rfl⟩
    go_wp2
    go_ret
    exact ⟨rfl, (Below.refl _ _).alloc (Nat.le_refl _) _⟩
  | false =>
    go_enter Tryz.func29, Tryz.ntmps29
    go_wp2_with fail
    refine (H1.out _).mono ?_
    rintro e w1 ⟨rfl, rfl⟩
    go_wp2
    go_ret
    exact ⟨rfl, (Below.refl _ _).alloc (Nat.le_refl _) _⟩
end Go.Proofs.YtekambdnmaompaaGreat.SW

namespace Go.Proofs.YtekambdnmaompaaGreat.SW
set_option linter.unusedVariables false
set_option linter.unusedSimpArgs false
open Go.RowKit

def segN (p : Pl) (r : Int) : Nat := ((p.rails[r.toNat]?).map (fun x => x.shape.length)).getD 0
def stripB (p : Pl) (r k : Int) : Bool := railIn p r && inB k 0 (segN p r)
theorem segN_eq {p : Pl} {r : Nat} (h : r < p.rails.length) : segN p (r : Int) = p.rails[r].shape.length := by simp [segN, h]
theorem two_box (w : World) (a b : Array Value) (t1 t2 : TypeId) (i : Nat) : ((w.alloc (.cells a t1)).alloc (.cells b t2)).cell? ⟨w.heap.size, i, none⟩ = a[i]? ∧ ((w.alloc (.cells a t1)).alloc (.cells b t2)).cell? ⟨w.heap.size + 1, i, none⟩ = b[i]? := by
  have h := cell_new1 (w.alloc (.cells a t1)) b t2 i
  rw [World.size_alloc] at h
  exact ⟨cell_keep1 (cell_new1 w a t1 i) (by simp), h⟩
/-- two boxes of two cells each -/
def P22 (k : Nat) (a b c d : Value) (w' : World) : Prop := w'.cell? ⟨k, 0, none⟩ = some a ∧ w'.cell? ⟨k, 1, none⟩ = some b ∧ w'.cell? ⟨k + 1, 0, none⟩ = some c ∧ w'.cell? ⟨k + 1, 1, none⟩ = some d
theorem P22.start (w : World) (a b c d : Value) (t1 t2 : TypeId) : P22 w.heap.size a b c d ((w.alloc (.cells #[a, b] t1)).alloc (.cells #[c, d] t2)) :=
  have h := fun i => two_box w #[a, b] #[c, d] t1 t2 i
  ⟨(h 0).1, (h 1).1, (h 0).2, (h 1).2⟩
theorem P22.keep {k B : Nat} {a b c d : Value} {w w' : World} (h : P22 k a b c d w) (hb : Below B w w') (hk : k + 1 < B) : P22 k a b c d w' := by
  obtain ⟨h0, h1, h2, h3⟩ := h
  exact ⟨(hb.cell (p := ⟨k, 0, none⟩) (by simp; omega)).trans h0, (hb.cell (p := ⟨k, 1, none⟩) (by simp; omega)).trans h1, (hb.cell (p := ⟨k + 1, 0, none⟩) (by simp; omega)).trans h2, (hb.cell (p := ⟨k + 1, 1, none⟩) (by simp; omega)).trans h3⟩
set_option maxRecDepth 100000 in
set_option maxHeartbeats 4000000 in
theorem rStrip_any (A A2 : Option Addr) (c c2 : Nat) (p : Pl) (r k : Int) (w : World) (hP : PlAt w w.heap.size A c A2 c2 p) (hV : Vld p) :
    Calls Tryz.prog 25 #[.agg #[.slice A p.nodes.length c, .slice A2 p.rails.length c2], .agg #[.int .i64 r, .int .i64 k]] w fun e w' => e = .returned (.bool (stripB p r k)) ∧ Below w.heap.size w w' := by
  have hrc := hP.rc; have hrm := hP.rm
  obtain ⟨N, hN⟩ : ∃ z, p.rails.length = z := ⟨_, rfl⟩
  obtain ⟨M, hM⟩ : ∃ z, p.nodes.length = z := ⟨_, rfl⟩
  rw [hN] at hrc
  rw [hM, hN]
  have hb1 := ((Below.refl _ w).alloc (Nat.le_refl _) (.cells #[.slice A M c, .slice A2 N c2] 25)).alloc (by simp) (.cells #[.int .i64 r, .int .i64 k] 34)
  have hp := P22.start w (.slice A M c) (.slice A2 N c2) (.int .i64 r) (.int .i64 k) 25 34
  have hz : ((w.alloc (.cells #[.slice A M c, .slice A2 N c2] 25)).alloc (.cells #[.int .i64 r, .int .i64 k] 34)).heap.size = w.heap.size + 2 := by simp
  obtain ⟨W1, hW1⟩ : ∃ z, (w.alloc (.cells #[.slice A M c, .slice A2 N c2] 25)).alloc (.cells #[.int .i64 r, .int .i64 k] 34) = z := ⟨_, rfl⟩
  rw [hW1] at hb1 hp hz
  have HK := Lib.hid (show ∀ wx, Below W1.heap.size W1 wx → P22 w.heap.size (.slice A M c) (.slice A2 N c2) (.int .i64 r) (.int .i64 k) wx from fun wx h => hp.keep h (by omega))
  have HB1 := Lib.hid hb1
  have HPB := Lib.hid (show ∀ wx, Below W1.heap.size W1 wx → PlAt wx wx.heap.size A c A2 c2 p from fun wx h => ((hP.below hb1).below (h.mono hb1.size)).more (Nat.le_trans hb1.size h.size))
  have HI1 := Lib.hid (show ∀ w, Calls Tryz.prog 64 #[.int .i64 r, .int .i64 0, .int .i64 ((p.rails.length : Int) - 1)] w fun e w' => e = .returned (.bool (railIn p r)) ∧ w = w' from fun w => by
    have := rin_any r 0 ((p.rails.length : Int) - 1) w
    rwa [show inB r 0 ((p.rails.length : Int) - 1) = railIn p r by unfold inB railIn; rw [← Bool.decide_and]; exact decide_eq_decide.2 (by omega)] at this)
  have HI2 := Lib.hid (show ∀ w, Calls Tryz.prog 64 #[.int .i64 k, .int .i64 0, .int .i64 (segN p r : Nat)] w fun e w' => e = .returned (.bool (inB k 0 (segN p r))) ∧ w = w' from fun w => rin_any k 0 _ w)
  have HV := Lib.hid (show stripB p r k = (railIn p r && inB k 0 (segN p r)) from rfl)
  rw [HV.out]
  obtain ⟨ib, hib⟩ : ∃ z, inB k 0 (segN p r) = z := ⟨_, rfl⟩
  rw [hib] at HI2
  rw [hib]
  have w1' : IntKind.i64.wrap ((N : Int) - 1) = (N : Int) - 1 := by rw [IntKind.wrap_i64]; omega
  cases hri : railIn p r with
  | true =>
    have h2 := of_decide_eq_true hri
    obtain ⟨n, rfl⟩ := Int.eq_ofNat_of_zero_le h2.1
    have hnl : n < p.rails.length := by omega
    have hsg := (Vld.rl hV hnl).hs
    have HST := Lib.hid (fun (W : World) (hW : PlAt W W.heap.size A c A2 c2 p) => rStrips_any A A2 c c2 p n (p.rails[n].shape.length + 1) W hW hnl rfl (by omega))
    obtain ⟨m, hm⟩ : ∃ z, p.rails[n].shape.length = z := ⟨_, rfl⟩
    rw [segN_eq hnl, hm] at HI2
    rw [hm] at HST hsg
    rw [hri] at HI1
    rw [Bool.true_and]
    rw [hN] at HI1
    rw [hM, hN] at HST
    have w2' : IntKind.i64.wrap (m : Int) = (m : Int) := by rw [IntKind.wrap_i64]; omega
    clear hp hb1 hP hN hM hri h2 hm hnl hib hrc hV
    go_enter Tryz.func25, Tryz.ntmps25
    go_upto_region 1 with (fail)
    clear hW1
    have hbq : Below W1.heap.size W1 W1.drew := (Below.refl _ _).drew
    have HS := Lib.hid (HK.out _ hbq)
    refine wp_region_held_drew (S := P22 w.heap.size (.slice A M c) (.slice A2 N c2) (.int .i64 n) (.int .i64 k)) (by kernel_rfl) HS.out (fun _ => ?_)
    refine hTake (i := 0) (d := 5) (v := .pointer (some ⟨w.heap.size + 1, 0, none⟩)) rfl rfl (by kernel_rfl) (by kernel_rfl) (by kernel_rfl) (fun _ _ _ h => h) (Or.inl ⟨rfl, ?gr⟩) HS.out ?_
    case gr =>
      rintro W' ⟨s0, s1, s2, s3⟩
      go_simp
    simp only [Act.put, List.setIfInBounds_toArray, List.set_cons_zero, List.set_cons_succ]
    refine hTake (i := 1) (d := 6) (v := .int .i64 n) rfl rfl (by kernel_rfl) (by kernel_rfl) (by kernel_rfl) (fun _ _ _ h => h) (Or.inl ⟨rfl, ?gr⟩) HS.out ?_
    case gr =>
      rintro W' ⟨s0, s1, s2, s3⟩
      go_simp
    simp only [Act.put, List.setIfInBounds_toArray, List.set_cons_zero, List.set_cons_succ]
    refine hTake (i := 2) (d := 7) (v := .pointer (some ⟨w.heap.size, 1, none⟩)) rfl rfl (by kernel_rfl) (by kernel_rfl) (by kernel_rfl) (fun _ _ _ h => h) (Or.inl ⟨rfl, ?gr⟩) HS.out ?_
    case gr =>
      rintro W' ⟨s0, s1, s2, s3⟩
      go_simp
    simp only [Act.put, List.setIfInBounds_toArray, List.set_cons_zero, List.set_cons_succ]
    refine hTake (i := 3) (d := 8) (v := .slice A2 N c2) rfl rfl (by kernel_rfl) (by kernel_rfl) (by kernel_rfl) (fun _ _ _ h => h) (Or.inl ⟨rfl, ?gr⟩) HS.out ?_
    case gr =>
      rintro W' ⟨s0, s1, s2, s3⟩
      go_simp
    simp only [Act.put, List.setIfInBounds_toArray, List.set_cons_zero, List.set_cons_succ]
    refine hTake (i := 4) (d := 9) (v := .int .i64 N) rfl rfl (by kernel_rfl) (by kernel_rfl) (by kernel_rfl) (fun _ _ _ h => h) (Or.inl ⟨rfl, ?gr⟩) HS.out ?_
    case gr =>
      rintro W' ⟨s0, s1, s2, s3⟩
      go_simp
    simp only [Act.put, List.setIfInBounds_toArray, List.set_cons_zero, List.set_cons_succ]
    refine hTake (i := 5) (d := 10) (v := .int .i64 ((N : Int) - 1)) rfl rfl (by kernel_rfl) (by kernel_rfl) (by kernel_rfl) (fun _ _ _ h => h) (Or.inl ⟨rfl, ?gr⟩) HS.out ?_
    case gr =>
      rintro W' ⟨s0, s1, s2, s3⟩
      go_simp
    simp only [Act.put, List.setIfInBounds_toArray, List.set_cons_zero, List.set_cons_succ]
    refine wpAnyH_ready (rs := [6]) (by kernel_rfl) (by simp) ?_
    refine AllReadyH.cons rfl (fun K hK => ?_) AllReadyH.nil
    rw [if_pos (by rfl)]
    go_simp
    go_at_call 64
    (with_reducible refine (HI1.out _).mono ?_)
    rintro e v1 ⟨rfl, rfl⟩
    refine hK.out _ _ HS.out (fun _ => ?_)
    clear hK K
    try simp only [Act.put, List.setIfInBounds_toArray, List.set_cons_zero, List.set_cons_succ]
    refine hTake (i := 7) (d := 12) (v := .bool true) rfl rfl (by kernel_rfl) (by kernel_rfl) (by kernel_rfl) (fun _ _ _ h => h) (Or.inl ⟨rfl, ?gr⟩) HS.out ?_
    case gr =>
      rintro W' ⟨s0, s1, s2, s3⟩
      go_simp
    simp only [Act.put, List.setIfInBounds_toArray, List.set_cons_zero, List.set_cons_succ]
    refine hTake (i := 8) (d := 13) (v := .pointer (some ⟨w.heap.size + 1, 1, none⟩)) rfl rfl (by kernel_rfl) (by kernel_rfl) (by kernel_rfl) (fun _ _ _ h => h) (Or.inl ⟨rfl, ?gr⟩) HS.out ?_
    case gr =>
      rintro W' ⟨s0, s1, s2, s3⟩
      go_simp
    simp only [Act.put, List.setIfInBounds_toArray, List.set_cons_zero, List.set_cons_succ]
    refine hTake (i := 9) (d := 14) (v := .int .i64 k) rfl rfl (by kernel_rfl) (by kernel_rfl) (by kernel_rfl) (fun _ _ _ h => h) (Or.inl ⟨rfl, ?gr⟩) HS.out ?_
    case gr =>
      rintro W' ⟨s0, s1, s2, s3⟩
      go_simp
    simp only [Act.put, List.setIfInBounds_toArray, List.set_cons_zero, List.set_cons_succ]
    refine hTake (i := 10) (d := 15) (v := .agg #[.slice A M c, .slice A2 N c2]) rfl rfl (by kernel_rfl) (by kernel_rfl) (by kernel_rfl) (fun _ _ _ h => h) (Or.inl ⟨rfl, ?gr⟩) HS.out ?_
    case gr =>
      rintro W' ⟨s0, s1, s2, s3⟩
      go_simp
    simp only [Act.put, List.setIfInBounds_toArray, List.set_cons_zero, List.set_cons_succ]
    refine hTake (i := 11) (d := 16) (v := .pointer (some ⟨w.heap.size + 1, 0, none⟩)) rfl rfl (by kernel_rfl) (by kernel_rfl) (by kernel_rfl) (fun _ _ _ h => h) (Or.inl ⟨rfl, ?gr⟩) HS.out ?_
    case gr =>
      rintro W' ⟨s0, s1, s2, s3⟩
      go_simp
    simp only [Act.put, List.setIfInBounds_toArray, List.set_cons_zero, List.set_cons_succ]
    refine hTake (i := 12) (d := 17) (v := .int .i64 n) rfl rfl (by kernel_rfl) (by kernel_rfl) (by kernel_rfl) (fun _ _ _ h => h) (Or.inl ⟨rfl, ?gr⟩) HS.out ?_
    case gr =>
      rintro W' ⟨s0, s1, s2, s3⟩
      go_simp
    simp only [Act.put, List.setIfInBounds_toArray, List.set_cons_zero, List.set_cons_succ]
    refine wpAnyH_ready (rs := [13]) (by kernel_rfl) (by simp) ?_
    refine AllReadyH.cons rfl (fun K hK => ?_) AllReadyH.nil
    rw [if_pos (by rfl)]
    go_simp
    go_at_call 20
    (with_reducible refine (HST.out _ (HPB.out _ hbq)).mono ?_)
    rintro e v2 ⟨rfl, hb5⟩
    replace hbq := hbq.trans (hb5.mono hbq.size)
    have HS := Lib.hid (HK.out _ hbq)
    clear hb5
    refine hK.out _ _ HS.out (fun _ => ?_)
    clear hK K
    try simp only [Act.put, List.setIfInBounds_toArray, List.set_cons_zero, List.set_cons_succ]
    refine hTake (i := 14) (d := 19) (v := .int .i64 (m : Int)) rfl rfl (by kernel_rfl) (by kernel_rfl) (by kernel_rfl) (fun _ _ _ h => h) (Or.inl ⟨rfl, ?gr⟩) HS.out ?_
    case gr =>
      rintro W' ⟨s0, s1, s2, s3⟩
      go_simp
    simp only [Act.put, List.setIfInBounds_toArray, List.set_cons_zero, List.set_cons_succ]
    refine wpAnyH_ready (rs := [15]) (by kernel_rfl) (by simp) ?_
    refine AllReadyH.cons rfl (fun K hK => ?_) AllReadyH.nil
    rw [if_pos (by rfl)]
    go_simp
    go_at_call 64
    (with_reducible refine (HI2.out _).mono ?_)
    rintro e v3 ⟨rfl, rfl⟩
    refine hK.out _ _ HS.out (fun _ => ?_)
    clear hK K
    try simp only [Act.put, List.setIfInBounds_toArray, List.set_cons_zero, List.set_cons_succ]
    refine hTake (i := 16) (d := 21) (v := .bool ib) rfl rfl (by kernel_rfl) (by kernel_rfl) (by kernel_rfl) (fun _ _ _ h => h) (Or.inl ⟨rfl, ?gr⟩) HS.out ?_
    case gr =>
      rintro W' ⟨s0, s1, s2, s3⟩
      go_simp
    simp only [Act.put, List.setIfInBounds_toArray, List.set_cons_zero, List.set_cons_succ]
    refine hTake (i := 17) (d := 4) (v := .bool ib) rfl rfl (by kernel_rfl) (by kernel_rfl) (by kernel_rfl) (fun _ _ _ h => h) (Or.inl ⟨rfl, ?gr⟩) HS.out ?_
    case gr =>
      rintro W' ⟨s0, s1, s2, s3⟩
      go_simp
    simp only [Act.put, List.setIfInBounds_toArray, List.set_cons_zero, List.set_cons_succ]
    refine wpAnyH_done (by kernel_rfl) ?_ _
    go_wp2
    go_ret
    exact ⟨rfl, HB1.out.trans (hbq.mono HB1.out.size)⟩
  | false =>
    rw [hri] at HI1
    rw [Bool.false_and]
    rw [hN] at HI1
    clear hp hb1 hP hN hM hri hrc hib hV
    go_enter Tryz.func25, Tryz.ntmps25
    go_upto_region 1 with (fail)
    clear hW1
    have hbq : Below W1.heap.size W1 W1.drew := (Below.refl _ _).drew
    have HS := Lib.hid (HK.out _ hbq)
    refine wp_region_held_drew (S := P22 w.heap.size (.slice A M c) (.slice A2 N c2) (.int .i64 r) (.int .i64 k)) (by kernel_rfl) HS.out (fun _ => ?_)
    refine hTake (i := 0) (d := 5) (v := .pointer (some ⟨w.heap.size + 1, 0, none⟩)) rfl rfl (by kernel_rfl) (by kernel_rfl) (by kernel_rfl) (fun _ _ _ h => h) (Or.inl ⟨rfl, ?gr⟩) HS.out ?_
    case gr =>
      rintro W' ⟨s0, s1, s2, s3⟩
      go_simp
    simp only [Act.put, List.setIfInBounds_toArray, List.set_cons_zero, List.set_cons_succ]
    refine hTake (i := 1) (d := 6) (v := .int .i64 r) rfl rfl (by kernel_rfl) (by kernel_rfl) (by kernel_rfl) (fun _ _ _ h => h) (Or.inl ⟨rfl, ?gr⟩) HS.out ?_
    case gr =>
      rintro W' ⟨s0, s1, s2, s3⟩
      go_simp
    simp only [Act.put, List.setIfInBounds_toArray, List.set_cons_zero, List.set_cons_succ]
    refine hTake (i := 2) (d := 7) (v := .pointer (some ⟨w.heap.size, 1, none⟩)) rfl rfl (by kernel_rfl) (by kernel_rfl) (by kernel_rfl) (fun _ _ _ h => h) (Or.inl ⟨rfl, ?gr⟩) HS.out ?_
    case gr =>
      rintro W' ⟨s0, s1, s2, s3⟩
      go_simp
    simp only [Act.put, List.setIfInBounds_toArray, List.set_cons_zero, List.set_cons_succ]
    refine hTake (i := 3) (d := 8) (v := .slice A2 N c2) rfl rfl (by kernel_rfl) (by kernel_rfl) (by kernel_rfl) (fun _ _ _ h => h) (Or.inl ⟨rfl, ?gr⟩) HS.out ?_
    case gr =>
      rintro W' ⟨s0, s1, s2, s3⟩
      go_simp
    simp only [Act.put, List.setIfInBounds_toArray, List.set_cons_zero, List.set_cons_succ]
    refine hTake (i := 4) (d := 9) (v := .int .i64 N) rfl rfl (by kernel_rfl) (by kernel_rfl) (by kernel_rfl) (fun _ _ _ h => h) (Or.inl ⟨rfl, ?gr⟩) HS.out ?_
    case gr =>
      rintro W' ⟨s0, s1, s2, s3⟩
      go_simp
    simp only [Act.put, List.setIfInBounds_toArray, List.set_cons_zero, List.set_cons_succ]
    refine hTake (i := 5) (d := 10) (v := .int .i64 ((N : Int) - 1)) rfl rfl (by kernel_rfl) (by kernel_rfl) (by kernel_rfl) (fun _ _ _ h => h) (Or.inl ⟨rfl, ?gr⟩) HS.out ?_
    case gr =>
      rintro W' ⟨s0, s1, s2, s3⟩
      go_simp
    simp only [Act.put, List.setIfInBounds_toArray, List.set_cons_zero, List.set_cons_succ]
    refine wpAnyH_ready (rs := [6]) (by kernel_rfl) (by simp) ?_
    refine AllReadyH.cons rfl (fun K hK => ?_) AllReadyH.nil
    rw [if_pos (by rfl)]
    go_simp
    go_at_call 64
    (with_reducible refine (HI1.out _).mono ?_)
    rintro e v1 ⟨rfl, rfl⟩
    refine hK.out _ _ HS.out (fun _ => ?_)
    clear hK K
    try simp only [Act.put, List.setIfInBounds_toArray, List.set_cons_zero, List.set_cons_succ]
    refine hTake (i := 7) (d := 12) (v := .bool false) rfl rfl (by kernel_rfl) (by kernel_rfl) (by kernel_rfl) (fun _ _ _ h => h) (Or.inl ⟨rfl, ?gr⟩) HS.out ?_
    case gr =>
      rintro W' ⟨s0, s1, s2, s3⟩
      go_simp
    simp only [Act.put, List.setIfInBounds_toArray, List.set_cons_zero, List.set_cons_succ]
    refine hTake (i := 8) (d := 13) (v := undef) rfl rfl (by kernel_rfl) (by kernel_rfl) (by kernel_rfl) (fun _ _ _ h => h) (Or.inr ⟨rfl, rfl⟩) HS.out ?_
    simp only [Act.put, List.setIfInBounds_toArray, List.set_cons_zero, List.set_cons_succ]
    refine hTake (i := 9) (d := 14) (v := undef) rfl rfl (by kernel_rfl) (by kernel_rfl) (by kernel_rfl) (fun _ _ _ h => h) (Or.inr ⟨rfl, rfl⟩) HS.out ?_
    simp only [Act.put, List.setIfInBounds_toArray, List.set_cons_zero, List.set_cons_succ]
    refine hTake (i := 10) (d := 15) (v := undef) rfl rfl (by kernel_rfl) (by kernel_rfl) (by kernel_rfl) (fun _ _ _ h => h) (Or.inr ⟨rfl, rfl⟩) HS.out ?_
    simp only [Act.put, List.setIfInBounds_toArray, List.set_cons_zero, List.set_cons_succ]
    refine hTake (i := 11) (d := 16) (v := undef) rfl rfl (by kernel_rfl) (by kernel_rfl) (by kernel_rfl) (fun _ _ _ h => h) (Or.inr ⟨rfl, rfl⟩) HS.out ?_
    simp only [Act.put, List.setIfInBounds_toArray, List.set_cons_zero, List.set_cons_succ]
    refine hTake (i := 12) (d := 17) (v := undef) rfl rfl (by kernel_rfl) (by kernel_rfl) (by kernel_rfl) (fun _ _ _ h => h) (Or.inr ⟨rfl, rfl⟩) HS.out ?_
    simp only [Act.put, List.setIfInBounds_toArray, List.set_cons_zero, List.set_cons_succ]
    refine hTake (i := 13) (d := 18) (v := undef) rfl rfl (by kernel_rfl) (by kernel_rfl) (by kernel_rfl) (fun _ _ _ h => h) (Or.inr ⟨rfl, rfl⟩) HS.out ?_
    simp only [Act.put, List.setIfInBounds_toArray, List.set_cons_zero, List.set_cons_succ]
    refine hTake (i := 14) (d := 19) (v := undef) rfl rfl (by kernel_rfl) (by kernel_rfl) (by kernel_rfl) (fun _ _ _ h => h) (Or.inr ⟨rfl, rfl⟩) HS.out ?_
    simp only [Act.put, List.setIfInBounds_toArray, List.set_cons_zero, List.set_cons_succ]
    refine hTake (i := 15) (d := 20) (v := undef) rfl rfl (by kernel_rfl) (by kernel_rfl) (by kernel_rfl) (fun _ _ _ h => h) (Or.inr ⟨rfl, rfl⟩) HS.out ?_
    simp only [Act.put, List.setIfInBounds_toArray, List.set_cons_zero, List.set_cons_succ]
    refine hTake (i := 16) (d := 21) (v := .bool false) rfl rfl (by kernel_rfl) (by kernel_rfl) (by kernel_rfl) (fun _ _ _ h => h) (Or.inl ⟨rfl, ?gr⟩) HS.out ?_
    case gr =>
      rintro W' ⟨s0, s1, s2, s3⟩
      go_simp
    simp only [Act.put, List.setIfInBounds_toArray, List.set_cons_zero, List.set_cons_succ]
    refine hTake (i := 17) (d := 4) (v := .bool false) rfl rfl (by kernel_rfl) (by kernel_rfl) (by kernel_rfl) (fun _ _ _ h => h) (Or.inl ⟨rfl, ?gr⟩) HS.out ?_
    case gr =>
      rintro W' ⟨s0, s1, s2, s3⟩
      go_simp
    simp only [Act.put, List.setIfInBounds_toArray, List.set_cons_zero, List.set_cons_succ]
    refine wpAnyH_done (by kernel_rfl) ?_ _
    go_wp2
    go_ret
    exact ⟨rfl, HB1.out.trans (hbq.mono HB1.out.size)⟩

theorem rows3 (w : World) (a b c : Array Value) (t1 t2 t3 : TypeId) : Rw (((w.alloc (.cells a t1)).alloc (.cells b t2)).alloc (.cells c t3)) w.heap.size t1 a ∧ Rw (((w.alloc (.cells a t1)).alloc (.cells b t2)).alloc (.cells c t3)) (w.heap.size + 1) t2 b ∧
    Rw (((w.alloc (.cells a t1)).alloc (.cells b t2)).alloc (.cells c t3)) (w.heap.size + 1 + 1) t3 c := by
  have q1 := ((Rw.new w a t1).alloc (.cells b t2)).alloc (.cells c t3)
  have q2 := (Rw.new (w.alloc (.cells a t1)) b t2).alloc (.cells c t3)
  have q3 := Rw.new ((w.alloc (.cells a t1)).alloc (.cells b t2)) c t3
  simp only [World.size_alloc] at q2 q3
  exact ⟨q1, q2, q3⟩
theorem rows2 (w : World) (a b : Array Value) (t1 t2 : TypeId) : Rw ((w.alloc (.cells a t1)).alloc (.cells b t2)) w.heap.size t1 a ∧ Rw ((w.alloc (.cells a t1)).alloc (.cells b t2)) (w.heap.size + 1) t2 b := by
  have q1 := (Rw.new w a t1).alloc (.cells b t2)
  have q2 := Rw.new (w.alloc (.cells a t1)) b t2
  simp only [World.size_alloc] at q2
  exact ⟨q1, q2⟩
end Go.Proofs.YtekambdnmaompaaGreat.SW

namespace Go.Proofs.YtekambdnmaompaaGreat.SW
set_option linter.unusedVariables false
set_option linter.unusedSimpArgs false
open Go.RowKit

theorem sepSeg_nn (s a b : S) : 0 ≤ (sepSeg s a b).under := by
  unfold sepSeg sepSpot
  split
  · simp
  · split
    · simp
    · unfold sq2
      have h1 := sq_nn (b.x - a.x)
      have h2 := sq_nn (b.y - a.y)
      simp only
      omega
end Go.Proofs.YtekambdnmaompaaGreat.SW

namespace Go.Proofs.YtekambdnmaompaaGreat.SW
set_option linter.unusedVariables false
set_option linter.unusedSimpArgs false
open Go.RowKit

end Go.Proofs.YtekambdnmaompaaGreat.SW

namespace Go.Proofs.YtekambdnmaompaaGreat.SW
set_option linter.unusedVariables false
set_option linter.unusedSimpArgs false
open Go.RowKit

theorem vi {a b : Int} (h : a = b) : Value.int .i64 a = .int .i64 b := by rw [h]
end Go.Proofs.YtekambdnmaompaaGreat.SW

namespace Go.Proofs.YtekambdnmaompaaGreat.SW
set_option linter.unusedVariables false
set_option linter.unusedSimpArgs false
open Go.RowKit

theorem rows5 (w : World) (a b c d e : Array Value) (t1 t2 t3 t4 t5 : TypeId) :
    Rw (((((w.alloc (.cells a t1)).alloc (.cells b t2)).alloc (.cells c t3)).alloc (.cells d t4)).alloc (.cells e t5)) w.heap.size t1 a ∧ Rw (((((w.alloc (.cells a t1)).alloc (.cells b t2)).alloc (.cells c t3)).alloc (.cells d t4)).alloc (.cells e t5)) (w.heap.size + 1) t2 b ∧
    Rw (((((w.alloc (.cells a t1)).alloc (.cells b t2)).alloc (.cells c t3)).alloc (.cells d t4)).alloc (.cells e t5)) (w.heap.size + 1 + 1) t3 c ∧ Rw (((((w.alloc (.cells a t1)).alloc (.cells b t2)).alloc (.cells c t3)).alloc (.cells d t4)).alloc (.cells e t5)) (w.heap.size + 1 + 1 + 1) t4 d ∧
    Rw (((((w.alloc (.cells a t1)).alloc (.cells b t2)).alloc (.cells c t3)).alloc (.cells d t4)).alloc (.cells e t5)) (w.heap.size + 1 + 1 + 1 + 1) t5 e := by
  obtain ⟨q1, q2, q3⟩ := rows3 w a b c t1 t2 t3
  obtain ⟨q4, q5⟩ := rows2 (((w.alloc (.cells a t1)).alloc (.cells b t2)).alloc (.cells c t3)) d e t4 t5
  simp only [World.size_alloc] at q4 q5
  exact ⟨(q1.alloc _).alloc _, (q2.alloc _).alloc _, (q3.alloc _).alloc _, q4, q5⟩
/-- what the loops of Foul read -/
structure FM (kx ky e f : Nat) (hx sx hy sy : Int) (s t u v : S) (A1 A2 : Option Addr) (K M : List S) (wx : World) : Prop where
  x : Rw wx kx 46 #[.int .i64 hx, .int .i64 sx]
  y : Rw wx ky 46 #[.int .i64 hy, .int .i64 sy]
  s : Rw wx e 82 #[.int .i64 s.x, .int .i64 s.y]
  t : Rw wx (e + 1) 82 #[.int .i64 t.x, .int .i64 t.y]
  u : Rw wx f 82 #[.int .i64 u.x, .int .i64 u.y]
  v : Rw wx (f + 1) 82 #[.int .i64 v.x, .int .i64 v.y]
  K : Sl wx wx.heap.size 2 CS A1 K
  M : Sl wx wx.heap.size 2 CS A2 M
theorem FM.below {kx ky e f : Nat} {hx sx hy sy : Int} {s t u v : S} {A1 A2 : Option Addr} {K M : List S} {w w' : World} (h : FM kx ky e f hx sx hy sy s t u v A1 A2 K M w) (hb : Below w.heap.size w w') : FM kx ky e f hx sx hy sy s t u v A1 A2 K M w' :=
  ⟨h.x.below hb h.x.lt, h.y.below hb h.y.lt, h.s.below hb h.s.lt, h.t.below hb h.t.lt, h.u.below hb h.u.lt, h.v.below hb h.v.lt, (h.K.below hb).more (fun _ _ h => h) hb.size, (h.M.below hb).more (fun _ _ h => h) hb.size⟩
end Go.Proofs.YtekambdnmaompaaGreat.SW
