/- Contracts: the first of the least pairs. -/
import Derived.Test.YtekambdnmaompaaGreatK4
namespace Go.Proofs.YtekambdnmaompaaGreat.SW
set_option linter.unusedVariables false
set_option linter.unusedSimpArgs false
open Go.RowKit

def fP (r r2 : Nat) (q : W3) : List Value := [.int .i64 (r : Int), .int .i64 (q.i : Int), .int .i64 (r2 : Int), .int .i64 (q.k : Int), .int .i64 (q.g : Int)]
theorem fP_len (r r2 : Nat) (q : W3) : (fP r r2 q).length = 5 := rfl
theorem fP_one (r r2 : Nat) (q : W3) : ∀ u ∈ fP r r2 q, u.oneCell' = true := by simp [fP, Value.oneCell']
theorem res_c {P : Program} {fn : Func} {p : Tmp} {ty : TypeId} (h : fn.results = #[.cell p ty]) (tmps : Array Value) (w : World) (g : Nat) (t : TypeId) (cs : Array Value) (d : TypeDesc)
    (hp : tmps.getD p undef = .pointer (some ⟨g, 0, none⟩)) (hg : Rw w g t cs)
    (hu : P.underlying ty = some d) (hd : (match d with | .struct _ | .array _ _ => true | _ => false) = true) (hi : (P.info? ty).map (·.size) = some cs.size) :
    (results fn tmps).run P w = .ok (.agg cs) w := by
  have hp' : tmps[p]?.getD undef = .pointer (some ⟨g, 0, none⟩) := by simpa using hp
  simp [results, h, hp', asAddr, run_loadVar_row w g t ty cs (0, 0) d hg hu hd hi]
theorem res_cctt {P : Program} {fn : Func} {p q u u2 : Tmp} {ty ty2 : TypeId} (h : fn.results = #[.cell p ty, .cell q ty2, .tmp u, .tmp u2]) (tmps : Array Value) (w : World) (g g2 : Nat) (t t2 : TypeId) (cs cs2 : Array Value) (d d2 : TypeDesc) (v v2 : Value)
    (hp : tmps.getD p undef = .pointer (some ⟨g, 0, none⟩)) (hp2 : tmps.getD q undef = .pointer (some ⟨g2, 0, none⟩)) (hv : tmps.getD u undef = v) (hv2 : tmps.getD u2 undef = v2) (hg : Rw w g t cs) (hg2 : Rw w g2 t2 cs2)
    (hu : P.underlying ty = some d) (hd : (match d with | .struct _ | .array _ _ => true | _ => false) = true) (hi : (P.info? ty).map (·.size) = some cs.size)
    (hu2 : P.underlying ty2 = some d2) (hd2 : (match d2 with | .struct _ | .array _ _ => true | _ => false) = true) (hi2 : (P.info? ty2).map (·.size) = some cs2.size) :
    (results fn tmps).run P w = .ok (.tuple #[.agg cs, .agg cs2, v, v2]) w := by
  have hp' : tmps[p]?.getD undef = .pointer (some ⟨g, 0, none⟩) := by simpa using hp
  have hq' : tmps[q]?.getD undef = .pointer (some ⟨g2, 0, none⟩) := by simpa using hp2
  have hv' : tmps[u]?.getD undef = v := by simpa using hv
  have hv2' : tmps[u2]?.getD undef = v2 := by simpa using hv2
  simp [results, h, hp', hq', hv', hv2', asAddr, run_loadVar_row w g t ty cs (0, 0) d hg hu hd hi, run_loadVar_row w g2 t2 ty2 cs2 (0, 0) d2 hg2 hu2 hd2 hi2]
set_option maxHeartbeats 1000000 in
theorem before_any (a1 a2 a3 a4 a5 b1 b2 b3 b4 b5 : Int) (w : World) :
    Calls Tryz.prog 73 #[.agg #[.int .i64 a1, .int .i64 a2, .int .i64 a3, .int .i64 a4, .int .i64 a5], .agg #[.int .i64 b1, .int .i64 b2, .int .i64 b3, .int .i64 b4, .int .i64 b5]] w fun e w' => e = .returned (.bool (decide (a5 < b5))) ∧ Below w.heap.size w w' := by
  have HB := Lib.hid (((Below.refl _ w).alloc (Nat.le_refl _) (.cells #[.int .i64 a1, .int .i64 a2, .int .i64 a3, .int .i64 a4, .int .i64 a5] 130)).alloc (by simp) (.cells #[.int .i64 b1, .int .i64 b2, .int .i64 b3, .int .i64 b4, .int .i64 b5] 130))
  obtain ⟨q1, q2⟩ := rows2 w #[.int .i64 a1, .int .i64 a2, .int .i64 a3, .int .i64 a4, .int .i64 a5] #[.int .i64 b1, .int .i64 b2, .int .i64 b3, .int .i64 b4, .int .i64 b5] 130 130
  have e0 := q1.cell 4; have e1 := q2.cell 4
  clear q1 q2
  go_enter Tryz.func73, Tryz.ntmps73
  go_wp2
  go_ret
  exact ⟨rfl, HB.out⟩
theorem Rw.set5 {w : World} {g : Nat} {t : TypeId} {a b c d e v0 v1 v2 v3 v4 : Value} (h : Rw w g t #[a, b, c, d, e]) : Rw (((((w.setCell ⟨g, 0, none⟩ v0).setCell ⟨g, 1, none⟩ v1).setCell ⟨g, 2, none⟩ v2).setCell ⟨g, 3, none⟩ v3).setCell ⟨g, 4, none⟩ v4) g t #[v0, v1, v2, v3, v4] := ((((h.set 0 v0).set 1 v1).set 2 v2).set 3 v3).set 4 v4
theorem Rw.far5 {w : World} {g k : Nat} {t : TypeId} {cs : Array Value} {v0 v1 v2 v3 v4 : Value} (h : Rw w g t cs) (hk : g ≠ k) : Rw (((((w.setCell ⟨k, 0, none⟩ v0).setCell ⟨k, 1, none⟩ v1).setCell ⟨k, 2, none⟩ v2).setCell ⟨k, 3, none⟩ v3).setCell ⟨k, 4, none⟩ v4) g t cs := ((((h.far 0 v0 hk).far 1 v1 hk).far 2 v2 hk).far 3 v3 hk).far 4 v4 hk
theorem bel5 {B g : Nat} {w0 w : World} {v0 v1 v2 v3 v4 : Value} (h : Below B w0 w) (hg : B ≤ g) : Below B w0 (((((w.setCell ⟨g, 0, none⟩ v0).setCell ⟨g, 1, none⟩ v1).setCell ⟨g, 2, none⟩ v2).setCell ⟨g, 3, none⟩ v3).setCell ⟨g, 4, none⟩ v4) := ((((h.setCell hg _).setCell hg _).setCell hg _).setCell hg _).setCell hg _
theorem best_take {l : List W3} {x : W3} (h : l[0]? = some x) : bestP l = (l.drop 1).foldl pstep x := by
  cases l with
  | nil => cases h
  | cons y l =>
    obtain rfl : y = x := by simpa using h
    rfl
set_option maxRecDepth 100000 in
set_option maxHeartbeats 4000000 in
theorem least_any (b o c n r r2 : Nat) (l : List W3) (x : W3) (w : World) (hn : l.length = n + 1) (hn2 : n ≤ 100000) (hx : l[0]? = some x) (hb : b < w.heap.size) (hS : ∀ j q, l[j]? = some q → ∀ t u, (fP r r2 q)[t]? = some u → w.cell? ⟨b, o + j * 5 + t, none⟩ = some u) (res : W3) (hres : bestP l = res) (hc : n + 1 ≤ c) :
    Calls Tryz.prog 72 #[.slice (some ⟨b, o, none⟩) (n + 1) c, .func (.func 73) #[] #[]] w fun e w' => e = .returned (.agg #[.int .i64 (r : Int), .int .i64 (res.i : Int), .int .i64 (r2 : Int), .int .i64 (res.k : Int), .int .i64 (res.g : Int)]) ∧ Below w.heap.size w w' := by
  have HS := Lib.hid (show ∀ wx, Below w.heap.size w wx → ∀ j q, l[j]? = some q → ∀ t u, (fP r r2 q)[t]? = some u → wx.cell? ⟨b, o + j * 5 + t, none⟩ = some u from fun wx hx j q hq t u hu => (hx.cell (p := ⟨b, o + j * 5 + t, none⟩) hb).trans (hS j q hq t u hu))
  have HBS := Lib.hid (show (l.drop 1).foldl pstep x = res from by rw [← hres]; exact (best_take hx).symm)
  have e0 := hS 0 x hx 0 _ rfl
  have e1 := hS 0 x hx 1 _ rfl
  have e2 := hS 0 x hx 2 _ rfl
  have e3 := hS 0 x hx 3 _ rfl
  have e4 := hS 0 x hx 4 _ rfl
  simp only [Nat.zero_mul, Nat.add_zero] at e0 e1 e2 e3 e4
  have g0 : (0 : Int) < ((n + 1 : Nat) : Int) := by omega
  have g1 : (0 : Int) ≤ 0 := by omega
  have g2 : (1 : Int) ≤ ((n + 1 : Nat) : Int) := by omega
  have HL := Lib.hid hn
  obtain ⟨q1, q2⟩ := rows2 w #[.int .i64 0, .int .i64 0, .int .i64 0, .int .i64 0, .int .i64 0] #[.int .i64 (r : Int), .int .i64 (x.i : Int), .int .i64 (r2 : Int), .int .i64 (x.k : Int), .int .i64 (x.g : Int)] 130 130
  have hb2 := ((Below.refl _ w).alloc (Nat.le_refl _) (.cells #[.int .i64 0, .int .i64 0, .int .i64 0, .int .i64 0, .int .i64 0] 130)).alloc (by simp) (.cells #[.int .i64 (r : Int), .int .i64 (x.i : Int), .int .i64 (r2 : Int), .int .i64 (x.k : Int), .int .i64 (x.g : Int)] 130)
  have HB2 := Lib.hid hb2
  have HQ := Lib.hid (And.intro q1 q2)
  have hz2 : ((w.alloc (.cells #[.int .i64 0, .int .i64 0, .int .i64 0, .int .i64 0, .int .i64 0] 130)).alloc (.cells #[.int .i64 (r : Int), .int .i64 (x.i : Int), .int .i64 (r2 : Int), .int .i64 (x.k : Int), .int .i64 (x.g : Int)] 130)).heap.size = w.heap.size + 2 := by simp
  have HZ := Lib.hid hz2
  have hbl : b < w.heap.size := hb
  clear hS hx hres hn hb q1 q2 hb2 hz2
  by_cases hc1 : c = 1
  · subst hc1
    obtain rfl : n = 0 := by omega
    have HR := Lib.hid (show x = res from by rw [← HBS.out, List.drop_of_length_le (by rw [HL.out]; omega)]; rfl)
    go_enter Tryz.func72, Tryz.ntmps72
    go_wp2
    go_loopw [14] (fun s14 wr => s14 = .int .i64 0 ∧ Rw wr w.heap.size 130 #[.int .i64 0, .int .i64 0, .int .i64 0, .int .i64 0, .int .i64 0] ∧ Rw wr (w.heap.size + 1) 130 #[.int .i64 (r : Int), .int .i64 (x.i : Int), .int .i64 (r2 : Int), .int .i64 (x.k : Int), .int .i64 (x.g : Int)] ∧ Below w.heap.size w wr) (fun _ _ => 0)
    case atStart => exact ⟨rfl, HQ.out.1, HQ.out.2, HB2.out⟩
    case round =>
      obtain ⟨rfl, hq1, hq2, hb⟩ := hrel
      have HB := Lib.hid hb; have HQ1 := Lib.hid hq1
      have c0 := hq2.cell 0; have c1 := hq2.cell 1; have c2 := hq2.cell 2; have c3 := hq2.cell 3; have c4 := hq2.cell 4
      have d0 := hq1.cell 0; have d1 := hq1.cell 1; have d2 := hq1.cell 2; have d3 := hq1.cell 3; have d4 := hq1.cell 4
      have hf := hq1.frozen
      clear hb hq1 hq2
      go_wp2
      (try simp only [Exit.inBlock, Exit.then])
      exact bodyPost_ret (res_c rfl _ _ _ _ _ _ rfl (HQ1.out.set5) Tryz.underlying130 rfl (by kernel_rfl)) rfl ⟨by rw [HR.out], bel5 HB.out (Nat.le_refl _)⟩
  · have hc2 : 1 < c := by omega
    go_enter Tryz.func72, Tryz.ntmps72
    go_wp2
    go_loopw [14] (fun s14 wr => ∃ (j : Nat) (y : W3), j ≤ n ∧ s14 = .int .i64 (j : Int) ∧ ((l.drop 1).take j).foldl pstep x = y ∧ Rw wr w.heap.size 130 #[.int .i64 0, .int .i64 0, .int .i64 0, .int .i64 0, .int .i64 0] ∧ Rw wr (w.heap.size + 1) 130 #[.int .i64 (r : Int), .int .i64 (y.i : Int), .int .i64 (r2 : Int), .int .i64 (y.k : Int), .int .i64 (y.g : Int)] ∧ Below w.heap.size w wr) (fun s14 _ => n - (intOf s14).toNat)
    case atStart => exact ⟨0, x, Nat.zero_le _, rfl, rfl, HQ.out.1, HQ.out.2, HB2.out⟩
    case round =>
      obtain ⟨j, y, hj, rfl, hfy, hq1, hq2, hb⟩ := hrel
      have HB := Lib.hid hb; have HQ1 := Lib.hid hq1; have HQ2 := Lib.hid hq2; have HFY := Lib.hid hfy
      by_cases hjn : j < n
      · have hjj : (j : Int) < (n : Int) := by omega
        have hj0 : (0 : Int) ≤ (j : Int) := by omega
        obtain ⟨z, hz⟩ : ∃ z, l[j + 1]? = some z := ⟨_, List.getElem?_eq_getElem (by have := HL.out; omega)⟩
        have HNX := Lib.hid (show ((l.drop 1).take (j + 1)).foldl pstep x = pstep y z from by
          have hzd : (l.drop 1)[j]? = some z := by rw [List.getElem?_drop, Nat.add_comm]; exact hz
          obtain ⟨hlt, e⟩ := List.getElem?_eq_some_iff.1 hzd
          rw [List.take_succ_eq_append_getElem hlt, List.foldl_append, HFY.out, e]
          rfl)
        have hcs : ∀ t u, (fP r r2 z)[t]? = some u → wr.cell? ⟨b, o + 5 + j * 5 + t, none⟩ = some u := fun t u hu => by
          have := HS.out wr hb (j + 1) z hz t u hu
          rwa [show o + (j + 1) * 5 + t = o + 5 + j * 5 + t by omega] at this
        have f0 : wr.cell? ⟨b, o + 5 + j * 5, none⟩ = some (.int .i64 (r : Int)) := hcs 0 _ rfl
        have f1 := hcs 1 _ rfl
        have f2 := hcs 2 _ rfl
        have f3 := hcs 3 _ rfl
        have f4 := hcs 4 _ rfl
        have hb3 := hb.alloc hb.size (.cells #[.int .i64 (r : Int), .int .i64 (z.i : Int), .int .i64 (r2 : Int), .int .i64 (z.k : Int), .int .i64 (z.g : Int)] 130)
        have q3 := Rw.new wr #[.int .i64 (r : Int), .int .i64 (z.i : Int), .int .i64 (r2 : Int), .int .i64 (z.k : Int), .int .i64 (z.g : Int)] 130
        have hq13 := hq1.alloc (.cells #[.int .i64 (r : Int), .int .i64 (z.i : Int), .int .i64 (r2 : Int), .int .i64 (z.k : Int), .int .i64 (z.g : Int)] 130)
        have hq23 := hq2.alloc (.cells #[.int .i64 (r : Int), .int .i64 (z.i : Int), .int .i64 (r2 : Int), .int .i64 (z.k : Int), .int .i64 (z.g : Int)] 130)
        obtain ⟨W3, hW3⟩ : ∃ zz, wr.alloc (.cells #[.int .i64 (r : Int), .int .i64 (z.i : Int), .int .i64 (r2 : Int), .int .i64 (z.k : Int), .int .i64 (z.g : Int)] 130) = zz := ⟨_, rfl⟩
        rw [hW3] at hb3 q3 hq13 hq23
        have HB3 := Lib.hid hb3
        have HQ3 := Lib.hid (And.intro hq13 (And.intro hq23 q3))
        have c0 := hq23.cell 0; have c1 := hq23.cell 1; have c2 := hq23.cell 2; have c3 := hq23.cell 3; have c4 := hq23.cell 4
        have d0 := q3.cell 0; have d1 := q3.cell 1; have d2 := q3.cell 2; have d3 := q3.cell 3; have d4 := q3.cell 4
        clear hb hq1 hq2 hz hcs hb3 q3 hq13 hq23 hfy
        go_wp2_with fail
        refine (before_any _ _ _ _ _ _ _ _ _ _ _).mono ?_
        rintro e w4 ⟨rfl, hb4⟩
        have HB4 := Lib.hid (HB3.out.trans (hb4.mono HB3.out.size))
        have hq1 := HQ3.out.1.below hb4 HQ3.out.1.lt
        have hq2 := HQ3.out.2.1.below hb4 HQ3.out.2.1.lt
        have hq3 := HQ3.out.2.2.below hb4 HQ3.out.2.2.lt
        have HQ4 := Lib.hid (And.intro hq1 hq2)
        have c0 := hq2.cell 0; have c1 := hq2.cell 1; have c2 := hq2.cell 2; have c3 := hq2.cell 3; have c4 := hq2.cell 4
        have d0 := hq3.cell 0; have d1 := hq3.cell 1; have d2 := hq3.cell 2; have d3 := hq3.cell 3; have d4 := hq3.cell 4
        have hf := hq2.frozen
        clear hb4 hq1 hq2 hq3 hW3 f0 f1 f2 f3 f4
        by_cases hlt : (z.g : Int) < (y.g : Int)
        · have HE := Lib.hid (show ((l.drop 1).take (j + 1)).foldl pstep x = z from by rw [HNX.out]; unfold pstep; rw [if_pos (by omega)])
          go_wp2
          go_roundw
          case rel => exact ⟨j + 1, z, by omega, vi (by omega), HE.out, HQ4.out.1.far5 (by omega), HQ4.out.2.set5, bel5 HB4.out (by omega)⟩
          case measure => simp [intOf] <;> omega
        · have HE := Lib.hid (show ((l.drop 1).take (j + 1)).foldl pstep x = y from by rw [HNX.out]; unfold pstep; rw [if_neg (by omega)])
          go_wp2
          go_roundw
          case rel => exact ⟨j + 1, y, by omega, vi (by omega), HE.out, HQ4.out.1, HQ4.out.2, HB4.out⟩
          case measure => simp [intOf] <;> omega
      · obtain rfl : j = n := by omega
        have HR := Lib.hid (show y = res from by rw [← HBS.out, ← HFY.out, List.take_of_length_le (by rw [List.length_drop, HL.out]; omega)])
        have hjj : ¬ (j : Int) < (j : Int) := by omega
        have c0 := hq2.cell 0; have c1 := hq2.cell 1; have c2 := hq2.cell 2; have c3 := hq2.cell 3; have c4 := hq2.cell 4
        have d0 := hq1.cell 0; have d1 := hq1.cell 1; have d2 := hq1.cell 2; have d3 := hq1.cell 3; have d4 := hq1.cell 4
        have hf := hq1.frozen
        clear hb hq1 hq2 hfy
        go_wp2
        (try simp only [Exit.inBlock, Exit.then])
        exact bodyPost_ret (res_c rfl _ _ _ _ _ _ rfl (HQ1.out.set5) Tryz.underlying130 rfl (by kernel_rfl)) rfl ⟨by rw [HR.out], bel5 HB.out (Nat.le_refl _)⟩
end Go.Proofs.YtekambdnmaompaaGreat.SW
