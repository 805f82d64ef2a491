/- Contract: the reference's Parts. -/
import Derived.Test.YtbnfnpakibkboaaGreatKS
namespace Go.Proofs.YtbnfnpakibkboaaGreat
set_option linter.unusedVariables false
set_option linter.unusedSimpArgs false
open Go.RowKit

/-- the pairs of the first wires that are on -/
def onT (ws : List Wv) (on : List Bool) (i : Nat) : List (Nat × Nat) := (((ws.zip on).take i).filter (·.2)).map fun p => (p.1.a.toNat, p.1.b.toNat)
theorem onT_succ {ws : List Wv} {on : List Bool} {i : Nat} (h1 : i < ws.length) (h2 : i < on.length) : onT ws on (i + 1) = onT ws on i ++ (if on[i] then [(ws[i].a.toNat, ws[i].b.toNat)] else []) := by
  have hz : i < (ws.zip on).length := by rw [List.length_zip]; omega
  unfold onT
  rw [List.take_succ_eq_append_getElem hz, List.filter_append, List.map_append, List.getElem_zip]
  cases on[i] <;> simp
theorem onT_all {ws : List Wv} {on : List Bool} {n : Nat} (h : ws.length ≤ n) : onT ws on n = onP ws on := by
  unfold onT onP; rw [List.take_of_length_le (by rw [List.length_zip]; omega)]
theorem rnd_snoc (ps : List (Nat × Nat)) (p : Nat × Nat) (f : Nat → Nat) : rnd (ps ++ [p]) f = relax (rnd ps f) p := by unfold rnd; rw [List.foldl_append]; rfl
/-- the places of a part up to k -/
def partT (ps : List (Nat × Nat)) (N i k : Nat) : List Nat := (List.range k).filter (fun j => labs ps N j == i)
theorem partT_zero {ps : List (Nat × Nat)} {N i : Nat} : partT ps N i i = [] := by
  unfold partT
  rw [List.filter_eq_nil_iff]
  intro j hj
  have := labs_le ps N j
  have := List.mem_range.1 hj
  simp; omega
theorem partT_succ (ps : List (Nat × Nat)) (N i k : Nat) : partT ps N i (k + 1) = partT ps N i k ++ (if labs ps N k = i then [k] else []) := by
  unfold partT; rw [List.range_succ, List.filter_append]
  by_cases h : labs ps N k = i <;> simp [h]
theorem partT_len (ps : List (Nat × Nat)) (N i k : Nat) : (partT ps N i k).length ≤ k := by
  unfold partT; have := List.length_filter_le (fun j => labs ps N j == i) (List.range k); rw [List.length_range] at this; exact this
theorem partsTo_len (ps : List (Nat × Nat)) (N k : Nat) : (partsTo ps N k).length ≤ k := by
  unfold partsTo; rw [List.length_map]; have := List.length_filter_le (fun i => labs ps N i == i) (List.range k); rw [List.length_range] at this; exact this
theorem RR.lower {w : World} {base base' : Nat} {v : Value} {ll : List (List Int)} (h : RR w base v ll) (hb : base' ≤ base) : RR w base' v ll := by
  obtain ⟨ss, h1, h2, h3⟩ := h
  exact ⟨ss, h1.lower hb, h2, fun i sc sl a b => (h3 i sc sl a b).lower hb⟩
set_option maxRecDepth 100000 in
set_option maxHeartbeats 8000000 in
theorem rParts_any (Aw Af As At : Option Addr) (nw nf ns nt cw cf cs ct N : Nat) (g : Gv) (s : Sv) (w : World) (hN : g.nodes = N) (hN1 : 1 ≤ N) (hN2 : N ≤ 40) (hWB : wiresB N g.wires = true)
    (hG : GAt w w.heap.size Aw nw Af nf g) (hS : SAt w w.heap.size As ns At nt s) (hnt : nt = nw) :
    Calls Tryz.prog 20 #[.agg #[.int .i64 g.nodes, .slice Aw nw cw, .slice Af nf cf, .int .i64 g.least], .agg #[.slice As ns cs, .slice At nt ct]] w fun e w' => ∃ v, e = .returned v ∧ RR w' w.heap.size v ((partsL (onP g.wires s.wires) N).map nI) ∧ Below w.heap.size w w' := by
  subst hnt
  rw [hN]
  obtain ⟨i3, hi3, hz3, hs3, hy3⟩ := info_parts info3
  obtain ⟨i4, hi4, hz4, hs4, hy4⟩ := info_parts info40
  have hmk := fun W : World => run_mk (P := Tryz.prog) 40 3 i3 _ 1 Tryz.underlying40 hi3 hz3 hs3 (N : Int) (N : Int) N N rfl rfl (by omega) (by rw [hy3]; omega) (by omega) W
  have hb1 := ((Below.refl w.heap.size w).alloc (Nat.le_refl _) (.cells #[.int .i64 (N : Int), .slice Aw nt cw, .slice Af nf cf, .int .i64 g.least] 25)).alloc (by simp) (.cells #[.slice As ns cs, .slice At nt ct] 28)
  obtain ⟨q1, q2⟩ := rows2 w #[.int .i64 (N : Int), .slice Aw nt cw, .slice Af nf cf, .int .i64 g.least] #[.slice As ns cs, .slice At nt ct] 25 28
  have hG1 := (hG.below hb1).more hb1.size
  have hS1 := (hS.below hb1).more hb1.size
  have hszW : ((w.alloc (.cells #[.int .i64 (N : Int), .slice Aw nt cw, .slice Af nf cf, .int .i64 g.least] 25)).alloc (.cells #[.slice As ns cs, .slice At nt ct] 28)).heap.size = w.heap.size + 2 := by simp
  obtain ⟨W1, hW1⟩ : ∃ z, (w.alloc (.cells #[.int .i64 (N : Int), .slice Aw nt cw, .slice Af nf cf, .int .i64 g.least] 25)).alloc (.cells #[.slice As ns cs, .slice At nt ct] 28) = z := ⟨_, rfl⟩
  rw [hW1] at hb1 q1 q2 hG1 hS1 hszW
  have HSZ := Lib.hid hszW
  have HB1 := Lib.hid hb1
  have HQ := Lib.hid (show ∀ wx, Below W1.heap.size W1 wx → Rw wx w.heap.size 25 #[.int .i64 (N : Int), .slice Aw nt cw, .slice Af nf cf, .int .i64 g.least] ∧ Rw wx (w.heap.size + 1) 28 #[.slice As ns cs, .slice At nt ct] from fun wx h => ⟨q1.below h (by omega), q2.below h (by omega)⟩)
  have HG := Lib.hid (show ∀ wx, Below W1.heap.size W1 wx → GAt wx W1.heap.size Aw nt Af nf g ∧ SAt wx W1.heap.size As ns At nt s from fun wx h => ⟨hG1.below h, hS1.below h⟩)
  have HWL := Lib.hid hG1.wl; have HSW := Lib.hid hS1.wl
  have hwm := hG1.wm
  have HWB := Lib.hid hWB; have HN := Lib.hid (And.intro hN1 hN2)
  have HR1 := Lib.hid (Rf.made1 W1 (.int .i64 0) N 3)
  have HB2 := Lib.hid ((Below.refl W1.heap.size W1).alloc (Nat.le_refl _) (.cells (madeCells #[.int .i64 0] N) 3))
  have e0 := q1.cell 0; have e1 := q1.cell 1; have f1 := q2.cell 1
  clear hb1 q1 q2 hG hG1 hS hS1 hszW hWB hN
  go_enter Tryz.func20, Tryz.ntmps20
  go_upto_region 2 with (fail)
  obtain ⟨W2, hW2⟩ : ∃ z, W1.alloc (.cells (madeCells #[.int .i64 0] N) 3) = z := ⟨_, rfl⟩
  rw [hW2] at HR1 HB2 ⊢
  obtain ⟨M, hM⟩ : ∃ n, W1.heap.size = n := ⟨_, rfl⟩
  have HR := Lib.hid (show Rf W2 M 3 N (fun k => .int .i64 (if k < 0 then (k : Int) else 0)) from by rw [← hM]; exact HR1.out.congr (fun k _ => by simp))
  have HM := Lib.hid hM
  rw [hM]
  clear HR1 hmk hW2 hM e0 e1 f1
  have q1 := (HQ.out _ HB2.out).1
  have e0 := q1.cell 0; have e1 := q1.cell 1
  clear q1
  go_wp2
  clear e0 e1
  go_loopw [6] (fun sl wr => ∃ i : Nat, i ≤ N ∧ sl = .int .i64 (i : Int) ∧ Rf wr M 3 N (fun k => .int .i64 (if k < i then (k : Int) else 0)) ∧ Below W1.heap.size W1 wr) (fun sl _ => N - (intOf sl).toNat)
  case atStart => exact ⟨0, Nat.zero_le _, rfl, HR.out, HB2.out⟩
  case round =>
    clear HR HB2
    obtain ⟨i, hi, rfl, hrf, hbr⟩ := hrel
    have e0 := (HQ.out _ hbr).1.cell 0
    by_cases hin : i < N
    · have hii : (i : Int) < (N : Int) := by omega
      have hi0 : (0 : Int) ≤ (i : Int) := by omega
      have ga := hrf.cell hin
      have fa := hrf.frozen i
      have HNX := Lib.hid (show Rf (wr.setCell ⟨M, i, none⟩ (.int .i64 (i : Int))) M 3 N (fun k => .int .i64 (if k < i + 1 then (k : Int) else 0)) from (hrf.set i (.int .i64 (i : Int))).congr (fun k _ => by
        by_cases e : k = i
        · subst e; rw [if_pos rfl, if_pos (by omega)]
        · rw [if_neg e]; by_cases e2 : k < i
          · rw [if_pos e2, if_pos (by omega)]
          · rw [if_neg e2, if_neg (by omega)]))
      have HBN := Lib.hid (show Below W1.heap.size W1 (wr.setCell ⟨M, i, none⟩ (.int .i64 (i : Int))) from hbr.setCell (by rw [HM.out]; exact Nat.le_refl _) _)
      have HIN := Lib.hid hin
      clear hrf hbr hin hi
      go_wp2
      go_roundw
      case rel => exact ⟨i + 1, by have := HIN.out; omega, by simp, HNX.out, HBN.out⟩
      case measure => exact round_less HIN.out
    · have hii : ¬ (i : Int) < (N : Int) := by omega
      have hie : i = N := by omega
      subst hie
      have HR := Lib.hid (show Rf wr M 3 i (fun k => .int .i64 ((labs (onP g.wires s.wires) 0 k : Nat) : Int)) from hrf.congr (fun k hk => by rw [if_pos hk]; rfl))
      have HB2 := Lib.hid hbr
      clear hrf hbr hin hi
      go_wp2
      clear e0
      go_loopw [7] (fun sl wr => ∃ j : Nat, j ≤ i ∧ sl = .int .i64 (j : Int) ∧ Rf wr M 3 i (fun k => .int .i64 ((labs (onP g.wires s.wires) j k : Nat) : Int)) ∧ Below W1.heap.size W1 wr) (fun sl _ => i - (intOf sl).toNat)
      case atStart => exact ⟨0, Nat.zero_le _, rfl, HR.out, HB2.out⟩
      case round =>
        clear HR HB2
        obtain ⟨j, hj, rfl, hrf, hbr⟩ := hrel
        have e0 := (HQ.out _ hbr).1.cell 0; have e1 := (HQ.out _ hbr).1.cell 1
        by_cases hjn : j < i
        · have hii' : (j : Int) < (i : Int) := by omega
          have HJ := Lib.hid hjn
          have HR := Lib.hid (show Rf wr M 3 i (fun k => .int .i64 ((rnd (onT g.wires s.wires 0) (labs (onP g.wires s.wires) j) k : Nat) : Int)) from hrf)
          have HB2 := Lib.hid hbr
          clear hrf hbr hjn hj
          go_wp2
          clear e0 e1
          go_loopw [8] (fun sl wr => ∃ q : Nat, q ≤ nt ∧ sl = .int .i64 (q : Int) ∧ Rf wr M 3 i (fun k => .int .i64 ((rnd (onT g.wires s.wires q) (labs (onP g.wires s.wires) j) k : Nat) : Int)) ∧ Below W1.heap.size W1 wr) (fun sl _ => nt - (intOf sl).toNat)
          case atStart => exact ⟨0, Nat.zero_le _, rfl, HR.out, HB2.out⟩
          case round =>
            clear HR HB2
            obtain ⟨q, hq, rfl, hrf, hbr⟩ := hrel
            have e0 := (HQ.out _ hbr).1.cell 0; have e1 := (HQ.out _ hbr).1.cell 1
            have hgs := HG.out _ hbr
            by_cases hqn : q < nt
            · have hqi : (q : Int) < (nt : Int) := by omega
              have hq0 : (0 : Int) ≤ (q : Int) := by omega
              have hl1 : q < g.wires.length := by have := HWL.out; omega
              have hl2 : q < s.wires.length := by have := HSW.out; omega
              obtain ⟨b, o, rfl, hbb, c0, c1, c2, c3⟩ := wire_at hgs.1.ws hl1
              have HON := Lib.hid (onT_succ hl1 hl2)
              have HWX := Lib.hid (wiresB_at HWB.out (List.getElem_mem hl1))
              obtain ⟨x, hx⟩ : ∃ x, g.wires[q] = x := ⟨_, rfl⟩
              obtain ⟨y, hy⟩ : ∃ y, s.wires[q] = y := ⟨_, rfl⟩
              rw [hx] at c0 c1 c2 c3 HON HWX
              rw [hy] at HON
              have HY := Lib.hid (show ∀ h : q < s.wires.length, s.wires[q] = y from fun _ => hy)
              obtain ⟨na, hna⟩ : ∃ n : Nat, x.a = (n : Int) := ⟨x.a.toNat, by have := HWX.out; omega⟩
              obtain ⟨nb, hnb⟩ : ∃ n : Nat, x.b = (n : Int) := ⟨x.b.toNat, by have := HWX.out; omega⟩
              have haN : na < i := by have := HWX.out; omega
              have hbN : nb < i := by have := HWX.out; omega
              have hab : na ≠ nb := by intro e; have := HWX.out; apply this.2.2.2.2.1; rw [hna, hnb, e]
              rw [hna] at c0
              rw [hnb] at c1
              rw [hna, hnb, Int.toNat_natCast, Int.toNat_natCast] at HON
              have hb3 := (Below.refl wr.heap.size wr).alloc (Nat.le_refl _) (.cells #[.int .i64 (na : Int), .int .i64 (nb : Int), .int .i64 x.s, .bool x.sw] 60)
              have q3 := Rw.new wr #[.int .i64 (na : Int), .int .i64 (nb : Int), .int .i64 x.s, .bool x.sw] 60
              have HRF := Lib.hid hrf; have HBR := Lib.hid hbr
              clear hgs hx hy hna hnb hl1 hl2 hbb hrf hbr e0
              go_upto_region 13 with (fail)
              obtain ⟨W3, hW3⟩ : ∃ z, wr.alloc (.cells #[.int .i64 (na : Int), .int .i64 (nb : Int), .int .i64 x.s, .bool x.sw] 60) = z := ⟨_, rfl⟩
              rw [hW3] at hb3 q3 ⊢
              have hr3 := HRF.out.below hb3 HRF.out.lt
              have HB3 := Lib.hid (HBR.out.trans (hb3.mono HBR.out.size))
              obtain ⟨M3, hM3⟩ : ∃ n, wr.heap.size = n := ⟨_, rfl⟩
              rw [hM3] at q3 ⊢
              have hne : M ≠ M3 := by have := HRF.out.lt; omega
              have HRF3 := Lib.hid hr3; have HQ3 := Lib.hid q3
              have hs3 := (HG.out _ HB3.out).2
              have hl2 : q < s.wires.length := by have := HSW.out; omega
              obtain ⟨b', o', rfl, hbb', d0⟩ := bool_at hs3.ws hl2
              have f1 := (HQ.out _ HB3.out).2.cell 1
              rw [HY.out hl2] at d0
              have HQN := Lib.hid hqn
              clear hs3 hl2 hb3 hr3 hW3 c0 c1 c2 c3 hbb' hq hqn e1 hM3
              cases y with
              | false =>
                have HNX := Lib.hid (show onT g.wires s.wires (q + 1) = onT g.wires s.wires q from by rw [HON.out]; simp)
                clear q3
                go_wp2
                go_roundw
                case rel => exact ⟨q + 1, by have := HQN.out; omega, by simp, by rw [HNX.out]; exact HRF3.out, HB3.out⟩
                case measure => exact round_less HQN.out
              | true =>
                have HNX := Lib.hid (show onT g.wires s.wires (q + 1) = onT g.wires s.wires q ++ [(na, nb)] from by rw [HON.out]; simp)
                obtain ⟨F, hF⟩ : ∃ F, rnd (onT g.wires s.wires q) (labs (onP g.wires s.wires) j) = F := ⟨_, rfl⟩
                rw [hF] at HRF3
                have HF := Lib.hid hF
                have ga := HRF3.out.cell haN
                have gb := HRF3.out.cell hbN
                obtain ⟨va, hva⟩ : ∃ v, F na = v := ⟨_, rfl⟩
                obtain ⟨vb, hvb⟩ : ∃ v, F nb = v := ⟨_, rfl⟩
                rw [hva] at ga
                rw [hvb] at gb
                obtain ⟨m, hm⟩ : ∃ m : Nat, min va vb = m := ⟨_, rfl⟩
                have hmi : min (va : Int) (vb : Int) = (m : Int) := by omega
                have haI : (na : Int) < (i : Int) := by omega
                have hbI : (nb : Int) < (i : Int) := by omega
                have ha0 : (0 : Int) ≤ (na : Int) := by omega
                have hb0 : (0 : Int) ≤ (nb : Int) := by omega
                have d0' := q3.cell 0; have d1' := q3.cell 1
                have r4 := HRF3.out.set na (.int .i64 (m : Int))
                have r5 := r4.set nb (.int .i64 (m : Int))
                have fa := HRF3.out.frozen na
                have fb := r4.frozen nb
                have k0 := (q3.far na (.int .i64 (m : Int)) (Ne.symm hne)).cell 0
                have k1 := (q3.far na (.int .i64 (m : Int)) (Ne.symm hne)).cell 1
                have HEND := Lib.hid (show Rf ((W3.setCell ⟨M, na, none⟩ (.int .i64 (m : Int))).setCell ⟨M, nb, none⟩ (.int .i64 (m : Int))) M 3 i (fun k => .int .i64 ((rnd (onT g.wires s.wires (q + 1)) (labs (onP g.wires s.wires) j) k : Nat) : Int)) from r5.congr (fun k _ => by
                  rw [HNX.out, rnd_snoc, HF.out]
                  unfold relax
                  by_cases e : k = nb
                  · rw [if_pos e, if_pos (Or.inr e), hva, hvb, hm]
                  · rw [if_neg e]
                    by_cases e2 : k = na
                    · rw [if_pos e2, if_pos (Or.inl e2), hva, hvb, hm]
                    · rw [if_neg e2, if_neg (fun h => by rcases h with h | h; exact e2 h; exact e h)]))
                have HB5 := Lib.hid (show Below W1.heap.size W1 ((W3.setCell ⟨M, na, none⟩ (.int .i64 (m : Int))).setCell ⟨M, nb, none⟩ (.int .i64 (m : Int))) from (HB3.out.setCell (by rw [HM.out]; exact Nat.le_refl _) _).setCell (by rw [HM.out]; exact Nat.le_refl _) _)
                clear hF hva hvb hm r4 r5 q3 haN hbN
                go_upto_region 14 with (fail)
                refine wp_region_noPanic ?_
                go_region
                refine NoPanic.normal ?_
                (try simp only [Exit.inBlock, Exit.then])
                go_upto_region 15 with (fail)
                refine wp_region_noPanic ?_
                go_region
                refine NoPanic.normal ?_
                (try simp only [Exit.inBlock, Exit.then])
                go_wp2
                go_roundw
                case rel => exact ⟨q + 1, by have := HQN.out; omega, by simp, Rw.drew (Rw.drew HEND.out), (HB5.out.drew).drew⟩
                case measure => exact round_less HQN.out
            · have hqi : ¬ (q : Int) < (nt : Int) := by omega
              have hqe : q = nt := by omega
              subst hqe
              have HR := Lib.hid (show Rf wr M 3 i (fun k => .int .i64 ((labs (onP g.wires s.wires) (j + 1) k : Nat) : Int)) from by
                rw [onT_all (by have := HWL.out; omega)] at hrf; exact hrf)
              have HB2 := Lib.hid hbr
              clear hgs hrf hbr hqn hq
              go_wp2
              refine ⟨⟨j + 1, by have := HJ.out; omega, by simp, HR.out, HB2.out⟩, ?_⟩
              exact round_less HJ.out
        · have hii' : ¬ (j : Int) < (i : Int) := by omega
          have hje : j = i := by omega
          subst hje
          obtain ⟨ps, hps⟩ : ∃ p, onP g.wires s.wires = p := ⟨_, rfl⟩
          rw [hps] at hrf
          have HPS := Lib.hid hps
          have HR := Lib.hid hrf
          have HB2 := Lib.hid hbr
          clear hrf hbr hjn hj hps
          go_wp2
          clear e0 e1
          obtain ⟨Wp, hWp⟩ : ∃ y, y = wr := ⟨_, rfl⟩
          rw [← hWp] at HR HB2 ⊢
          clear hWp
          have HMP := Lib.hid (show M + 1 ≤ Wp.heap.size from HR.out.lt)
          go_loopw [11, 12] (fun s11 s12 wr => ∃ k : Nat, k ≤ j ∧ s12 = .int .i64 (k : Int) ∧ RR wr (M + 1) s11 ((partsTo ps j k).map nI) ∧ Rf wr M 3 j (fun k => .int .i64 ((labs ps j k : Nat) : Int)) ∧ Below W1.heap.size W1 wr) (fun _ s12 _ => j - (intOf s12).toNat)
          case atStart => exact ⟨0, Nat.zero_le _, rfl, RR.nil _ _, HR.out, HB2.out⟩
          case round =>
            clear HR HB2
            obtain ⟨k, hk, rfl, hrr, hrf, hbr⟩ := hrel
            have e0 := (HQ.out _ hbr).1.cell 0
            by_cases hkn : k < j
            · have hki : (k : Int) < (j : Int) := by omega
              have hk0 : (0 : Int) ≤ (k : Int) := by omega
              have hk1 : (k : Int) + 1 ≤ 1000 := by have := HN.out; omega
              have ga := hrf.cell hkn
              obtain ⟨lk, hlk⟩ : ∃ v, labs ps j k = v := ⟨_, rfl⟩
              rw [hlk] at ga
              have HLE := Lib.hid (show lk ≤ k from by rw [← hlk]; exact labs_le ps j k)
              have HLK := Lib.hid hlk; have HK := Lib.hid hkn
              have HRF := Lib.hid hrf; have HBR := Lib.hid hbr
              clear hrf hbr hlk hkn hk
              by_cases hlt : lk = k
              · subst hlt
                have HNX := Lib.hid (partsTo_next HLK.out)
                have HJN := Lib.hid (show j ≤ 40 from HN.out.2)
                obtain ⟨ss, hss, hsl, hrows⟩ := hrr
                obtain ⟨A6, c6, rfl, hl6, hm6, -⟩ := hss.form
                have hll : ss.length ≤ 1000 := by rw [hsl, List.length_map]; have := partsTo_len ps j lk; have := HK.out; have := HJN.out; omega
                have HSS := Lib.hid hss; have HSL := Lib.hid hsl; have HROWS := Lib.hid hrows; have HLL := Lib.hid hll
                generalize hn6' : ss.length = n6 at *
                have HN6 := Lib.hid hn6'
                have HZB := Lib.hid (show M + 1 ≤ wr.heap.size from HRF.out.lt)
                clear hss hsl hrows hl6 hm6 hll hn6'
                go_wp2
                clear e0 ga
                obtain ⟨Wb, hWb⟩ : ∃ y, y = wr := ⟨_, rfl⟩
                rw [← hWb] at HRF HBR HSS HROWS HZB ⊢
                clear hWb
                go_loopw [13, 14] (fun s13 s14 wr => ∃ z : Nat, lk ≤ z ∧ z ≤ j ∧ s14 = .int .i64 (z : Int) ∧ Own wr Wb.heap.size 3 1 fI s13 (nI (partT ps j lk z)) ∧ Below Wb.heap.size Wb wr) (fun _ s14 _ => j - (intOf s14).toNat)
                case atStart => exact ⟨lk, Nat.le_refl _, by have := HK.out; omega, rfl, by rw [partT_zero]; exact Own.nil _ _ _ _ _, Below.refl _ _⟩
                case round =>
                  obtain ⟨z, hz1, hz2, rfl, ho, hbi⟩ := hrel
                  have hbz := HBR.out.trans (hbi.mono HBR.out.size)
                  have e0 := (HQ.out _ hbz).1.cell 0
                  have hrz := HRF.out.below hbi HRF.out.lt
                  obtain ⟨A5, c5, rfl, hl5, hm5, -⟩ := ho.form
                  have hfl : (nI (partT ps j lk z)).length ≤ z := by unfold nI; rw [List.length_map]; exact partT_len ps j lk z
                  by_cases hzn : z < j
                  · generalize hn5 : (nI (partT ps j lk z)).length = n5 at *
                    have hzi : (z : Int) < (j : Int) := by omega
                    have hz0 : (0 : Int) ≤ (z : Int) := by omega
                    have hzl : (z : Int) + 1 ≤ 1000 := by have := HJN.out; omega
                    have gz := hrz.cell hzn
                    obtain ⟨lz, hlz⟩ : ∃ v, labs ps j z = v := ⟨_, rfl⟩
                    rw [hlz] at gz
                    have HTS := Lib.hid (show nI (partT ps j lk (z + 1)) = nI (partT ps j lk z) ++ (if lz = lk then [(z : Int)] else []) from by
                      rw [partT_succ, hlz]; by_cases e : lz = lk <;> simp [e, nI])
                    have HI := Lib.hid (And.intro hz1 hzn); have HBI := Lib.hid hbi; have HO := Lib.hid ho; have HFL := Lib.hid hfl; have HN5 := Lib.hid hn5
                    have HZI := Lib.hid hbi.size
                    clear hz1 hz2 hzn hbi ho hl5 hm5 hfl hn5 hlz hbz hrz
                    by_cases hzk : lz = lk
                    · have HT2 := Lib.hid (show nI (partT ps j lk (z + 1)) = nI (partT ps j lk z) ++ [(z : Int)] from by rw [HTS.out, if_pos hzk])
                      subst hzk
                      go_wp2_with (at_builtin; go_must (refine wpList_app _ rfl (.tmp 97) (.tmp 99) _ rfl Wb.heap.size 3 i3 _ 1 8 Tryz.underlying40 hi3 hz3 hs3 hy3 rfl (by omega) fI_len fI_one (.slice A5 n5 c5) (nI (partT ps j lz z)) rfl (HO.out.alloc _) _ _ [(z : Int)] 1 rfl (Sl.new _ _ (z : Int) _ rfl) (by have := HFL.out; have := HN5.out; have := HI.out; have := HJN.out; unfold maxLen; simp only [List.length_cons, List.length_nil]; omega) (by have := HFL.out; have := HN5.out; have := HI.out; have := HJN.out; simp only [List.length_cons, List.length_nil]; omega) (by have := HZI.out; simp; omega) (fun _ => .inr ⟨_, rfl⟩) ?_)
                                   intro v2 w7 ow2 gr2 at2 ne2
                                   go_must (have HO7 := Lib.hid ow2)
                                   go_must (have HB7 := Lib.hid (bGrown (HBI.out.trans (((Below.refl wr.heap.size wr).alloc (Nat.le_refl _) (.cells #[.int .i64 (z : Int)] 3)).mono HBI.out.size)) gr2 (fun j e => (HO.out.lt j e).1) (by have := HZI.out; simp; omega)))
                                   clear ow2 gr2 at2 ne2)
                      go_roundw
                      case rel => exact ⟨z + 1, by have := HI.out; omega, by have := HI.out; omega, by simp, by rw [HT2.out]; exact HO7.out, HB7.out⟩
                      case measure => exact round_less HI.out.2
                    · have HT2 := Lib.hid (show nI (partT ps j lk (z + 1)) = nI (partT ps j lk z) from by rw [HTS.out, if_neg hzk]; simp)
                      have hzke : ((lz : Int) == (lk : Int)) = false := by simp; omega
                      have hzke2 : ¬ (lz : Int) = (lk : Int) := by omega
                      go_wp2
                      go_roundw
                      case rel => exact ⟨z + 1, by have := HI.out; omega, by have := HI.out; omega, by simp, by rw [HT2.out]; exact HO.out, HBI.out⟩
                      case measure => exact round_less HI.out.2
                  · have hzi : ¬ (z : Int) < (j : Int) := by omega
                    have hze : z = j := by omega
                    subst hze
                    obtain ⟨m, hm⟩ : ∃ m, (nI (partT ps z lk z)).length = m := ⟨_, rfl⟩
                    rw [hm] at ho ⊢
                    obtain ⟨sl, hsl⟩ : ∃ s, nI (partT ps z lk z) = s := ⟨_, rfl⟩
                    rw [hsl] at hm ho hfl
                    have HFS := Lib.hid (show nI (partL ps z lk) = sl from hsl)
                    have hba := (Below.refl wr.heap.size wr).alloc (Nat.le_refl _) (.cells #[.slice A5 m c5] 40)
                    have HOS := Lib.hid ((ho.lower (base' := M + 1) HZB.out).below hba (Nat.le_refl _))
                    have hbb := hbi.trans (hba.mono hbi.size)
                    have HBB := Lib.hid (HBR.out.trans (hbb.mono HBR.out.size))
                    have HRFa := Lib.hid (hrz.below hba hrz.lt)
                    have HSSa := Lib.hid (HSS.out.below hbb (Nat.le_refl _)); have HROa := Lib.hid (show ∀ (i : Nat) (sc : Sc) (sl : List Int), ss[i]? = some sc → ((partsTo ps z lk).map nI)[i]? = some sl → Own (wr.alloc (.cells #[.slice A5 m c5] 40)) (M + 1) 3 1 fI sc.v sl from fun i sc sl h1 h2 => (HROWS.out i sc sl h1 h2).below hbb (Nat.le_refl _))
                    have HZA := Lib.hid (show M + 1 ≤ (wr.alloc (.cells #[.slice A5 m c5] 40)).heap.size from by have := HZB.out; have := hbb.size; omega)
                    clear hz1 hz2 hzn ho hbi hl5 hm5 hfl hsl hm hba hbb hbz hrz
                    go_wp2_with (at_builtin; go_must (refine wpList_app _ rfl (.tmp 101) (.tmp 103) _ rfl (M + 1) 40 i4 _ 1 24 Tryz.underlying31 hi4 hz4 hs4 hy4 rfl (by omega) fSc_len fSc_one (.slice A6 n6 c6) ss rfl HSSa.out _ _ [(⟨A5, m, c5⟩ : Sc)] 1 rfl (Sl.new _ _ (⟨A5, m, c5⟩ : Sc) _ rfl) (by have := HLL.out; have := HN6.out; unfold maxLen; simp only [List.length_cons, List.length_nil]; omega) (by have := HLL.out; have := HN6.out; simp only [List.length_cons, List.length_nil]; omega) HZA.out (fun _ => .inr ⟨_, rfl⟩) ?_)
                                 intro v2 w7 ow2 gr2 at2 ne2
                                 go_must (have HR7 := Lib.hid (RR.push HSSa.out (by rw [HN6.out]; exact HSL.out) HROa.out (sc := ⟨A5, m, c5⟩) HOS.out ow2 gr2))
                                 go_must (have HRF7 := Lib.hid (HRFa.out.grown gr2 (fun j e => by have := (HSSa.out.lt j e).1; omega)))
                                 go_must (have HB7 := Lib.hid (bGrown HBB.out gr2 (fun j e => by have := (HSSa.out.lt j e).1; have := HM.out; omega) (by have := HZA.out; have := HM.out; omega)))
                                 clear ow2 gr2 at2 ne2)
                    refine ⟨⟨lk + 1, by have := HK.out; omega, by simp, by rw [HNX.out, List.map_append, List.map_cons, List.map_nil, HFS.out]; exact HR7.out, HRF7.out, HB7.out⟩, ?_⟩
                    exact round_less HK.out
              · have HNX := Lib.hid (partsTo_skip (show labs ps j k < k from by have := HLE.out; have := HLK.out; omega))
                have hne : ¬ (lk : Int) = (k : Int) := by omega
                have hnb : ((lk : Int) != (k : Int)) = true := by simp; omega
                have hnb2 : ((lk : Int) == (k : Int)) = false := by simp; omega
                have HRR := Lib.hid hrr
                clear hrr
                go_wp2
                refine ⟨⟨k + 1, by have := HK.out; omega, by simp, by rw [HNX.out]; exact HRR.out, HRF.out, HBR.out⟩, ?_⟩
                exact round_less HK.out
            · have hki : ¬ (k : Int) < (j : Int) := by omega
              have hke : k = j := by omega
              subst hke
              have HRR := Lib.hid (show RR wr w.heap.size _ ((partsL ps k).map nI) from hrr.lower (by have := HM.out; have := HSZ.out; omega))
              have HBE := Lib.hid (HB1.out.trans (hbr.mono HB1.out.size))
              clear hrr hrf hbr hkn hk
              go_wp2
              go_ret
              refine ⟨_, rfl, ?_, HBE.out⟩
              rw [HPS.out]; exact HRR.out
end Go.Proofs.YtbnfnpakibkboaaGreat
