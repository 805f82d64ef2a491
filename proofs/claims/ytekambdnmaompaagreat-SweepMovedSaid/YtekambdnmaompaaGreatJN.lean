/- Texts L13 L14. -/
import Derived.Test.YtekambdnmaompaaGreatL12
import Derived.Test.YtekambdnmaompaaGreatJ5
namespace Go.Proofs.YtekambdnmaompaaGreat.SW
set_option linter.unusedVariables false
set_option linter.unusedSimpArgs false
open Go.RowKit
theorem f4_congr {R R' : Nat → Nat → Nat → Nat → Bool} {a x b : Nat} : ∀ {n : Nat}, (∀ y, y < n → R a x b y = R' a x b y) → f4 R a x b n = f4 R' a x b n
  | 0, _ => rfl
  | n + 1, h => by rw [f4_succ, f4_succ, f4_congr (n := n) fun y hy => h y (by omega), h n (by omega)]
theorem f3_congr {R R' : Nat → Nat → Nat → Nat → Bool} {n a x : Nat} : ∀ {k : Nat}, (∀ j, j < k → ∀ y, y < n → R a x (a + j) y = R' a x (a + j) y) → f3 R n a x k = f3 R' n a x k
  | 0, _ => rfl
  | k + 1, h => by rw [f3_succ, f3_succ, f3_congr (k := k) fun j hj y hy => h j (by omega) y hy, f4_congr (fun y hy => h k (by omega) y hy)]
theorem info95 : (Tryz.prog.info? 95).map (fun i => (i.zero, i.size, i.bytes)) = some (some (.slice none 0 0), 1, 24) := by kernel_rfl
theorem info164 : (Tryz.prog.info? 164).map (fun i => (i.zero, i.size, i.bytes)) = some (some (.agg #[.int .i64 0, .int .i64 0, .int .i64 0, .int .i64 0]), 4, 32) := by kernel_rfl
set_option maxRecDepth 100000 in
set_option maxHeartbeats 16000000 in
theorem fouls_any (A A2 AP : Option Addr) (c c2 cp N n : Nat) (p : Pl) (l : List S) (w : World) (hP : PlAt w w.heap.size A c A2 c2 p) (hV : Vld p) (hN : p.rails.length = N) (hN2 : N ≤ 12) (hn : l.length = n) (hn2 : n ≤ 6) (hS : Sl w w.heap.size 2 CS AP l) (hpr : ∀ x ∈ l, prB x = true) :
    Calls Tryz.prog 70 #[.agg #[.slice A p.nodes.length c, .slice A2 N c2], .slice AP n cp] w fun e w' => ∃ v, e = .returned v ∧ Own w' w.heap.size 60 4 fF v (foulsL p l) ∧ Below w.heap.size w w' := by
  obtain ⟨i0, hi, hz0, hz1, hz2⟩ := info_parts info95
  obtain ⟨i1, hi', hz0', hz1', hz2'⟩ := info_parts info164
  have hpr2 : ∀ x ∈ l, Pr x.x x.y := fun x hx => prB_pr (hpr x hx)
  have hb1 := (Below.refl _ w).alloc (Nat.le_refl _) (.cells #[.slice A p.nodes.length c, .slice A2 N c2] 25)
  have q1 := Rw.new w #[.slice A p.nodes.length c, .slice A2 N c2] 25
  have hzz : (w.alloc (.cells #[.slice A p.nodes.length c, .slice A2 N c2] 25)).heap.size = w.heap.size + 1 := by simp
  have HWI := Lib.hid (show ∀ wx, Below w.heap.size w wx → Calls Tryz.prog 94 #[.slice AP n cp] wx fun e w' => (∃ u0 u1 u2 u3 : Int, e = .returned (.agg #[.int .i64 u0, .int .i64 u1, .int .i64 u2, .int .i64 u3]) ∧ GW rch0 l u0 ∧ GW rch1 l u1 ∧ GW rch2 l u2 ∧ GW rch3 l u3) ∧ Below wx.heap.size wx w' from fun wx h => widest_any AP cp n l wx hn (by omega) ((hS.below h).more (fun _ _ h => h) h.size) hpr2)
  have HAL := Lib.hid (show ∀ wx, Below w.heap.size w wx → ∀ k, k < N → Calls Tryz.prog 50 #[.agg #[.slice A p.nodes.length c, .slice A2 N c2], .int .i64 (k : Int)] wx fun e w' => (∃ (v : Value) (xs : List SwM), e = .returned v ∧ RailIn w' wx.heap.size p k v xs) ∧ Below wx.heap.size wx w' from fun wx h k hk => by
    have hk' : k < p.rails.length := by omega
    have hr := Vld.rl hV hk'
    subst hN
    refine (along_any A A2 c c2 p k wx ((hP.below h).more h.size) hk' hr.h1 hr.h2 hr.hs hr.hR hr.hok).mono ?_
    rintro e w' ⟨v, xs, rfl, hm, ho, hs, hb⟩
    exact ⟨⟨v, xs, rfl, by rw [lnR_eq hk']; exact hm, ho, fun x hx => (hs x hx).1, fun x hx => (hs x hx).2⟩, hb⟩)
  have hmk1 := fun W : World => run_mk (P := Tryz.prog) 162 95 i0 _ 1 Tryz.underlying162 hi hz0 hz1 (N : Int) (N : Int) N N rfl rfl (by omega) (by rw [hz2]; omega) (by omega) W
  have hmk2 := fun W : World => run_mk (P := Tryz.prog) 163 164 i1 _ 4 Tryz.underlying163 hi' hz0' hz1' (N : Int) (N : Int) N N rfl rfl (by omega) (by rw [hz2']; omega) (by omega) W
  obtain ⟨W1, hW1⟩ : ∃ z, w.alloc (.cells #[.slice A p.nodes.length c, .slice A2 N c2] 25) = z := ⟨_, rfl⟩
  rw [hW1] at hb1 q1 hzz
  have HB1 := Lib.hid hb1
  have HZ1 := Lib.hid hzz
  have HR := Lib.hid (show ∀ wx, Below W1.heap.size W1 wx → Rw wx w.heap.size 25 #[.slice A p.nodes.length c, .slice A2 N c2] from fun wx h => q1.below h (by omega))
  have HSL := Lib.hid (show ∀ wx, Below w.heap.size w wx → Sl wx w.heap.size 2 CS AP l from fun wx h => hS.below h)
  have HN := Lib.hid (And.intro hN (And.intro hn hpr2))
  have HV := Lib.hid hV
  have HM1 := Lib.hid hmk1; have HM2 := Lib.hid hmk2
  clear hb1 q1 hP hV hN hS hpr hn hpr2 hzz hmk1 hmk2
  go_enter Tryz.func70, Tryz.ntmps70
  go_wp2_with fail
  (with_reducible refine (HWI.out _ HB1.out).mono ?_)
  rintro e w2 ⟨⟨u0, u1, u2, u3, rfl, hg0, hg1, hg2, hg3⟩, hb2⟩
  clear hW1
  obtain ⟨m0, rfl⟩ : ∃ m : Nat, u0 = (m : Int) := ⟨u0.toNat, by have := hg0.1.1; omega⟩
  obtain ⟨m1, rfl⟩ : ∃ m : Nat, u1 = (m : Int) := ⟨u1.toNat, by have := hg1.1.1; omega⟩
  obtain ⟨m2, rfl⟩ : ∃ m : Nat, u2 = (m : Int) := ⟨u2.toNat, by have := hg2.1.1; omega⟩
  obtain ⟨m3, rfl⟩ : ∃ m : Nat, u3 = (m : Int) := ⟨u3.toNat, by have := hg3.1.1; omega⟩
  have HG := Lib.hid (And.intro hg0 (And.intro hg1 (And.intro hg2 hg3)))
  have HB2 := Lib.hid hb2
  have r5 := Ro.new w2 160 (m0 : Int) (m1 : Int) (m2 : Int) (m3 : Int)
  have hb3 := (Below.refl w2.heap.size w2).alloc (Nat.le_refl _) (.cells #[.int .i64 (m0 : Int), .int .i64 (m1 : Int), .int .i64 (m2 : Int), .int .i64 (m3 : Int)] 160)
  have hz3 : (w2.alloc (.cells #[.int .i64 (m0 : Int), .int .i64 (m1 : Int), .int .i64 (m2 : Int), .int .i64 (m3 : Int)] 160)).heap.size = w2.heap.size + 1 := by simp
  obtain ⟨W3, hW3⟩ : ∃ z, w2.alloc (.cells #[.int .i64 (m0 : Int), .int .i64 (m1 : Int), .int .i64 (m2 : Int), .int .i64 (m3 : Int)] 160) = z := ⟨_, rfl⟩
  rw [hW3] at r5 hb3 hz3
  have HB3 := Lib.hid (hb2.trans (hb3.mono hb2.size))
  have HZ3 := Lib.hid hz3
  have e0 := (HR.out _ HB3.out).cell 1
  have hmk := HM1.out W3
  have o6 := Own.full (f := f1c) (size := 1) W3 W3.heap.size 95 (.slice none 0 0) (.slice none 0 0) N rfl (fun _ => rfl) (by decide) (Nat.le_refl _) (by simp only [maxLen]; omega)
  have hb4 := (Below.refl W3.heap.size W3).alloc (Nat.le_refl _) (.cells (madeCells (Value.slice none 0 0).cells (N * 1)) 95)
  have r5' := r5.below hb4 r5.lt
  have HR53 := Lib.hid r5
  clear hg0 hg1 hg2 hg3 hb2 hb3 hz3 r5
  have hNl := HN.out.1
  rw [Nat.mul_one] at o6 hb4 r5'
  have o6' : Own (W3.alloc (.cells (madeCells #[.slice none 0 0] N) 95)) W3.heap.size 95 1 f1c (.slice (some ⟨W3.heap.size, 0, none⟩) N N) (List.replicate N (.slice none 0 0)) := o6
  have hb4' : Below W3.heap.size W3 (W3.alloc (.cells (madeCells #[.slice none 0 0] N) 95)) := hb4
  have r5'' : Ro (W3.alloc (.cells (madeCells #[.slice none 0 0] N) 95)) w2.heap.size 160 (m0 : Int) (m1 : Int) (m2 : Int) (m3 : Int) := r5'
  have hz4 : (W3.alloc (.cells (madeCells #[.slice none 0 0] N) 95)).heap.size = W3.heap.size + 1 := by simp
  clear o6 hb4 r5'
  go_wp2
  clear hmk hW3 e0
  obtain ⟨W4, hW4⟩ : ∃ z, W3.alloc (.cells (madeCells #[.slice none 0 0] N) 95) = z := ⟨_, rfl⟩
  rw [hW4] at o6' hb4' r5'' hz4 ⊢
  have HO6 := Lib.hid o6'; have HB4 := Lib.hid hb4'; have HR5 := Lib.hid r5''; have HZ4 := Lib.hid hz4
  clear o6' hb4' r5'' hz4 hW4
  go_loopw [21] (fun s21 wr => ∃ (i : Nat) (vs : List (Value × List SwM)), i ≤ N ∧ s21 = .int .i64 (i : Int) ∧ vs.length = i ∧ Own wr W3.heap.size 95 1 f1c (.slice (some ⟨W3.heap.size, 0, none⟩) N N) (vs.map Prod.fst ++ List.replicate (N - i) (.slice none 0 0)) ∧ (∀ (k : Nat) v xs, vs[k]? = some (v, xs) → RailIn wr (W3.heap.size + 1) p k v xs) ∧ Below W3.heap.size W3 wr ∧ W3.heap.size + 1 ≤ wr.heap.size) (fun s21 _ => N - (intOf s21).toNat)
  case atStart => exact ⟨0, [], Nat.zero_le _, rfl, rfl, by simpa using HO6.out, (fun k v xs h => by simp at h), HB4.out, by rw [HZ4.out]; exact Nat.le_refl _⟩
  case round =>
    obtain ⟨i, vs, hi', rfl, hvl, hown, hall, hb, hsz⟩ := hrel
    have HO := Lib.hid hown; have HA := Lib.hid hall; have HB := Lib.hid hb; have HSZ := Lib.hid hsz; have HVL := Lib.hid hvl
    clear hown hall hb hsz hvl
    by_cases hin : i < N
    · have i0 : (0 : Int) ≤ (i : Int) := by omega
      have i1 : (i : Int) < (N : Int) := by omega
      have hbw := HB3.out.trans (HB.out.mono (by have := HB3.out.size; omega))
      have r1 := HR.out _ hbw
      have e0 := r1.cell 0; have e1 := r1.cell 1
      have HC := Lib.hid (HAL.out wr (HB1.out.trans (hbw.mono HB1.out.size)) i hin)
      clear r1 hbw
      go_wp2_with fail
      (with_reducible refine HC.out.mono ?_)
      rintro e w5 ⟨⟨v, xs, rfl, hri⟩, hb5⟩
      obtain ⟨A5, c5, rfl, -, -, -⟩ := hri.own.form
      have HRI := Lib.hid hri; have HB5 := Lib.hid hb5
      have o5 := HO.out.below hb5 (Nat.le_refl _)
      have hlen : (vs.map Prod.fst ++ List.replicate (N - i) (Value.slice none 0 0)).length = N := by rw [List.length_append, List.length_map, List.length_replicate, HVL.out]; omega
      obtain ⟨hc0, hc1, hg0, -⟩ := own_cell1 o5 i (by rw [hlen]; exact hin)
      obtain ⟨zz, hzz⟩ : ∃ z, (vs.map Prod.fst ++ List.replicate (N - i) (Value.slice none 0 0))[i]'(by rw [hlen]; exact hin) = z := ⟨_, rfl⟩
      rw [hzz] at hc0
      obtain ⟨os, -⟩ := own_set1 hlen o5 i (.slice A5 xs.length c5)
      have HOS := Lib.hid os
      clear hri hb5 o5 hzz os e0 e1
      go_wp2
      go_roundw
      case rel =>
        refine ⟨i + 1, vs ++ [(.slice A5 xs.length c5, xs)], by omega, by go_num, by rw [List.length_append, HVL.out]; rfl, ?_, ?_, (HB.out.trans (HB5.out.mono HB.out.size)).setCell (by simp) _, ?_⟩
        · have h9 := HOS.out
          rw [set_mid _ _ (by rw [List.length_map, HVL.out]) hin] at h9
          rw [List.map_append]
          exact h9
        · intro k v' xs' hk
          rcases Nat.lt_or_ge k i with hlt | hge
          · rw [List.getElem?_append_left (by rw [HVL.out]; exact hlt)] at hk
            exact ((HA.out k v' xs' hk).below HB5.out).other _ (by simp)
          · rw [List.getElem?_append_right (by rw [HVL.out]; exact hge), HVL.out] at hk
            have hki : k = i := by
              have := (List.getElem?_eq_some_iff.1 hk).1
              simp only [List.length_singleton] at this
              omega
            subst hki
            rw [Nat.sub_self] at hk
            cases hk
            exact (HRI.out.lower HSZ.out).other _ (by simp)
        · rw [World.size_setCell]
          exact Nat.le_trans HSZ.out HB5.out.size
      case measure => simp [intOf] <;> omega
    · obtain rfl : i = N := by omega
      have hii : ¬ (i : Int) < (i : Int) := by omega
      have HO7 := Lib.hid (show Own wr W3.heap.size 95 1 f1c (.slice (some ⟨W3.heap.size, 0, none⟩) i i) (vs.map Prod.fst) from by have h9 := HO.out; rwa [Nat.sub_self, List.replicate_zero, List.append_nil] at h9)
      have HR7 := Lib.hid (HR53.out.below HB.out HR53.out.lt)
      obtain ⟨N, rfl⟩ : ∃ z, z = i := ⟨_, rfl⟩
      obtain ⟨we, hwe⟩ : ∃ z, z = wr := ⟨_, rfl⟩
      subst hwe
      have HS5 := Lib.hid (fun wx (h : Below we.heap.size we wx) => (HSL.out wx (HB1.out.trans ((HB3.out.trans ((HB.out.trans (h.mono HB.out.size)).mono (by have := HB3.out.size; omega))).mono HB1.out.size))))
      have HBB := Lib.hid (HB1.out.trans ((HB3.out.trans (HB.out.mono (by have := HB3.out.size; omega))).mono HB1.out.size))
      obtain ⟨R, hRR⟩ : ∃ R, rF p l = R := ⟨_, rfl⟩
      have HRF := Lib.hid hRR
      clear hRR
      go_wp2
      go_loopw [8, 33] (fun s8 s33 wq => ∃ a : Nat, a ≤ N ∧ s33 = .int .i64 (a : Int) ∧ Own wq we.heap.size 60 4 fF s8 (f1 R N n a) ∧ Below we.heap.size we wq) (fun _ s33 _ => N - (intOf s33).toNat)
      case atStart => exact ⟨0, Nat.zero_le _, rfl, Own.nil _ _ _ _ _, Below.refl _ _⟩
      case round =>
        obtain ⟨a, ha, rfl, hown, hb⟩ := hrel
        obtain ⟨wa, hwa⟩ : ∃ z, z = wr := ⟨_, rfl⟩
        subst hwa
        have HOA := Lib.hid hown; have HBA := Lib.hid hb
        clear hown hb
        by_cases haN : a < N
        · have haa : (a : Int) < (N : Int) := by omega
          have ha0 : (0 : Int) ≤ (a : Int) := by omega
          have hmk := HM2.out wa
          have o10 := Own.full (f := fN) (size := 4) wa wa.heap.size 164 (⟨0, 0, 0, 0⟩ : N4) (.agg #[.int .i64 0, .int .i64 0, .int .i64 0, .int .i64 0]) N rfl (fun _ => rfl) (by decide) (Nat.le_refl _) (by simp only [maxLen]; omega)
          have o10' : Own (wa.alloc (.cells (madeCells #[.int .i64 0, .int .i64 0, .int .i64 0, .int .i64 0] (N * 4)) 164)) wa.heap.size 164 4 fN (.slice (some ⟨wa.heap.size, 0, none⟩) N N) (List.replicate N ⟨0, 0, 0, 0⟩) := o10
          have hb10 := (Below.refl wa.heap.size wa).alloc (Nat.le_refl _) (.cells (madeCells #[.int .i64 0, .int .i64 0, .int .i64 0, .int .i64 0] (N * 4)) 164)
          have hz10 : (wa.alloc (.cells (madeCells #[.int .i64 0, .int .i64 0, .int .i64 0, .int .i64 0] (N * 4)) 164)).heap.size = wa.heap.size + 1 := by simp
          clear o10
          go_wp2
          clear hmk
          obtain ⟨W6, hW6⟩ : ∃ z, wa.alloc (.cells (madeCells #[.int .i64 0, .int .i64 0, .int .i64 0, .int .i64 0] (N * 4)) 164) = z := ⟨_, rfl⟩
          rw [hW6] at o10' hb10 hz10 ⊢
          have HO10 := Lib.hid o10'; have HB10 := Lib.hid hb10; have HZ10 := Lib.hid hz10
          clear o10' hb10 hz10 hW6
          go_loopw [11] (fun s11 wq => ∃ (j : Nat) (rows : List N4), j ≤ N - a ∧ s11 = .int .i64 ((a + j : Nat) : Int) ∧ rows.length = N ∧ Own wq wa.heap.size 164 4 fN (.slice (some ⟨wa.heap.size, 0, none⟩) N N) rows ∧ (∀ k, k < j → rows[a + k]? = some (nd4 vs m0 m1 m2 m3 a (a + k))) ∧ Below wa.heap.size wa wq ∧ wa.heap.size + 1 ≤ wq.heap.size) (fun s11 _ => N - (intOf s11).toNat)
          case atStart => exact ⟨0, List.replicate N ⟨0, 0, 0, 0⟩, Nat.zero_le _, by simp, by simp, HO10.out, (fun k h => absurd h (by omega)), HB10.out, by rw [HZ10.out]; exact Nat.le_refl _⟩
          case round =>
            obtain ⟨j, rows, hj, rfl, hrl, hown, hall, hb, hsz⟩ := hrel
            obtain ⟨wb, hwb⟩ : ∃ z, z = wr := ⟨_, rfl⟩
            subst hwb
            have HOW := Lib.hid hown; have HAW := Lib.hid hall; have HBW := Lib.hid hb; have HSW := Lib.hid hsz; have HRL := Lib.hid hrl
            obtain ⟨b, hbj⟩ : ∃ b, a + j = b := ⟨_, rfl⟩
            rw [hbj]
            have HBJ := Lib.hid hbj
            have hbb0 : (0 : Int) ≤ (b : Int) := by omega
            have hb24 : b ≤ 24 := by omega
            clear hown hall hb hsz hrl hbj
            by_cases hbN : b < N
            · have hbb : (b : Int) < (N : Int) := by omega
              obtain ⟨⟨va, xa⟩, hva⟩ : ∃ z, vs[a]? = some z := ⟨_, List.getElem?_eq_getElem (by rw [HVL.out]; exact haN)⟩
              obtain ⟨⟨vb, xb⟩, hvb⟩ : ∃ z, vs[b]? = some z := ⟨_, List.getElem?_eq_getElem (by rw [HVL.out]; exact hbN)⟩
              have ria := HA.out a va xa hva
              have rib := HA.out b vb xb hvb
              obtain ⟨A5, c5, rfl, -, -, -⟩ := ria.own.form
              obtain ⟨A6, c6, rfl, -, -, -⟩ := rib.own.form
              have hWB := HBA.out.trans (HBW.out.mono HBA.out.size)
              have HWB := Lib.hid hWB
              have HRA := Lib.hid ria; have HRB := Lib.hid rib
              have hla : xa.length ≤ 1000 := by
                have h9 := congrArg List.length ria.map
                rw [List.length_map, alongL_len] at h9
                have h8 := Vld.rl HV.out (show a < p.rails.length by rw [HN.out.1]; exact haN)
                rw [lnR_eq (show a < p.rails.length by rw [HN.out.1]; exact haN), h8.len] at h9
                have := h8.hs
                omega
              have hlb : xb.length ≤ 1000 := by
                have h9 := congrArg List.length rib.map
                rw [List.length_map, alongL_len] at h9
                have h8 := Vld.rl HV.out (show b < p.rails.length by rw [HN.out.1]; exact hbN)
                rw [lnR_eq (show b < p.rails.length by rw [HN.out.1]; exact hbN), h8.len] at h9
                have := h8.hs
                omega
              have hms : m0 ≤ 100000 ∧ m1 ≤ 100000 ∧ m2 ≤ 100000 ∧ m3 ≤ 100000 := by
                have h0 := HG.out.1.1.2; have h1 := HG.out.2.1.1.2; have h2 := HG.out.2.2.1.1.2; have h3 := HG.out.2.2.2.1.2
                omega
              have HND := Lib.hid (show nd4 vs m0 m1 m2 m3 a b = ⟨((leastL sidesB xa xb (m0 + 1) : Nat) : Int), ((leastL bendsB xa xb (m1 + 1) : Nat) : Int), ((leastL bendsC xa xb (m2 + 1) : Nat) : Int), ((leastL bothB xa xb (m3 + 1) : Nat) : Int)⟩ from by unfold nd4; rw [hva, hvb])
              have HME := Lib.hid (show ∀ wx, Below wb.heap.size wb wx → Calls Tryz.prog 95 #[.slice A5 xa.length c5, .slice A6 xb.length c6, .agg #[.int .i64 (m0 : Int), .int .i64 (m1 : Int), .int .i64 (m2 : Int), .int .i64 (m3 : Int)]] wx fun e w' => e = .returned (.agg #[.int .i64 (nd4 vs m0 m1 m2 m3 a b).n0, .int .i64 (nd4 vs m0 m1 m2 m3 a b).n1, .int .i64 (nd4 vs m0 m1 m2 m3 a b).n2, .int .i64 (nd4 vs m0 m1 m2 m3 a b).n3]) ∧ Below wx.heap.size wx w' from fun wx h => by
                rw [HND.out]
                have h1 := HWB.out.trans (h.mono HWB.out.size)
                have r1 := HRA.out.below h1; have r2 := HRB.out.below h1
                exact measure_any xa xb A5 A6 xa.length xb.length c5 c6 m0 m1 m2 m3 wx hms.1 hms.2.1 hms.2.2.1 hms.2.2.2 rfl (by omega) rfl (by omega) (Own.sl (size := 13) (fun _ => rfl) r1.own rfl) (Own.sl (size := 13) (fun _ => rfl) r2.own rfl) r1.sw r2.sw)
              obtain ⟨nd, hnd⟩ : ∃ z, nd4 vs m0 m1 m2 m3 a b = z := ⟨_, rfl⟩
              rw [hnd] at HME
              have HNDV := Lib.hid hnd
              have HCELL := Lib.hid (show ∀ wx, Below wb.heap.size wb wx → (wx.cell? ⟨W3.heap.size, a, none⟩ = some (.slice A5 xa.length c5) ∧ wx.cell? ⟨W3.heap.size, b, none⟩ = some (.slice A6 xb.length c6) ∧ wx.cell? ⟨w2.heap.size, 0, none⟩ = some (.int .i64 (m0 : Int)) ∧ wx.cell? ⟨w2.heap.size, 1, none⟩ = some (.int .i64 (m1 : Int)) ∧ wx.cell? ⟨w2.heap.size, 2, none⟩ = some (.int .i64 (m2 : Int)) ∧ wx.cell? ⟨w2.heap.size, 3, none⟩ = some (.int .i64 (m3 : Int)) ∧ (∃ z0 z1 z2 z3 : Int, wx.cell? ⟨wa.heap.size, b * 4, none⟩ = some (.int .i64 z0) ∧ wx.cell? ⟨wa.heap.size, b * 4 + 1, none⟩ = some (.int .i64 z1) ∧ wx.cell? ⟨wa.heap.size, b * 4 + 2, none⟩ = some (.int .i64 z2) ∧ wx.cell? ⟨wa.heap.size, b * 4 + 3, none⟩ = some (.int .i64 z3)) ∧ (∀ i, wx.frozen? ⟨wa.heap.size, i, none⟩ = false)) from fun wx h => by
                have h1 := HWB.out.trans (h.mono HWB.out.size)
                have o7 := HO7.out.below h1 (Nat.le_refl _)
                have ca := (own_cell1 o7 a (by rw [List.length_map, HVL.out]; exact haN)).1
                have cb := (own_cell1 o7 b (by rw [List.length_map, HVL.out]; exact hbN)).1
                have ea : (vs.map Prod.fst)[a]? = some (.slice A5 xa.length c5) := by rw [List.getElem?_map, hva]; rfl
                have eb : (vs.map Prod.fst)[b]? = some (.slice A6 xb.length c6) := by rw [List.getElem?_map, hvb]; rfl
                rw [← List.getElem?_eq_getElem, ea] at ca
                rw [← List.getElem?_eq_getElem, eb] at cb
                have r5 := HR7.out.below h1 HR7.out.lt
                have o4 := HOW.out.below h (Nat.le_refl _)
                obtain ⟨⟨z0, z1, z2, z3, d0, d1, d2, d3⟩, fz, -, -⟩ := own_cell4 o4 b (by rw [HRL.out]; exact hbN)
                exact ⟨ca, cb, r5.cell 0, r5.cell 1, r5.cell 2, r5.cell 3, ⟨z0, z1, z2, z3, d0, d1, d2, d3⟩, fz⟩)
              clear hva hvb ria rib hWB hnd
              have a0 : (0 : Int) ≤ (a : Int) := by omega
              have HST := Lib.hid (show ∀ wc, Below wb.heap.size wb wc → (fun wx : World => (wx.cell? ⟨W3.heap.size, a, none⟩ = some (.slice A5 xa.length c5) ∧ wx.cell? ⟨W3.heap.size, b, none⟩ = some (.slice A6 xb.length c6) ∧ wx.cell? ⟨w2.heap.size, 0, none⟩ = some (.int .i64 (m0 : Int)) ∧ wx.cell? ⟨w2.heap.size, 1, none⟩ = some (.int .i64 (m1 : Int)) ∧ wx.cell? ⟨w2.heap.size, 2, none⟩ = some (.int .i64 (m2 : Int)) ∧ wx.cell? ⟨w2.heap.size, 3, none⟩ = some (.int .i64 (m3 : Int)) ∧ (∃ z0 z1 z2 z3 : Int, wx.cell? ⟨wa.heap.size, b * 4, none⟩ = some (.int .i64 z0) ∧ wx.cell? ⟨wa.heap.size, b * 4 + 1, none⟩ = some (.int .i64 z1) ∧ wx.cell? ⟨wa.heap.size, b * 4 + 2, none⟩ = some (.int .i64 z2) ∧ wx.cell? ⟨wa.heap.size, b * 4 + 3, none⟩ = some (.int .i64 z3)) ∧ (∀ i, wx.frozen? ⟨wa.heap.size, i, none⟩ = false))) ((((wc.setCell ⟨wa.heap.size, b * 4, none⟩ (.int .i64 nd.n0)).setCell ⟨wa.heap.size, b * 4 + 1, none⟩ (.int .i64 nd.n1)).setCell ⟨wa.heap.size, b * 4 + 2, none⟩ (.int .i64 nd.n2)).setCell ⟨wa.heap.size, b * 4 + 3, none⟩ (.int .i64 nd.n3)) from fun wc h => by
                obtain ⟨s0, s1, s2, s3, s4, s5, ⟨z0, z1, z2, z3, d0, d1, d2, d3⟩, fz⟩ := HCELL.out wc h
                have hx1 : W3.heap.size < wa.heap.size := by have h1 := HBA.out.size; have h2 := HSZ.out; omega
                have hx2 : w2.heap.size < wa.heap.size := by have h1 := HZ3.out; omega
                have n1 : ∀ i j, (⟨wa.heap.size, i, none⟩ : Addr) ≠ ⟨W3.heap.size, j, none⟩ := fun i j e => by have h9 : wa.heap.size = W3.heap.size := congrArg Addr.block e; omega
                have n2 : ∀ i j, (⟨wa.heap.size, i, none⟩ : Addr) ≠ ⟨w2.heap.size, j, none⟩ := fun i j e => by have h9 : wa.heap.size = w2.heap.size := congrArg Addr.block e; omega
                refine ⟨?_, ?_, ?_, ?_, ?_, ?_, ⟨nd.n0, nd.n1, nd.n2, nd.n3, ?_, ?_, ?_, ?_⟩, fun i => ?_⟩
                · rw [World.cell?_setCell_other (h := n1 _ _), World.cell?_setCell_other (h := n1 _ _), World.cell?_setCell_other (h := n1 _ _), World.cell?_setCell_other (h := n1 _ _)]; exact s0
                · rw [World.cell?_setCell_other (h := n1 _ _), World.cell?_setCell_other (h := n1 _ _), World.cell?_setCell_other (h := n1 _ _), World.cell?_setCell_other (h := n1 _ _)]; exact s1
                · rw [World.cell?_setCell_other (h := n2 _ _), World.cell?_setCell_other (h := n2 _ _), World.cell?_setCell_other (h := n2 _ _), World.cell?_setCell_other (h := n2 _ _)]; exact s2
                · rw [World.cell?_setCell_other (h := n2 _ _), World.cell?_setCell_other (h := n2 _ _), World.cell?_setCell_other (h := n2 _ _), World.cell?_setCell_other (h := n2 _ _)]; exact s3
                · rw [World.cell?_setCell_other (h := n2 _ _), World.cell?_setCell_other (h := n2 _ _), World.cell?_setCell_other (h := n2 _ _), World.cell?_setCell_other (h := n2 _ _)]; exact s4
                · rw [World.cell?_setCell_other (h := n2 _ _), World.cell?_setCell_other (h := n2 _ _), World.cell?_setCell_other (h := n2 _ _), World.cell?_setCell_other (h := n2 _ _)]; exact s5
                · simp [go_sem, d0]
                · simp [go_sem, d1]
                · simp [go_sem, d2]
                · simp [go_sem, d3]
                · simp only [World.frozen?_setCell]; exact fz i)
              go_upto_region 16 with (fail)
              have hbq : Below wb.heap.size wb wb.drew := (Below.refl _ _).drew
              have HS := Lib.hid (HCELL.out _ hbq)
              refine wp_region_held_drew (S := fun wx => (wx.cell? ⟨W3.heap.size, a, none⟩ = some (.slice A5 xa.length c5) ∧ wx.cell? ⟨W3.heap.size, b, none⟩ = some (.slice A6 xb.length c6) ∧ wx.cell? ⟨w2.heap.size, 0, none⟩ = some (.int .i64 (m0 : Int)) ∧ wx.cell? ⟨w2.heap.size, 1, none⟩ = some (.int .i64 (m1 : Int)) ∧ wx.cell? ⟨w2.heap.size, 2, none⟩ = some (.int .i64 (m2 : Int)) ∧ wx.cell? ⟨w2.heap.size, 3, none⟩ = some (.int .i64 (m3 : Int)) ∧ (∃ z0 z1 z2 z3 : Int, wx.cell? ⟨wa.heap.size, b * 4, none⟩ = some (.int .i64 z0) ∧ wx.cell? ⟨wa.heap.size, b * 4 + 1, none⟩ = some (.int .i64 z1) ∧ wx.cell? ⟨wa.heap.size, b * 4 + 2, none⟩ = some (.int .i64 z2) ∧ wx.cell? ⟨wa.heap.size, b * 4 + 3, none⟩ = some (.int .i64 z3)) ∧ (∀ i, wx.frozen? ⟨wa.heap.size, i, none⟩ = false))) (by kernel_rfl) HS.out (fun _ => ?_)
              refine hTake (i := 0) (d := 46) (v := .slice (some ⟨wa.heap.size, 0, none⟩) N N) rfl rfl (by kernel_rfl) (by kernel_rfl) (by kernel_rfl) (fun _ _ _ h => h) (Or.inl ⟨rfl, ?gr⟩) HS.out ?_
              case gr =>
                rintro W' ⟨s0, s1, s2, s3, s4, s5, s6, s7⟩
                go_simp
              simp only [Act.put, List.setIfInBounds_toArray, List.set_cons_zero, List.set_cons_succ]
              refine hTake (i := 1) (d := 47) (v := .int .i64 (b : Int)) rfl rfl (by kernel_rfl) (by kernel_rfl) (by kernel_rfl) (fun _ _ _ h => h) (Or.inl ⟨rfl, ?gr⟩) HS.out ?_
              case gr =>
                rintro W' ⟨s0, s1, s2, s3, s4, s5, s6, s7⟩
                go_simp
              simp only [Act.put, List.setIfInBounds_toArray, List.set_cons_zero, List.set_cons_succ]
              refine hTake (i := 2) (d := 48) (v := .slice (some ⟨W3.heap.size, 0, none⟩) N N) rfl rfl (by kernel_rfl) (by kernel_rfl) (by kernel_rfl) (fun _ _ _ h => h) (Or.inl ⟨rfl, ?gr⟩) HS.out ?_
              case gr =>
                rintro W' ⟨s0, s1, s2, s3, s4, s5, s6, s7⟩
                go_simp
              simp only [Act.put, List.setIfInBounds_toArray, List.set_cons_zero, List.set_cons_succ]
              refine hTake (i := 3) (d := 49) (v := .int .i64 (a : Int)) rfl rfl (by kernel_rfl) (by kernel_rfl) (by kernel_rfl) (fun _ _ _ h => h) (Or.inl ⟨rfl, ?gr⟩) HS.out ?_
              case gr =>
                rintro W' ⟨s0, s1, s2, s3, s4, s5, s6, s7⟩
                go_simp
              simp only [Act.put, List.setIfInBounds_toArray, List.set_cons_zero, List.set_cons_succ]
              refine hTake (i := 4) (d := 50) (v := .pointer (some ⟨W3.heap.size, a, none⟩)) rfl rfl (by kernel_rfl) (by kernel_rfl) (by kernel_rfl) (fun _ _ _ h => h) (Or.inl ⟨rfl, ?gr⟩) HS.out ?_
              case gr =>
                rintro W' ⟨s0, s1, s2, s3, s4, s5, s6, s7⟩
                go_simp
              simp only [Act.put, List.setIfInBounds_toArray, List.set_cons_zero, List.set_cons_succ]
              refine hTake (i := 5) (d := 51) (v := .slice A5 xa.length c5) rfl rfl (by kernel_rfl) (by kernel_rfl) (by kernel_rfl) (fun _ _ _ h => h) (Or.inl ⟨rfl, ?gr⟩) HS.out ?_
              case gr =>
                rintro W' ⟨s0, s1, s2, s3, s4, s5, s6, s7⟩
                go_simp
              simp only [Act.put, List.setIfInBounds_toArray, List.set_cons_zero, List.set_cons_succ]
              refine hTake (i := 6) (d := 52) (v := .slice (some ⟨W3.heap.size, 0, none⟩) N N) rfl rfl (by kernel_rfl) (by kernel_rfl) (by kernel_rfl) (fun _ _ _ h => h) (Or.inl ⟨rfl, ?gr⟩) HS.out ?_
              case gr =>
                rintro W' ⟨s0, s1, s2, s3, s4, s5, s6, s7⟩
                go_simp
              simp only [Act.put, List.setIfInBounds_toArray, List.set_cons_zero, List.set_cons_succ]
              refine hTake (i := 7) (d := 53) (v := .int .i64 (b : Int)) rfl rfl (by kernel_rfl) (by kernel_rfl) (by kernel_rfl) (fun _ _ _ h => h) (Or.inl ⟨rfl, ?gr⟩) HS.out ?_
              case gr =>
                rintro W' ⟨s0, s1, s2, s3, s4, s5, s6, s7⟩
                go_simp
              simp only [Act.put, List.setIfInBounds_toArray, List.set_cons_zero, List.set_cons_succ]
              refine hTake (i := 8) (d := 54) (v := .pointer (some ⟨W3.heap.size, b, none⟩)) rfl rfl (by kernel_rfl) (by kernel_rfl) (by kernel_rfl) (fun _ _ _ h => h) (Or.inl ⟨rfl, ?gr⟩) HS.out ?_
              case gr =>
                rintro W' ⟨s0, s1, s2, s3, s4, s5, s6, s7⟩
                go_simp
              simp only [Act.put, List.setIfInBounds_toArray, List.set_cons_zero, List.set_cons_succ]
              refine hTake (i := 9) (d := 55) (v := .slice A6 xb.length c6) rfl rfl (by kernel_rfl) (by kernel_rfl) (by kernel_rfl) (fun _ _ _ h => h) (Or.inl ⟨rfl, ?gr⟩) HS.out ?_
              case gr =>
                rintro W' ⟨s0, s1, s2, s3, s4, s5, s6, s7⟩
                go_simp
              simp only [Act.put, List.setIfInBounds_toArray, List.set_cons_zero, List.set_cons_succ]
              refine hTake (i := 10) (d := 56) (v := .agg #[.int .i64 (m0 : Int), .int .i64 (m1 : Int), .int .i64 (m2 : Int), .int .i64 (m3 : Int)]) rfl rfl (by kernel_rfl) (by kernel_rfl) (by kernel_rfl) (fun _ _ _ h => h) (Or.inl ⟨rfl, ?gr⟩) HS.out ?_
              case gr =>
                rintro W' ⟨s0, s1, s2, s3, s4, s5, s6, s7⟩
                go_simp
              simp only [Act.put, List.setIfInBounds_toArray, List.set_cons_zero, List.set_cons_succ]
              refine wpAnyH_ready (rs := [11]) (by kernel_rfl) (by simp) ?_
              refine AllReadyH.cons rfl (fun K hK => ?_) AllReadyH.nil
              rw [if_pos (by rfl)]
              go_simp
              go_at_call 95
              (with_reducible refine (HME.out _ hbq).mono ?_)
              rintro e wc ⟨rfl, hbc⟩
              replace hbq := hbq.trans (hbc.mono hbq.size)
              have HS := Lib.hid (HCELL.out _ hbq)
              clear hbc
              refine hK.out _ _ HS.out (fun _ => ?_)
              clear hK K
              try simp only [Act.put, List.setIfInBounds_toArray, List.set_cons_zero, List.set_cons_succ]
              refine hTake (i := 12) (d := 58) (v := .pointer (some ⟨wa.heap.size, b * 4, none⟩)) rfl rfl (by kernel_rfl) (by kernel_rfl) (by kernel_rfl) (fun _ _ _ h => h) (Or.inl ⟨rfl, ?gr⟩) HS.out ?_
              case gr =>
                rintro W' ⟨s0, s1, s2, s3, s4, s5, s6, s7⟩
                go_simp
              simp only [Act.put, List.setIfInBounds_toArray, List.set_cons_zero, List.set_cons_succ]
              refine wpAnyH_ready (rs := [13]) (by kernel_rfl) (by simp) ?_
              refine AllReadyH.cons rfl (fun K hK => ?_) AllReadyH.nil
              rw [if_pos (by rfl)]
              obtain ⟨s0, s1, s2, s3, s4, s5, ⟨z0, z1, z2, z3, d0, d1, d2, d3⟩, fz⟩ := HS.out
              have f0 := fz (b * 4); have f1 := fz (b * 4 + 1); have f2 := fz (b * 4 + 2); have f3 := fz (b * 4 + 3)
              go_simp
              have HS2 := Lib.hid (show (fun wx : World => (wx.cell? ⟨W3.heap.size, a, none⟩ = some (.slice A5 xa.length c5) ∧ wx.cell? ⟨W3.heap.size, b, none⟩ = some (.slice A6 xb.length c6) ∧ wx.cell? ⟨w2.heap.size, 0, none⟩ = some (.int .i64 (m0 : Int)) ∧ wx.cell? ⟨w2.heap.size, 1, none⟩ = some (.int .i64 (m1 : Int)) ∧ wx.cell? ⟨w2.heap.size, 2, none⟩ = some (.int .i64 (m2 : Int)) ∧ wx.cell? ⟨w2.heap.size, 3, none⟩ = some (.int .i64 (m3 : Int)) ∧ (∃ z0 z1 z2 z3 : Int, wx.cell? ⟨wa.heap.size, b * 4, none⟩ = some (.int .i64 z0) ∧ wx.cell? ⟨wa.heap.size, b * 4 + 1, none⟩ = some (.int .i64 z1) ∧ wx.cell? ⟨wa.heap.size, b * 4 + 2, none⟩ = some (.int .i64 z2) ∧ wx.cell? ⟨wa.heap.size, b * 4 + 3, none⟩ = some (.int .i64 z3)) ∧ (∀ i, wx.frozen? ⟨wa.heap.size, i, none⟩ = false))) ((((wc.setCell ⟨wa.heap.size, b * 4, none⟩ (.int .i64 nd.n0)).setCell ⟨wa.heap.size, b * 4 + 1, none⟩ (.int .i64 nd.n1)).setCell ⟨wa.heap.size, b * 4 + 2, none⟩ (.int .i64 nd.n2)).setCell ⟨wa.heap.size, b * 4 + 3, none⟩ (.int .i64 nd.n3)) from HST.out _ hbq)
              refine hK.out _ _ HS2.out (fun _ => ?_)
              clear s0 s1 s2 s3 s4 s5 d0 d1 d2 d3 f0 f1 f2 f3 fz HS2
              clear hK K
              try simp only [Act.put, List.setIfInBounds_toArray, List.set_cons_zero, List.set_cons_succ]
              refine wpAnyH_done (by kernel_rfl) ?_ _
              have HBQ := Lib.hid hbq
              have HO4 := Lib.hid (own_set4 HRL.out (HOW.out.below hbq (Nat.le_refl _)) b nd)
              clear hbq HS
              go_wp2
              go_roundw
              case rel =>
                have hbj := HBJ.out
                refine ⟨j + 1, rows.set b nd, by omega, vi (by omega), by rw [List.length_set]; exact HRL.out, HO4.out, fun k hk => ?_, ((((HBW.out.trans (HBQ.out.mono HBW.out.size)).setCell (by simp) _).setCell (by simp) _).setCell (by simp) _).setCell (by simp) _, ?_⟩
                · by_cases hkj : k = j
                  · subst hkj
                    rw [hbj, HNDV.out, List.getElem?_set_self (by rw [HRL.out]; exact hbN)]
                  · rw [List.getElem?_set_ne (by omega)]
                    exact HAW.out k (by omega)
                · simp only [World.size_setCell]
                  exact Nat.le_trans HSW.out HBQ.out.size
              case measure => simp [intOf] <;> omega
            · have hjN : j = N - a := by have := HBJ.out; omega
              have hbb : ¬ (b : Int) < (N : Int) := by omega
              have HCUR := Lib.hid (show ∃ cur, wb.heap[wa.heap.size]? = some (.cells cur 164 (0, 0)) from by
                rcases HOW.out.2 with ⟨e1, hn⟩ | ⟨g', cap', cur, e1, hb, hg, hn, hm, hc⟩
                · cases e1
                · cases e1; exact ⟨cur, hg⟩)
              have HRS := Lib.hid (show ∀ wx : World, wx.heap[wa.heap.size]? = wb.heap[wa.heap.size]? → wb.heap.size ≤ wx.heap.size → Sl wx wx.heap.size 4 (fun v cs => cs = fN v) (some ⟨wa.heap.size, 0, none⟩) rows from fun wx hg hsz hne => by
                have hs := Own.sl (f := fN) (size := 4) (l := rows) (fun _ => rfl) HOW.out (A := some ⟨wa.heap.size, 0, none⟩) (c := N) (by rw [HRL.out])
                obtain ⟨b', off, e, hb, hc⟩ := hs hne
                cases e
                refine ⟨_, _, rfl, by omega, fun i x hx => ?_⟩
                obtain ⟨cs, h1, h2⟩ := hc i x hx
                exact ⟨cs, h1, fun j u hu => (cell_heap hg _).trans (h2 j u hu)⟩)
              have HOB := Lib.hid (HOA.out.below HBW.out (Nat.le_refl _))
              have HBB2 := Lib.hid (HBA.out.trans (HBW.out.mono HBA.out.size))
              have HF3 := Lib.hid (show ∀ x, x < n → f3 (metR rows l) n a x (N - a) = f3 R n a x (N - a) from fun x hx => f3_congr fun k hk y hy => by
                have hr := HAW.out k (by omega)
                obtain ⟨⟨va, xa⟩, hva⟩ : ∃ z, vs[a]? = some z := ⟨_, List.getElem?_eq_getElem (by rw [HVL.out]; exact haN)⟩
                obtain ⟨⟨vb, xb⟩, hvb⟩ : ∃ z, vs[a + k]? = some z := ⟨_, List.getElem?_eq_getElem (by rw [HVL.out]; omega)⟩
                have ria := HA.out a va xa hva
                have rib := HA.out (a + k) vb xb hvb
                obtain ⟨u, hu⟩ : ∃ z, l[x]? = some z := ⟨_, List.getElem?_eq_getElem (by rw [HN.out.2.1]; exact hx)⟩
                obtain ⟨v, hv⟩ : ∃ z, l[y]? = some z := ⟨_, List.getElem?_eq_getElem (by rw [HN.out.2.1]; exact hy)⟩
                have mu := List.mem_of_getElem? hu; have mv := List.mem_of_getElem? hv
                rw [← HRF.out]
                unfold metR rF
                rw [hr, hu, hv]
                show metN (nd4 vs m0 m1 m2 m3 a (a + k)) u v = railsB (lnR p (a : Int)) (lnR p ((a + k : Nat) : Int)) a (a + k) u.x u.y v.x v.y
                unfold nd4
                rw [hva, hvb]
                exact met_rails we ria.map rib.map ria.sw rib.sw m0 m1 m2 m3 (HN.out.2.2 u mu) (HN.out.2.2 v mv) (HG.out.1.2 u mu v mv) (HG.out.2.1.2 u mu v mv) (HG.out.2.2.1.2 u mu v mv) (HG.out.2.2.2.2 u mu v mv))
              subst hjN
              go_wp2
              go_loopw [8, 61] (fun s8 s61 wr => ∃ x : Nat, x ≤ n ∧ s61 = .int .i64 (x : Int) ∧ Own wr we.heap.size 60 4 fF s8 (f1 R N n a ++ f2 R N n a x) ∧ Below we.heap.size we wr ∧ wr.heap[wa.heap.size]? = wb.heap[wa.heap.size]? ∧ wb.heap.size ≤ wr.heap.size) (fun _ s61 _ => n - (intOf s61).toNat)
              case atStart => exact ⟨0, Nat.zero_le _, rfl, by simpa [f2] using HOB.out, HBB2.out, rfl, Nat.le_refl _⟩
              case round =>
                obtain ⟨x, hx, rfl, hown, hb, hg, hsz⟩ := hrel
                have HO8 := Lib.hid hown; have HB8 := Lib.hid hb; have HG8 := Lib.hid hg; have HS8 := Lib.hid hsz
                clear hown hb hg hsz
                by_cases hxn : x < n
                · have hxx : (x : Int) < (n : Int) := by omega
                  have HLL := Lib.hid (f_len (R := R) (x := x) (j := 0) (y := 0) (by omega) hn2 (Nat.le_of_lt haN) (Nat.le_of_lt hxn) (Nat.zero_le _) (Nat.zero_le _) a)
                  have HF := Lib.hid (show ∀ v0, Own wr we.heap.size 60 4 fF v0 (f1 R N n a ++ f2 R N n a x) → Calls Tryz.prog 96 #[v0, .agg #[.int .i64 (a : Int), .int .i64 (x : Int), .int .i64 0, .int .i64 0], .slice (some ⟨wa.heap.size, 0, none⟩) N N, .slice AP n cp] wr fun e w' => ∃ v, e = .returned v ∧ Own w' we.heap.size 60 4 fF v ((f1 R N n a ++ f2 R N n a x) ++ f3 (metR rows l) n a x (N - a)) ∧ Below we.heap.size wr w' ∧ w'.heap[wa.heap.size]? = wr.heap[wa.heap.size]? from fun v0 ho => by
                    obtain ⟨cur, hcur⟩ := HCUR.out
                    exact foulsOf_any AP N cp N n we.heap.size wa.heap.size a x 0 0 rows l v0 _ cur (0, 0) wr HB8.out.size ho (by have h9 := HLL.out; simp only [List.length_append] at h9 ⊢; omega) (HG8.out.trans hcur) (HRS.out wr HG8.out HS8.out) HRL.out (by omega) HN.out.2.1 hn2 ((HS5.out wr HB8.out).more (fun _ _ h => h) HBB.out.size) HN.out.2.2 haN hxn)
                  have HFC := Lib.hid (HF.out u8 HO8.out)
                  have HN2 := Lib.hid (show f2 R N n a (x + 1) = f2 R N n a x ++ f3 R n a x (N - a) from f2_succ R N n a x)
                  have x0 : (0 : Int) ≤ (x : Int) := by omega
                  go_wp2_with fail
                  (with_reducible refine HFC.out.mono ?_)
                  rintro e w9 ⟨v9, rfl, o9, b9, g9⟩
                  have HO9 := Lib.hid o9; have HB9 := Lib.hid b9; have HG9 := Lib.hid g9
                  clear o9 b9 g9
                  go_wp2
                  go_roundw
                  case rel => exact ⟨x + 1, by omega, by go_num, by rw [HN2.out, ← List.append_assoc, ← HF3.out x hxn]; exact HO9.out, HB8.out.trans HB9.out, HG9.out.trans HG8.out, Nat.le_trans HS8.out HB9.out.size⟩
                  case measure => simp [intOf] <;> omega
                · obtain rfl : x = n := by omega
                  have hxx : ¬ (x : Int) < (x : Int) := by omega
                  have HN1 := Lib.hid (show f1 R N x (a + 1) = f1 R N x a ++ f2 R N x a x from f1_succ R N x a)
                  go_wp2
                  go_roundw
                  case rel => exact ⟨a + 1, by omega, by go_num, by rw [HN1.out]; exact HO8.out, HB8.out⟩
                  case measure => simp [intOf] <;> omega
        · obtain rfl : a = N := by omega
          have haa : ¬ (a : Int) < (a : Int) := by omega
          go_wp2
          go_ret
          have hfl : foulsL p l = f1 (rF p l) a n a := by unfold foulsL; rw [HN.out.1, HN.out.2.1]
          exact ⟨_, rfl, by rw [hfl, HRF.out]; exact HOA.out.lower HBB.out.size, HBB.out.trans (HBA.out.mono HBB.out.size)⟩
end Go.Proofs.YtekambdnmaompaaGreat.SW

namespace Go.Proofs.YtekambdnmaompaaGreat.SW
set_option linter.unusedVariables false
set_option linter.unusedSimpArgs false
open Go.RowKit
set_option maxRecDepth 100000 in
set_option maxHeartbeats 4000000 in
theorem Fouls_yes (A A2 AP : Option Addr) (c c2 cp n : Nat) (p : Pl) (l : List S) (w : World) (hP : PlAt w w.heap.size A c A2 c2 p) (hV : Vld p) (hN2 : p.rails.length ≤ 12) (hn : l.length = n) (hn1 : 1 ≤ n) (hn2 : n ≤ 6) (hS : Sl w w.heap.size 2 CS AP l) (hpr : l.all prB = true) :
    Calls Tryz.prog 31 #[.agg #[.slice A p.nodes.length c, .slice A2 p.rails.length c2], .slice AP n cp] w fun e w' => (∃ v, e = .returned (.tuple #[v, .int .i64 0]) ∧ Own w' w.heap.size 60 4 fF v (foulsL p l)) ∧ Below w.heap.size w w' := by
  have hb1 := (Below.refl _ w).alloc (Nat.le_refl _) (.cells #[.slice A p.nodes.length c, .slice A2 p.rails.length c2] 25)
  have q1 := Rw.new w #[.slice A p.nodes.length c, .slice A2 p.rails.length c2] 25
  have hzz : (w.alloc (.cells #[.slice A p.nodes.length c, .slice A2 p.rails.length c2] 25)).heap.size = w.heap.size + 1 := by simp
  obtain ⟨W1, hW1⟩ : ∃ z, w.alloc (.cells #[.slice A p.nodes.length c, .slice A2 p.rails.length c2] 25) = z := ⟨_, rfl⟩
  rw [hW1] at hb1 q1 hzz
  have HB1 := Lib.hid hb1
  have HB0 := Lib.hid (Below.refl W1.heap.size W1)
  have HR := Lib.hid (show ∀ wx, Below W1.heap.size W1 wx → Rw wx w.heap.size 25 #[.slice A p.nodes.length c, .slice A2 p.rails.length c2] from fun wx h => q1.below h (by omega))
  have HPB := Lib.hid (show ∀ wx, Below W1.heap.size W1 wx → PlAt wx wx.heap.size A c A2 c2 p from fun wx h => ((hP.below hb1).below (h.mono hb1.size)).more (Nat.le_trans hb1.size h.size))
  have HSB := Lib.hid (show ∀ wx, Below W1.heap.size W1 wx → Sl wx wx.heap.size 2 CS AP l from fun wx h => (hS.below (hb1.trans (h.mono hb1.size))).more (fun _ _ h => h) (Nat.le_trans hb1.size h.size))
  have HCK := Lib.hid (show ∀ wx, Below W1.heap.size W1 wx → Calls Tryz.prog 48 #[.agg #[.slice A p.nodes.length c, .slice A2 p.rails.length c2]] wx (CheckPost p wx) from fun wx hx => Check_any A A2 c c2 p wx (HPB.out wx hx))
  have HRI := Lib.hid (show ∀ wx, Below W1.heap.size W1 wx → Calls Tryz.prog 66 #[.slice AP n cp] wx fun e w' => e = .returned (.bool true) ∧ Below wx.heap.size wx w' from fun wx h => by
    have h9 := right_any AP cp n l wx hn (by omega) (HSB.out wx h)
    rwa [hpr] at h9)
  have HFO := Lib.hid (show ∀ wx, Below W1.heap.size W1 wx → Calls Tryz.prog 70 #[.agg #[.slice A p.nodes.length c, .slice A2 p.rails.length c2], .slice AP n cp] wx fun e w' => ∃ v, e = .returned v ∧ Own w' wx.heap.size 60 4 fF v (foulsL p l) ∧ Below wx.heap.size wx w' from fun wx h => fouls_any A A2 AP c c2 cp p.rails.length n p l wx (HPB.out wx h) hV rfl hN2 hn hn2 (HSB.out wx h) (fun x hx => List.all_eq_true.1 hpr x hx))
  have HV := Lib.hid hV
  have n0 : (0 : Int) < (n : Int) := by omega
  have n1 : (n : Int) ≤ 6 := by omega
  have e0 := q1.cell 0; have e1 := q1.cell 1
  clear hb1 q1 hP hzz hV hS hpr hn
  go_enter Tryz.func31, Tryz.ntmps31
  go_wp2_with fail
  (with_reducible refine (HCK.out _ HB0.out).mono ?_)
  rintro e w2 ⟨h, hb2⟩
  have HB2 := Lib.hid hb2
  have r1 := HR.out _ HB2.out
  have e0 := r1.cell 0; have e1 := r1.cell 1
  rcases h with ⟨hV, rfl⟩ | ⟨hV, rfl⟩
  case inr => exact absurd HV.out hV
  clear hW1 hb2 hV r1
  go_wp2_with fail
  (with_reducible refine (HRI.out _ HB2.out).mono ?_)
  rintro e w3 ⟨rfl, hb3⟩
  have HB3 := Lib.hid (HB2.out.trans (hb3.mono HB2.out.size))
  clear e0 e1
  have r1 := HR.out _ HB3.out
  have e0 := r1.cell 0; have e1 := r1.cell 1
  clear hb3 r1
  go_wp2_with fail
  (with_reducible refine (HFO.out _ HB3.out).mono ?_)
  rintro e w4 ⟨v, rfl, ho, hb4⟩
  have HO := Lib.hid ho; have HB4 := Lib.hid hb4
  clear ho hb4 e0 e1
  go_wp2
  go_ret2
  exact ⟨⟨_, rfl, HO.out.lower (Nat.le_trans HB1.out.size HB3.out.size)⟩, HB1.out.trans ((HB3.out.trans (HB4.out.mono HB3.out.size)).mono HB1.out.size)⟩
end Go.Proofs.YtekambdnmaompaaGreat.SW
