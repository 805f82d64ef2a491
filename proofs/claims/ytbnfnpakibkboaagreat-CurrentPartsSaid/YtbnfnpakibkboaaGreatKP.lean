/- Texts C50 D8 C51 D9. -/
import Derived.Test.YtbnfnpakibkboaaGreatKO
namespace Go.Proofs.YtbnfnpakibkboaaGreat
set_option linter.unusedVariables false
set_option linter.unusedSimpArgs false
open Go.RowKit

set_option maxRecDepth 100000 in
set_option maxHeartbeats 8000000 in
theorem StA.nextC {w : World} {B sb : Nat} {x : SL} {C : Nat → Ci} {V : Nat → Vi} {K' : Nat → Bool} {z : Zs} {fon run : List Bool} {xs : List Pm} (h : StA w B sb x C V K' z fon run xs (fun j => j < z.np)) (hz : z.Ok) :
    Calls Tryz.prog 83 #[.pointer (some ⟨sb, 0, none⟩)] w fun e w' => RuP (z.next fon run) w e w' := by
  have hb1 := (((Below.refl w.heap.size w).alloc (Nat.le_refl _) (.cells #[.int .i64 0, .int .i64 0, .int .i64 0, .int .i64 0] 92)).alloc (by simp) (.cells #[.int .i64 0, .int .i64 0, .int .i64 0, .int .i64 0] 92)).alloc (by simp; omega) (.cells #[.func (.func 98) #[.pointer (some ⟨sb, 0, none⟩)] #[], .func (.func 99) #[.pointer (some ⟨sb, 0, none⟩)] #[], .func (.func 100) #[.pointer (some ⟨sb, 0, none⟩)] #[], .func (.func 101) #[.pointer (some ⟨sb, 0, none⟩)] #[]] 137)
  obtain ⟨q1, q2, q3⟩ := rows3 w #[.int .i64 0, .int .i64 0, .int .i64 0, .int .i64 0] #[.int .i64 0, .int .i64 0, .int .i64 0, .int .i64 0] #[.func (.func 98) #[.pointer (some ⟨sb, 0, none⟩)] #[], .func (.func 99) #[.pointer (some ⟨sb, 0, none⟩)] #[], .func (.func 100) #[.pointer (some ⟨sb, 0, none⟩)] #[], .func (.func 101) #[.pointer (some ⟨sb, 0, none⟩)] #[]] 92 92 137
  obtain ⟨W1, hW1⟩ : ∃ y, ((w.alloc (.cells #[.int .i64 0, .int .i64 0, .int .i64 0, .int .i64 0] 92)).alloc (.cells #[.int .i64 0, .int .i64 0, .int .i64 0, .int .i64 0] 92)).alloc (.cells #[.func (.func 98) #[.pointer (some ⟨sb, 0, none⟩)] #[], .func (.func 99) #[.pointer (some ⟨sb, 0, none⟩)] #[], .func (.func 100) #[.pointer (some ⟨sb, 0, none⟩)] #[], .func (.func 101) #[.pointer (some ⟨sb, 0, none⟩)] #[]] 137) = y := ⟨_, rfl⟩
  rw [hW1] at hb1 q1 q2 q3
  have HB1 := Lib.hid hb1; have HQ1 := Lib.hid q1; have HQ2 := Lib.hid q2; have HQ3 := Lib.hid q3; have HH := Lib.hid h; have HZ := Lib.hid hz
  clear hb1 q1 q2 q3 h hz
  go_enter Tryz.func83, Tryz.ntmps83
  go_wp2
  go_step3
  go_wp2
  go_step3
  go_wp2
  go_loopw [5, 18] (fun s5 s18 wr => ∃ k : Nat, k ≤ 4 ∧ s18 = .int .i64 (k : Int) ∧ s5 = .bool false ∧ Rw wr (w.heap.size + 1) 92 #[.int .i64 0, .int .i64 0, .int .i64 0, .int .i64 0] ∧ Gr (w.heap.size + 1) W1 wr ∧ ((1 ≤ k → z.dead fon run = none) ∧ (2 ≤ k → z.back fon run = none) ∧ (3 ≤ k → z.low fon run = none) ∧ (4 ≤ k → z.trip fon run = none))) (fun _ s18 _ => 4 - (intOf s18).toNat)
  case atStart => exact ⟨0, by decide, rfl, rfl, HQ2.out, Gr.refl _ _, fun h => absurd h (by decide), fun h => absurd h (by decide), fun h => absurd h (by decide), fun h => absurd h (by decide)⟩
  case round =>
    obtain ⟨k, hk, rfl, rfl, h4, hg, hp⟩ := hrel
    have h2 := hg.rw' HQ1.out (by omega)
    have h3 := hg.rw' HQ3.out (by omega)
    have hbw : Below w.heap.size w wr := HB1.out.trans ⟨hg.os, hg.tape, hg.output, hg.size, fun i hi => hg.blk (by have := HB1.out.size; omega) (by omega)⟩
    have hbr := hbw.size
    have hh := HH.out.below hbw
    have hz0 := HZ.out
    have HR2 := Lib.hid h2; have HR4 := Lib.hid h4; have HBW := Lib.hid hbw; have HGR := Lib.hid hg; have HP := Lib.hid hp
    have fc := h3.cell
    clear h3
    rcases (show k = 0 ∨ k = 1 ∨ k = 2 ∨ k = 3 ∨ k = 4 by omega) with rfl | rfl | rfl | rfl | rfl
    · have HC := Lib.hid (hh.deadC hz0)
      obtain ⟨o, ho⟩ : ∃ o, z.dead fon run = o := ⟨_, rfl⟩
      rw [ho] at HC
      have HO := Lib.hid ho
      clear hbr hbw h2 h4 hg ho
      go_wp2_with fail
      (with_reducible refine (HC.out).mono ?_)
      rintro e w3 ⟨rfl, hb3⟩
      clear fc
      have r2 := HR2.out.below hb3 HR2.out.lt
      have r4 := HR4.out.below hb3 HR4.out.lt
      have HB3 := Lib.hid (HBW.out.trans (hb3.mono HBW.out.size)); have HG3 := Lib.hid (HGR.out.trans (Gr.of_below hb3 (Nat.le_refl _) (w.heap.size + 1)))
      have e2 := r2.cell; have f2 := r2.frozen; have e4 := r4.cell; have f4 := r4.frozen
      clear hb3
      cases o with
      | none =>
        have HR5 := Lib.hid (show Rw ((((w3.setCell ⟨w.heap.size + 1, 0, none⟩ (.int .i64 0)).setCell ⟨w.heap.size + 1, 1, none⟩ (.int .i64 0)).setCell ⟨w.heap.size + 1, 2, none⟩ (.int .i64 0)).setCell ⟨w.heap.size + 1, 3, none⟩ (.int .i64 0)) (w.heap.size + 1) 92 #[.int .i64 0, .int .i64 0, .int .i64 0, .int .i64 0] from (((r4.set 0 _).set 1 _).set 2 _).set 3 _)
        have HGN := Lib.hid ((((HG3.out.set (p := ⟨w.heap.size + 1, 0, none⟩) (.int .i64 0) (.inl rfl)).set (p := ⟨w.heap.size + 1, 1, none⟩) (.int .i64 0) (.inl rfl)).set (p := ⟨w.heap.size + 1, 2, none⟩) (.int .i64 0) (.inl rfl)).set (p := ⟨w.heap.size + 1, 3, none⟩) (.int .i64 0) (.inl rfl))
        clear r2 r4
        simp only [cutA, Option.isSome_none]
        go_wp2
        refine ⟨⟨1, by decide, by simp, rfl, HR5.out, HGN.out, ⟨fun _ => HO.out, fun h => absurd h (by decide), fun h => absurd h (by decide), fun h => absurd h (by decide)⟩⟩, ?_⟩
        simp [intOf]
      | some p =>
        obtain ⟨kd, ix, a1, a2⟩ := p
        have HNX := Lib.hid (show z.next fon run = some (kd, ix, a1, a2) from by unfold Zs.next; rw [HO.out]; rfl)
        have hr4 := (((r4.set 0 (.int .i64 kd)).set 1 (.int .i64 (ix : Int))).set 2 (.int .i64 a1)).set 3 (.int .i64 a2)
        have hr2 := (((r2.far (k := w.heap.size + 1) 0 (.int .i64 kd) (by omega)).far (k := w.heap.size + 1) 1 (.int .i64 (ix : Int)) (by omega)).far (k := w.heap.size + 1) 2 (.int .i64 a1) (by omega)).far (k := w.heap.size + 1) 3 (.int .i64 a2) (by omega)
        have hbe := (((HB3.out.setCell (p := ⟨w.heap.size + 1, 0, none⟩) (Nat.le_succ _) (.int .i64 kd)).setCell (p := ⟨w.heap.size + 1, 1, none⟩) (Nat.le_succ _) (.int .i64 (ix : Int))).setCell (p := ⟨w.heap.size + 1, 2, none⟩) (Nat.le_succ _) (.int .i64 a1)).setCell (p := ⟨w.heap.size + 1, 3, none⟩) (Nat.le_succ _) (.int .i64 a2)
        obtain ⟨w4, hw4⟩ : ∃ y, (((w3.setCell ⟨w.heap.size + 1, 0, none⟩ (.int .i64 kd)).setCell ⟨w.heap.size + 1, 1, none⟩ (.int .i64 (ix : Int))).setCell ⟨w.heap.size + 1, 2, none⟩ (.int .i64 a1)).setCell ⟨w.heap.size + 1, 3, none⟩ (.int .i64 a2) = y := ⟨_, rfl⟩
        rw [hw4] at hr4 hr2 hbe
        have n4 : ∀ i : Nat, w4.cell? ⟨w.heap.size + 1, i, none⟩ = (#[.int .i64 kd, .int .i64 (ix : Int), .int .i64 a1, .int .i64 a2] : Array Value)[i]? := (show Rw w4 (w.heap.size + 1) 92 #[.int .i64 kd, .int .i64 (ix : Int), .int .i64 a1, .int .i64 a2] from hr4).cell
        have n2 := hr2.cell; have nf2 := hr2.frozen
        have HR6 := Lib.hid (show Rw ((((w4.setCell ⟨w.heap.size, 0, none⟩ (.int .i64 kd)).setCell ⟨w.heap.size, 1, none⟩ (.int .i64 (ix : Int))).setCell ⟨w.heap.size, 2, none⟩ (.int .i64 a1)).setCell ⟨w.heap.size, 3, none⟩ (.int .i64 a2)) w.heap.size 92 #[.int .i64 kd, .int .i64 (ix : Int), .int .i64 a1, .int .i64 a2] from (((hr2.set 0 _).set 1 _).set 2 _).set 3 _)
        have HBE := Lib.hid (((hbe.setCell (p := ⟨w.heap.size, 0, none⟩) (Nat.le_refl _) (.int .i64 kd)).setCell (p := ⟨w.heap.size, 1, none⟩) (Nat.le_refl _) (.int .i64 (ix : Int))).setCell (p := ⟨w.heap.size, 2, none⟩) (Nat.le_refl _) (.int .i64 a1) |>.setCell (p := ⟨w.heap.size, 3, none⟩) (Nat.le_refl _) (.int .i64 a2))
        clear r2 r4 hr4 hr2 hbe
        simp only [cutA, Option.isSome_some]
        go_upto_region 9 with (fail)
        (try simp only [hw4])
        clear hw4 e2 f2 e4 f4
        go_wp2
        (try simp only [Exit.inBlock, Exit.then])
        refine bodyPost_ret (res_ct rfl _ _ _ _ _ _ _ rfl rfl HR6.out Tryz.underlying92 rfl (by kernel_rfl)) rfl ?_
        exact ⟨by rw [HNX.out]; rfl, HBE.out⟩
    · have HC := Lib.hid (hh.backC hz0)
      obtain ⟨o, ho⟩ : ∃ o, z.back fon run = o := ⟨_, rfl⟩
      rw [ho] at HC
      have HO := Lib.hid ho
      clear hbr hbw h2 h4 hg ho
      go_wp2_with fail
      (with_reducible refine (HC.out).mono ?_)
      rintro e w3 ⟨rfl, hb3⟩
      clear fc
      have r2 := HR2.out.below hb3 HR2.out.lt
      have r4 := HR4.out.below hb3 HR4.out.lt
      have HB3 := Lib.hid (HBW.out.trans (hb3.mono HBW.out.size)); have HG3 := Lib.hid (HGR.out.trans (Gr.of_below hb3 (Nat.le_refl _) (w.heap.size + 1)))
      have e2 := r2.cell; have f2 := r2.frozen; have e4 := r4.cell; have f4 := r4.frozen
      clear hb3
      cases o with
      | none =>
        have HR5 := Lib.hid (show Rw ((((w3.setCell ⟨w.heap.size + 1, 0, none⟩ (.int .i64 0)).setCell ⟨w.heap.size + 1, 1, none⟩ (.int .i64 0)).setCell ⟨w.heap.size + 1, 2, none⟩ (.int .i64 0)).setCell ⟨w.heap.size + 1, 3, none⟩ (.int .i64 0)) (w.heap.size + 1) 92 #[.int .i64 0, .int .i64 0, .int .i64 0, .int .i64 0] from (((r4.set 0 _).set 1 _).set 2 _).set 3 _)
        have HGN := Lib.hid ((((HG3.out.set (p := ⟨w.heap.size + 1, 0, none⟩) (.int .i64 0) (.inl rfl)).set (p := ⟨w.heap.size + 1, 1, none⟩) (.int .i64 0) (.inl rfl)).set (p := ⟨w.heap.size + 1, 2, none⟩) (.int .i64 0) (.inl rfl)).set (p := ⟨w.heap.size + 1, 3, none⟩) (.int .i64 0) (.inl rfl))
        clear r2 r4
        simp only [cutA, Option.isSome_none]
        go_wp2
        refine ⟨⟨2, by decide, by simp, rfl, HR5.out, HGN.out, ⟨fun _ => HP.out.1 (by decide), fun _ => HO.out, fun h => absurd h (by decide), fun h => absurd h (by decide)⟩⟩, ?_⟩
        simp [intOf]
      | some p =>
        obtain ⟨kd, ix, a1, a2⟩ := p
        have HNX := Lib.hid (show z.next fon run = some (kd, ix, a1, a2) from by unfold Zs.next; rw [HP.out.1 (by decide)]; rw [HO.out]; rfl)
        have hr4 := (((r4.set 0 (.int .i64 kd)).set 1 (.int .i64 (ix : Int))).set 2 (.int .i64 a1)).set 3 (.int .i64 a2)
        have hr2 := (((r2.far (k := w.heap.size + 1) 0 (.int .i64 kd) (by omega)).far (k := w.heap.size + 1) 1 (.int .i64 (ix : Int)) (by omega)).far (k := w.heap.size + 1) 2 (.int .i64 a1) (by omega)).far (k := w.heap.size + 1) 3 (.int .i64 a2) (by omega)
        have hbe := (((HB3.out.setCell (p := ⟨w.heap.size + 1, 0, none⟩) (Nat.le_succ _) (.int .i64 kd)).setCell (p := ⟨w.heap.size + 1, 1, none⟩) (Nat.le_succ _) (.int .i64 (ix : Int))).setCell (p := ⟨w.heap.size + 1, 2, none⟩) (Nat.le_succ _) (.int .i64 a1)).setCell (p := ⟨w.heap.size + 1, 3, none⟩) (Nat.le_succ _) (.int .i64 a2)
        obtain ⟨w4, hw4⟩ : ∃ y, (((w3.setCell ⟨w.heap.size + 1, 0, none⟩ (.int .i64 kd)).setCell ⟨w.heap.size + 1, 1, none⟩ (.int .i64 (ix : Int))).setCell ⟨w.heap.size + 1, 2, none⟩ (.int .i64 a1)).setCell ⟨w.heap.size + 1, 3, none⟩ (.int .i64 a2) = y := ⟨_, rfl⟩
        rw [hw4] at hr4 hr2 hbe
        have n4 : ∀ i : Nat, w4.cell? ⟨w.heap.size + 1, i, none⟩ = (#[.int .i64 kd, .int .i64 (ix : Int), .int .i64 a1, .int .i64 a2] : Array Value)[i]? := (show Rw w4 (w.heap.size + 1) 92 #[.int .i64 kd, .int .i64 (ix : Int), .int .i64 a1, .int .i64 a2] from hr4).cell
        have n2 := hr2.cell; have nf2 := hr2.frozen
        have HR6 := Lib.hid (show Rw ((((w4.setCell ⟨w.heap.size, 0, none⟩ (.int .i64 kd)).setCell ⟨w.heap.size, 1, none⟩ (.int .i64 (ix : Int))).setCell ⟨w.heap.size, 2, none⟩ (.int .i64 a1)).setCell ⟨w.heap.size, 3, none⟩ (.int .i64 a2)) w.heap.size 92 #[.int .i64 kd, .int .i64 (ix : Int), .int .i64 a1, .int .i64 a2] from (((hr2.set 0 _).set 1 _).set 2 _).set 3 _)
        have HBE := Lib.hid (((hbe.setCell (p := ⟨w.heap.size, 0, none⟩) (Nat.le_refl _) (.int .i64 kd)).setCell (p := ⟨w.heap.size, 1, none⟩) (Nat.le_refl _) (.int .i64 (ix : Int))).setCell (p := ⟨w.heap.size, 2, none⟩) (Nat.le_refl _) (.int .i64 a1) |>.setCell (p := ⟨w.heap.size, 3, none⟩) (Nat.le_refl _) (.int .i64 a2))
        clear r2 r4 hr4 hr2 hbe
        simp only [cutA, Option.isSome_some]
        go_upto_region 9 with (fail)
        (try simp only [hw4])
        clear hw4 e2 f2 e4 f4
        go_wp2
        (try simp only [Exit.inBlock, Exit.then])
        refine bodyPost_ret (res_ct rfl _ _ _ _ _ _ _ rfl rfl HR6.out Tryz.underlying92 rfl (by kernel_rfl)) rfl ?_
        exact ⟨by rw [HNX.out]; rfl, HBE.out⟩
    · have HC := Lib.hid (hh.lowC hz0 (hz0.solved_of (hp.1 (by decide)) (hp.2.1 (by decide))))
      obtain ⟨o, ho⟩ : ∃ o, z.low fon run = o := ⟨_, rfl⟩
      rw [ho] at HC
      have HO := Lib.hid ho
      clear hbr hbw h2 h4 hg ho
      go_wp2_with fail
      (with_reducible refine (HC.out).mono ?_)
      rintro e w3 ⟨rfl, hb3⟩
      clear fc
      have r2 := HR2.out.below hb3 HR2.out.lt
      have r4 := HR4.out.below hb3 HR4.out.lt
      have HB3 := Lib.hid (HBW.out.trans (hb3.mono HBW.out.size)); have HG3 := Lib.hid (HGR.out.trans (Gr.of_below hb3 (Nat.le_refl _) (w.heap.size + 1)))
      have e2 := r2.cell; have f2 := r2.frozen; have e4 := r4.cell; have f4 := r4.frozen
      clear hb3
      cases o with
      | none =>
        have HR5 := Lib.hid (show Rw ((((w3.setCell ⟨w.heap.size + 1, 0, none⟩ (.int .i64 0)).setCell ⟨w.heap.size + 1, 1, none⟩ (.int .i64 0)).setCell ⟨w.heap.size + 1, 2, none⟩ (.int .i64 0)).setCell ⟨w.heap.size + 1, 3, none⟩ (.int .i64 0)) (w.heap.size + 1) 92 #[.int .i64 0, .int .i64 0, .int .i64 0, .int .i64 0] from (((r4.set 0 _).set 1 _).set 2 _).set 3 _)
        have HGN := Lib.hid ((((HG3.out.set (p := ⟨w.heap.size + 1, 0, none⟩) (.int .i64 0) (.inl rfl)).set (p := ⟨w.heap.size + 1, 1, none⟩) (.int .i64 0) (.inl rfl)).set (p := ⟨w.heap.size + 1, 2, none⟩) (.int .i64 0) (.inl rfl)).set (p := ⟨w.heap.size + 1, 3, none⟩) (.int .i64 0) (.inl rfl))
        clear r2 r4
        simp only [cutA, Option.isSome_none]
        go_wp2
        refine ⟨⟨3, by decide, by simp, rfl, HR5.out, HGN.out, ⟨fun _ => HP.out.1 (by decide), fun _ => HP.out.2.1 (by decide), fun _ => HO.out, fun h => absurd h (by decide)⟩⟩, ?_⟩
        simp [intOf]
      | some p =>
        obtain ⟨kd, ix, a1, a2⟩ := p
        have HNX := Lib.hid (show z.next fon run = some (kd, ix, a1, a2) from by unfold Zs.next; rw [HP.out.1 (by decide)]; rw [HP.out.2.1 (by decide)]; rw [HO.out]; rfl)
        have hr4 := (((r4.set 0 (.int .i64 kd)).set 1 (.int .i64 (ix : Int))).set 2 (.int .i64 a1)).set 3 (.int .i64 a2)
        have hr2 := (((r2.far (k := w.heap.size + 1) 0 (.int .i64 kd) (by omega)).far (k := w.heap.size + 1) 1 (.int .i64 (ix : Int)) (by omega)).far (k := w.heap.size + 1) 2 (.int .i64 a1) (by omega)).far (k := w.heap.size + 1) 3 (.int .i64 a2) (by omega)
        have hbe := (((HB3.out.setCell (p := ⟨w.heap.size + 1, 0, none⟩) (Nat.le_succ _) (.int .i64 kd)).setCell (p := ⟨w.heap.size + 1, 1, none⟩) (Nat.le_succ _) (.int .i64 (ix : Int))).setCell (p := ⟨w.heap.size + 1, 2, none⟩) (Nat.le_succ _) (.int .i64 a1)).setCell (p := ⟨w.heap.size + 1, 3, none⟩) (Nat.le_succ _) (.int .i64 a2)
        obtain ⟨w4, hw4⟩ : ∃ y, (((w3.setCell ⟨w.heap.size + 1, 0, none⟩ (.int .i64 kd)).setCell ⟨w.heap.size + 1, 1, none⟩ (.int .i64 (ix : Int))).setCell ⟨w.heap.size + 1, 2, none⟩ (.int .i64 a1)).setCell ⟨w.heap.size + 1, 3, none⟩ (.int .i64 a2) = y := ⟨_, rfl⟩
        rw [hw4] at hr4 hr2 hbe
        have n4 : ∀ i : Nat, w4.cell? ⟨w.heap.size + 1, i, none⟩ = (#[.int .i64 kd, .int .i64 (ix : Int), .int .i64 a1, .int .i64 a2] : Array Value)[i]? := (show Rw w4 (w.heap.size + 1) 92 #[.int .i64 kd, .int .i64 (ix : Int), .int .i64 a1, .int .i64 a2] from hr4).cell
        have n2 := hr2.cell; have nf2 := hr2.frozen
        have HR6 := Lib.hid (show Rw ((((w4.setCell ⟨w.heap.size, 0, none⟩ (.int .i64 kd)).setCell ⟨w.heap.size, 1, none⟩ (.int .i64 (ix : Int))).setCell ⟨w.heap.size, 2, none⟩ (.int .i64 a1)).setCell ⟨w.heap.size, 3, none⟩ (.int .i64 a2)) w.heap.size 92 #[.int .i64 kd, .int .i64 (ix : Int), .int .i64 a1, .int .i64 a2] from (((hr2.set 0 _).set 1 _).set 2 _).set 3 _)
        have HBE := Lib.hid (((hbe.setCell (p := ⟨w.heap.size, 0, none⟩) (Nat.le_refl _) (.int .i64 kd)).setCell (p := ⟨w.heap.size, 1, none⟩) (Nat.le_refl _) (.int .i64 (ix : Int))).setCell (p := ⟨w.heap.size, 2, none⟩) (Nat.le_refl _) (.int .i64 a1) |>.setCell (p := ⟨w.heap.size, 3, none⟩) (Nat.le_refl _) (.int .i64 a2))
        clear r2 r4 hr4 hr2 hbe
        simp only [cutA, Option.isSome_some]
        go_upto_region 9 with (fail)
        (try simp only [hw4])
        clear hw4 e2 f2 e4 f4
        go_wp2
        (try simp only [Exit.inBlock, Exit.then])
        refine bodyPost_ret (res_ct rfl _ _ _ _ _ _ _ rfl rfl HR6.out Tryz.underlying92 rfl (by kernel_rfl)) rfl ?_
        exact ⟨by rw [HNX.out]; rfl, HBE.out⟩
    · have HC := Lib.hid (hh.tripC hz0 (hz0.solved_of (hp.1 (by decide)) (hp.2.1 (by decide))))
      obtain ⟨o, ho⟩ : ∃ o, z.trip fon run = o := ⟨_, rfl⟩
      rw [ho] at HC
      have HO := Lib.hid ho
      clear hbr hbw h2 h4 hg ho
      go_wp2_with fail
      (with_reducible refine (HC.out).mono ?_)
      rintro e w3 ⟨rfl, hb3⟩
      clear fc
      have r2 := HR2.out.below hb3 HR2.out.lt
      have r4 := HR4.out.below hb3 HR4.out.lt
      have HB3 := Lib.hid (HBW.out.trans (hb3.mono HBW.out.size)); have HG3 := Lib.hid (HGR.out.trans (Gr.of_below hb3 (Nat.le_refl _) (w.heap.size + 1)))
      have e2 := r2.cell; have f2 := r2.frozen; have e4 := r4.cell; have f4 := r4.frozen
      clear hb3
      cases o with
      | none =>
        have HR5 := Lib.hid (show Rw ((((w3.setCell ⟨w.heap.size + 1, 0, none⟩ (.int .i64 0)).setCell ⟨w.heap.size + 1, 1, none⟩ (.int .i64 0)).setCell ⟨w.heap.size + 1, 2, none⟩ (.int .i64 0)).setCell ⟨w.heap.size + 1, 3, none⟩ (.int .i64 0)) (w.heap.size + 1) 92 #[.int .i64 0, .int .i64 0, .int .i64 0, .int .i64 0] from (((r4.set 0 _).set 1 _).set 2 _).set 3 _)
        have HGN := Lib.hid ((((HG3.out.set (p := ⟨w.heap.size + 1, 0, none⟩) (.int .i64 0) (.inl rfl)).set (p := ⟨w.heap.size + 1, 1, none⟩) (.int .i64 0) (.inl rfl)).set (p := ⟨w.heap.size + 1, 2, none⟩) (.int .i64 0) (.inl rfl)).set (p := ⟨w.heap.size + 1, 3, none⟩) (.int .i64 0) (.inl rfl))
        clear r2 r4
        simp only [cutA, Option.isSome_none]
        go_wp2
        refine ⟨⟨4, by decide, by simp, rfl, HR5.out, HGN.out, ⟨fun _ => HP.out.1 (by decide), fun _ => HP.out.2.1 (by decide), fun _ => HP.out.2.2.1 (by decide), fun _ => HO.out⟩⟩, ?_⟩
        simp [intOf]
      | some p =>
        obtain ⟨kd, ix, a1, a2⟩ := p
        have HNX := Lib.hid (show z.next fon run = some (kd, ix, a1, a2) from by unfold Zs.next; rw [HP.out.1 (by decide)]; rw [HP.out.2.1 (by decide)]; rw [HP.out.2.2.1 (by decide)]; rw [HO.out]; rfl)
        have hr4 := (((r4.set 0 (.int .i64 kd)).set 1 (.int .i64 (ix : Int))).set 2 (.int .i64 a1)).set 3 (.int .i64 a2)
        have hr2 := (((r2.far (k := w.heap.size + 1) 0 (.int .i64 kd) (by omega)).far (k := w.heap.size + 1) 1 (.int .i64 (ix : Int)) (by omega)).far (k := w.heap.size + 1) 2 (.int .i64 a1) (by omega)).far (k := w.heap.size + 1) 3 (.int .i64 a2) (by omega)
        have hbe := (((HB3.out.setCell (p := ⟨w.heap.size + 1, 0, none⟩) (Nat.le_succ _) (.int .i64 kd)).setCell (p := ⟨w.heap.size + 1, 1, none⟩) (Nat.le_succ _) (.int .i64 (ix : Int))).setCell (p := ⟨w.heap.size + 1, 2, none⟩) (Nat.le_succ _) (.int .i64 a1)).setCell (p := ⟨w.heap.size + 1, 3, none⟩) (Nat.le_succ _) (.int .i64 a2)
        obtain ⟨w4, hw4⟩ : ∃ y, (((w3.setCell ⟨w.heap.size + 1, 0, none⟩ (.int .i64 kd)).setCell ⟨w.heap.size + 1, 1, none⟩ (.int .i64 (ix : Int))).setCell ⟨w.heap.size + 1, 2, none⟩ (.int .i64 a1)).setCell ⟨w.heap.size + 1, 3, none⟩ (.int .i64 a2) = y := ⟨_, rfl⟩
        rw [hw4] at hr4 hr2 hbe
        have n4 : ∀ i : Nat, w4.cell? ⟨w.heap.size + 1, i, none⟩ = (#[.int .i64 kd, .int .i64 (ix : Int), .int .i64 a1, .int .i64 a2] : Array Value)[i]? := (show Rw w4 (w.heap.size + 1) 92 #[.int .i64 kd, .int .i64 (ix : Int), .int .i64 a1, .int .i64 a2] from hr4).cell
        have n2 := hr2.cell; have nf2 := hr2.frozen
        have HR6 := Lib.hid (show Rw ((((w4.setCell ⟨w.heap.size, 0, none⟩ (.int .i64 kd)).setCell ⟨w.heap.size, 1, none⟩ (.int .i64 (ix : Int))).setCell ⟨w.heap.size, 2, none⟩ (.int .i64 a1)).setCell ⟨w.heap.size, 3, none⟩ (.int .i64 a2)) w.heap.size 92 #[.int .i64 kd, .int .i64 (ix : Int), .int .i64 a1, .int .i64 a2] from (((hr2.set 0 _).set 1 _).set 2 _).set 3 _)
        have HBE := Lib.hid (((hbe.setCell (p := ⟨w.heap.size, 0, none⟩) (Nat.le_refl _) (.int .i64 kd)).setCell (p := ⟨w.heap.size, 1, none⟩) (Nat.le_refl _) (.int .i64 (ix : Int))).setCell (p := ⟨w.heap.size, 2, none⟩) (Nat.le_refl _) (.int .i64 a1) |>.setCell (p := ⟨w.heap.size, 3, none⟩) (Nat.le_refl _) (.int .i64 a2))
        clear r2 r4 hr4 hr2 hbe
        simp only [cutA, Option.isSome_some]
        go_upto_region 9 with (fail)
        (try simp only [hw4])
        clear hw4 e2 f2 e4 f4
        go_wp2
        (try simp only [Exit.inBlock, Exit.then])
        refine bodyPost_ret (res_ct rfl _ _ _ _ _ _ _ rfl rfl HR6.out Tryz.underlying92 rfl (by kernel_rfl)) rfl ?_
        exact ⟨by rw [HNX.out]; rfl, HBE.out⟩
    · have HNX := Lib.hid (show z.next fon run = none from by unfold Zs.next; rw [hp.1 (by decide), hp.2.1 (by decide), hp.2.2.1 (by decide), hp.2.2.2 (by decide)]; rfl)
      have e4 := h4.cell; have e2 := h2.cell; have f2 := h2.frozen
      have HR6 := Lib.hid (show Rw ((((wr.setCell ⟨w.heap.size, 0, none⟩ (.int .i64 0)).setCell ⟨w.heap.size, 1, none⟩ (.int .i64 0)).setCell ⟨w.heap.size, 2, none⟩ (.int .i64 0)).setCell ⟨w.heap.size, 3, none⟩ (.int .i64 0)) w.heap.size 92 #[.int .i64 0, .int .i64 0, .int .i64 0, .int .i64 0] from (((h2.set 0 _).set 1 _).set 2 _).set 3 _)
      have HBE := Lib.hid (((hbw.setCell (p := ⟨w.heap.size, 0, none⟩) (Nat.le_refl _) (.int .i64 0)).setCell (p := ⟨w.heap.size, 1, none⟩) (Nat.le_refl _) (.int .i64 0)).setCell (p := ⟨w.heap.size, 2, none⟩) (Nat.le_refl _) (.int .i64 0) |>.setCell (p := ⟨w.heap.size, 3, none⟩) (Nat.le_refl _) (.int .i64 0))
      clear h2 h4 hg hp hh hbr hbw fc
      go_wp2
      (try simp only [Exit.inBlock, Exit.then])
      refine bodyPost_ret (res_ct rfl _ _ _ _ _ _ _ rfl rfl HR6.out Tryz.underlying92 rfl (by kernel_rfl)) rfl ?_
      exact ⟨by rw [HNX.out]; rfl, HBE.out⟩
end Go.Proofs.YtbnfnpakibkboaaGreat

namespace Go.Proofs.YtbnfnpakibkboaaGreat
set_option linter.unusedVariables false
set_option linter.unusedSimpArgs false
open Go.RowKit

theorem flat_fB (l : List Bool) : l.flatMap fB = l.map Value.bool := by
  induction l with
  | nil => rfl
  | cons a l ih => rw [List.flatMap_cons, ih]; rfl
theorem own_setB {w : World} {base g cap n : Nat} {l : List Bool} (hn : l.length = n) (h : Own w base 4 1 fB (.slice (some ⟨g, 0, none⟩) n cap) l) (k : Nat) (u : Bool) :
    Own (w.setCell ⟨g, k, none⟩ (.bool u)) base 4 1 fB (.slice (some ⟨g, 0, none⟩) n cap) (l.set k u) := by
  unfold Own at h
  rw [hn] at h
  have h2 := World.ownsRow.stored h k (.bool u)
  unfold Own
  rw [List.length_set, hn, flat_fB, List.map_set]
  rw [flat_fB] at h2
  exact h2.1
theorem foldl_set {α β : Type} (st : β → α → β) {l : List α} {m : Nat} (y : α) (hy : ∀ f : β, ∀ x, l[m]? = some x → st f y = st f x) (f : β) : (l.set m y).foldl st f = l.foldl st f := by
  induction l generalizing m f with
  | nil => rfl
  | cons a l ih =>
    cases m with
    | zero =>
      rw [List.set_cons_zero, List.foldl_cons, List.foldl_cons, hy f a rfl]
    | succ m =>
      rw [List.set_cons_succ, List.foldl_cons, List.foldl_cons]
      exact ih (fun f x hx => hy f x (by simpa using hx)) _
theorem foldl_filter_map {α β γ : Type} (st : β → γ → β) (p : α → Bool) (g : α → γ) (l : List α) (f : β) : ((l.filter p).map g).foldl st f = l.foldl (fun f x => if p x then st f (g x) else f) f := by
  induction l generalizing f with
  | nil => rfl
  | cons a l ih =>
    rw [List.filter_cons, List.foldl_cons]
    cases h : p a with
    | true => simp only [if_true, List.map_cons, List.foldl_cons]; exact ih _
    | false => simp only [if_false, Bool.false_eq_true]; exact ih _
section
variable {z : Zs}
theorem Zs.Ok.on_set (h : z.Ok) {fon : List Bool} {f j : Nat} (hj : j < z.np) (hf : f < z.g.feeds.length) (hne : j ≠ z.pof (z.fpl f)) (b : Bool) : z.on (fon.set f b) j = z.on fon j := by
  unfold Zs.on onV
  congr 1
  refine List.filter_congr (fun i hi => ?_)
  have hif : i ≠ f := by
    rintro rfl
    obtain ⟨hi1, hi2⟩ := Zs.pvf_mem.1 hi
    obtain ⟨h1, h2, h3⟩ := h.fpl_at hi1
    rw [h2] at hi2
    exact hne ((h.mem_nd hj _).1 (nI_mem.1 hi2)).2.symm
  rw [List.getElem?_set_ne (Ne.symm hif)]
theorem Zs.Ok.tk_set (h : z.Ok) {run : List Bool} {m j : Nat} (hj : j < z.np) (hm : m < z.ls.length) (hne : j ≠ z.pof (lvAt z.ls m).pl.toNat) (b : Bool) : z.tk (run.set m b) j = z.tk run j := by
  unfold Zs.tk tkF runL
  have hl : ∀ r : List Bool, (z.ls.zip r).take z.ls.length = z.ls.zip r := fun r => List.take_of_length_le (by rw [List.length_zip]; omega)
  rw [hl, hl, foldl_filter_map, foldl_filter_map]
  have hz : z.ls.zip (run.set m b) = (z.ls.zip run).set m (lvAt z.ls m, b) := by
    apply List.ext_getElem?
    intro i
    rw [List.getElem?_set]
    by_cases e : m = i
    · subst e
      rw [if_pos rfl]
      by_cases hr : m < run.length
      · rw [if_pos (by rw [List.length_zip]; omega), List.getElem?_eq_getElem (by rw [List.length_zip, List.length_set]; omega), List.getElem_zip, lvAt_at hm]
        simp
      · rw [if_neg (by rw [List.length_zip]; omega), List.getElem?_eq_none (by rw [List.length_zip, List.length_set]; omega)]
    · rw [if_neg e]
      unfold List.zip
      rw [List.getElem?_zipWith, List.getElem?_zipWith, List.getElem?_set_ne e]
  rw [hz]
  refine foldl_set _ _ (fun f x hx => ?_) _
  have hst : ∀ f : Nat → Int, tkStep (z.nd j) f (lvAt z.ls m) = f := fun f => by
    funext i
    unfold tkStep
    rw [if_neg]
    rintro ⟨h1, _⟩
    rw [← (h.lv hm).1] at h1
    exact hne ((h.mem_nd hj _).1 (nI_mem.1 h1)).2.symm
  have hx1 : x.1 = lvAt z.ls m := by
    obtain ⟨h1, h2⟩ := List.getElem?_eq_some_iff.1 hx
    rw [List.getElem_zip] at h2
    rw [← h2, lvAt_at hm]
  rw [hx1]
  simp only [hst]
  split <;> split <;> rfl
end
theorem PaM.congr {w : World} {B : Nat} {X : Ci} {Y : Vi} {b : Bool} {y : Pm} {z : Zs} {fon run fon' run' : List Bool} {i : Nat} (h : PaM w B X Y b y z fon run i) (h1 : z.on fon' i = z.on fon i) (h2 : z.tk run' i = z.tk run i) : PaM w B X Y b y z fon' run' i := by
  obtain ⟨⟨a1, a2, a3, a4, a5, a6⟩, a7⟩ := h
  have h3 : z.sol fon' run' i = z.sol fon run i := by unfold Zs.sol; rw [h1, h2]
  exact ⟨⟨a1, a2, a3, by rw [h1]; exact a4, by rw [h1]; exact a5, by rw [h2]; exact a6⟩, by rw [h1, h3]; exact a7⟩
/-- what stays while a grid is settled -/
structure Kw (B : Nat) (w w' : World) : Prop where
  os : w'.os = w.os
  tape : w'.tape = w.tape
  output : w'.output = w.output
  size : w.heap.size ≤ w'.heap.size
  ky : Ky B w w'
section
variable {w w' w'' : World} {B sb : Nat} {x : SL} {C : Nat → Ci} {V : Nat → Vi} {K : Nat → Bool} {z : Zs} {fon run : List Bool} {xs : List Pm}
theorem Ky.trans (h : Ky B w w') (g : Ky B w' w'') : Ky B w w'' :=
  ⟨fun k hk => (g.lo k hk).trans (h.lo k hk), fun k cs e h4 h1 h2 hh => (g.ty k cs e h4 h1 h2 ((h.ty k cs e h4 h1 h2 hh).trans hh)).trans (h.ty k cs e h4 h1 h2 hh)⟩
theorem Kw.trans (h : Kw B w w') (g : Kw B w' w'') : Kw B w w'' := ⟨g.os.trans h.os, g.tape.trans h.tape, g.output.trans h.output, Nat.le_trans h.size g.size, h.ky.trans g.ky⟩
theorem Kw.of_below (h : Below w.heap.size w w') (hB : B ≤ w.heap.size) : Kw B w w' := ⟨h.os, h.tape, h.output, h.size, Ky.of_below h hB⟩
theorem Kw.below (h : Kw B w w') : Below B w w' := ⟨h.os, h.tape, h.output, h.size, h.ky.lo⟩
theorem Kw.of_st3 {dn : Nat → Prop} (h : StA w B sb x C V K z fon run xs dn) (s : St3 x w w') : Kw B w w' :=
  ⟨s.os, s.tape, s.output, s.size, fun k hk => s.blk k (by have := h.bw; omega) (by have := h.lo; omega) (by have := h.lo; omega) (by have := h.lo; omega),
    fun k cs e h4 h1 h2 hh => s.blk k (Array.getElem?_eq_some_iff.1 hh).1 (ne_ty h.st.c hh h1) (ne_ty h.st.v hh h2) (ne_ty h.st.k hh h4)⟩
/-- a bool of a block of type 4 is written -/
theorem Kw.setB {g i : Nat} {cs : Array Value} (u : Bool) (hg : w.heap[g]? = some (Obj.cells cs 4 (0, 0))) (hB : B ≤ g) : Kw B w (w.setCell ⟨g, i, none⟩ (.bool u)) :=
  ⟨rfl, rfl, rfl, by simp [World.setCell], fun k hk => Below.heap_setCell _ _ _ _ (by show k ≠ g; omega), fun k cs e h4 h1 h2 hh => Below.heap_setCell _ _ _ _ (ne_ty hg hh h4)⟩
theorem StA.setFon (h : StA w B sb x C V K z fon run xs (fun j => j < z.np)) (hz : z.Ok) {fb f : Nat} (hA : x.fon.A = some ⟨fb, 0, none⟩) (hf : f < z.g.feeds.length) :
    StA (w.setCell ⟨fb, f, none⟩ (.bool false)) B sb x C V K z (fon.set f false) run xs (fun j => j < z.np ∧ j ≠ z.pof (z.fpl f)) ∧ Kw B w (w.setCell ⟨fb, f, none⟩ (.bool false)) := by
  have hob : x.fon.v.ownBlock = some fb := by unfold Sc.v; rw [hA]; rfl
  obtain ⟨cs, hcs⟩ := own_type h.F hob
  have hlt := h.F.lt fb hob
  have hk := Kw.setB (B := B) (i := f) false hcs hlt.1
  refine ⟨?_, hk⟩
  have hn := h.dF fb hob
  have hfar : ∀ k, k ≠ fb → (w.setCell ⟨fb, f, none⟩ (.bool false)).heap[k]? = w.heap[k]? := fun k hk => Below.heap_setCell _ _ _ _ hk
  obtain ⟨pb, p1, p2, p3⟩ := h.P
  have hF : Own (w.setCell ⟨fb, f, none⟩ (.bool false)) B 4 1 fB x.fon.v (fon.set f false) := by
    have h1 := h.F
    obtain ⟨A, c, hv, _⟩ := h1.form
    have hv2 : x.fon.v = .slice (some ⟨fb, 0, none⟩) fon.length c := by
      rw [hv]; unfold Sc.v at hv; injection hv with e1 e2 e3; rw [← e1, hA]
    rw [hv2] at h1 ⊢
    exact own_setB rfl h1 f false
  exact ⟨Nat.le_trans h.bw hk.size, h.ne, ⟨h.st.r.ky hk.ky (by decide) (by decide) (by decide), (hfar _ (ne_ty hcs h.st.c (by decide))).trans h.st.c, (hfar _ (ne_ty hcs h.st.v (by decide))).trans h.st.v, (hfar _ (Ne.symm hn.1)).trans h.st.k⟩, h.lo, h.N, h.np, h.le, h.g.ky hk.ky, h.l.ky hk.ky, h.ll,
    hF, by rw [List.length_set]; exact h.fn, h.R.of_blocks (fun k e => hfar k (fun e2 => hn.2.1 (by rw [← e2]; exact e))), h.rn, h.W.of_blocks (fun k e => hfar k (fun e2 => hn.2.2 (by rw [← e2]; exact e))),
    ⟨pb, p1, p2, p3.ky hk.ky (by decide) (by decide) (by decide)⟩, h.X.ky hk.ky (by decide) (by decide) (by decide), fun y hy => (h.xi y hy).ky hk.ky, h.xp, h.dF, h.dR, h.dW, fun i hi hd => ((h.pa i hi hd.1).ky hk.ky).congr (hz.on_set hd.1 hf hd.2 false) rfl⟩
theorem StA.setRun (h : StA w B sb x C V K z fon run xs (fun j => j < z.np)) (hz : z.Ok) {rb m : Nat} (hA : x.run.A = some ⟨rb, 0, none⟩) (hm : m < z.ls.length) :
    StA (w.setCell ⟨rb, m, none⟩ (.bool false)) B sb x C V K z fon (run.set m false) xs (fun j => j < z.np ∧ j ≠ z.pof (lvAt z.ls m).pl.toNat) ∧ Kw B w (w.setCell ⟨rb, m, none⟩ (.bool false)) := by
  have hob : x.run.v.ownBlock = some rb := by unfold Sc.v; rw [hA]; rfl
  obtain ⟨cs, hcs⟩ := own_type h.R hob
  have hlt := h.R.lt rb hob
  have hk := Kw.setB (B := B) (i := m) false hcs hlt.1
  refine ⟨?_, hk⟩
  have hn := h.dR rb hob
  have hfar : ∀ k, k ≠ rb → (w.setCell ⟨rb, m, none⟩ (.bool false)).heap[k]? = w.heap[k]? := fun k hk => Below.heap_setCell _ _ _ _ hk
  obtain ⟨pb, p1, p2, p3⟩ := h.P
  have hR : Own (w.setCell ⟨rb, m, none⟩ (.bool false)) B 4 1 fB x.run.v (run.set m false) := by
    have h1 := h.R
    obtain ⟨A, c, hv, _⟩ := h1.form
    have hv2 : x.run.v = .slice (some ⟨rb, 0, none⟩) run.length c := by
      rw [hv]; unfold Sc.v at hv; injection hv with e1 e2 e3; rw [← e1, hA]
    rw [hv2] at h1 ⊢
    exact own_setB rfl h1 m false
  exact ⟨Nat.le_trans h.bw hk.size, h.ne, ⟨h.st.r.ky hk.ky (by decide) (by decide) (by decide), (hfar _ (ne_ty hcs h.st.c (by decide))).trans h.st.c, (hfar _ (ne_ty hcs h.st.v (by decide))).trans h.st.v, (hfar _ (Ne.symm hn.1)).trans h.st.k⟩, h.lo, h.N, h.np, h.le, h.g.ky hk.ky, h.l.ky hk.ky, h.ll,
    h.F.of_blocks (fun k e => hfar k (fun e2 => (h.dF k e).2.1 (by rw [e2]; exact hob))), h.fn, hR, by rw [List.length_set]; exact h.rn, h.W.of_blocks (fun k e => hfar k (fun e2 => hn.2 (by rw [← e2]; exact e))),
    ⟨pb, p1, p2, p3.ky hk.ky (by decide) (by decide) (by decide)⟩, h.X.ky hk.ky (by decide) (by decide) (by decide), fun y hy => (h.xi y hy).ky hk.ky, h.xp, h.dF, h.dR, h.dW, fun i hi hd => ((h.pa i hi hd.1).ky hk.ky).congr rfl (hz.tk_set hd.1 hm hd.2 false)⟩
end
end Go.Proofs.YtbnfnpakibkboaaGreat

namespace Go.Proofs.YtbnfnpakibkboaaGreat
set_option linter.unusedVariables false
set_option linter.unusedSimpArgs false
open Go.RowKit

set_option maxRecDepth 100000 in
set_option maxHeartbeats 8000000 in
theorem StA.cutTC {w : World} {B sb : Nat} {x : SL} {C : Nat → Ci} {V : Nat → Vi} {K' : Nat → Bool} {z : Zs} {fon run : List Bool} {xs : List Pm} (h : StA w B sb x C V K' z fon run xs (fun j => j < z.np)) (hz : z.Ok) (ix : Nat) (a1 a2 : Int) (hix : ix < z.g.feeds.length) :
    Calls Tryz.prog 84 #[.pointer (some ⟨sb, 0, none⟩), .agg #[.int .i64 4, .int .i64 (ix : Int), .int .i64 a1, .int .i64 a2]] w fun e w' => e = .returned (.tuple #[]) ∧ ∃ (C' : Nat → Ci) (V' : Nat → Vi) (K1 : Nat → Bool), StA w' B sb x C' V' K1 z (fon.set ix false) run xs (fun j => j < z.np) ∧ Kw B w w' := by
  obtain ⟨pb, hpof, hpb, hpr⟩ := h.P
  have hlen : ix < x.fon.n := by have := h.fn; have := h.fr.2; omega
  obtain ⟨fb, hA, hfbl, d0⟩ : ∃ fb, x.fon.A = some ⟨fb, 0, none⟩ ∧ fb < w.heap.size ∧ ∃ u, w.cell? ⟨fb, ix, none⟩ = some (.bool u) ∧ w.frozen? ⟨fb, ix, none⟩ = false := by
    obtain ⟨g, cap, hv, _, _⟩ := own_some h.F (by
      intro e
      obtain ⟨A, c, hv, _⟩ := h.F.form
      rw [e] at hv; injection hv with _ e2 _
      have := h.fn; have := h.fr.2; omega)
    have hl2 : ix < fon.length := by have := h.fn; have := h.fr.2; omega
    obtain ⟨b', o', e1, gb, cc⟩ := bool_at h.fr.1 hl2
    unfold Sc.v at hv
    injection hv with hv1 hv2 hv3
    rw [hv1] at e1
    injection e1 with e1; injection e1 with e1 e2; subst e1; subst e2
    have hob : x.fon.v.ownBlock = some g := by unfold Sc.v; rw [hv1]; rfl
    obtain ⟨cs, hcs⟩ := own_type h.F hob
    rw [Nat.zero_add] at cc
    exact ⟨g, hv1, gb, _, cc, (show Rw w g 4 cs from hcs).frozen ix⟩
  obtain ⟨u, d0, d1⟩ := d0
  have hb1 := (Below.refl w.heap.size w).alloc (Nat.le_refl _) (.cells #[.int .i64 4, .int .i64 (ix : Int), .int .i64 a1, .int .i64 a2] 92)
  have q1 := Rw.new w #[.int .i64 4, .int .i64 (ix : Int), .int .i64 a1, .int .i64 a2] 92
  obtain ⟨W1, hW1⟩ : ∃ y, w.alloc (.cells #[.int .i64 4, .int .i64 (ix : Int), .int .i64 a1, .int .i64 a2] 92) = y := ⟨_, rfl⟩
  rw [hW1] at hb1 q1
  have hA0 := h
  obtain ⟨b, o, hbo, gb, c0, c1, c2, c3⟩ := feed_at hA0.gr.fs hix
  have hpl := (hz.fpl_at hix).2.1; have hcN := (hz.fpl_at hix).1
  obtain ⟨c, hc⟩ : ∃ c, z.fpl ix = c := ⟨_, rfl⟩
  rw [hc] at hpl hcN
  obtain ⟨q, hq⟩ : ∃ q, z.pof c = q := ⟨_, rfl⟩
  have HQQ := Lib.hid (show z.pof (z.fpl ix) = q from by rw [hc]; exact hq)
  have hqn : q < z.np := by rw [← hq]; exact hz.pof_lt hcN
  have hz0 : (0 : Int) ≤ (ix : Int) := by omega
  have hz1 : (ix : Int) < (x.fon.n : Int) := by omega
  have hz2 : (ix : Int) < (x.feeds.n : Int) ∨ True := .inr trivial
  have hc0' : (0 : Int) ≤ (c : Int) := by omega
  have hc1' : (c : Int) < (z.N : Int) := by omega
  have hxn : (ix : Int) < (x.feeds.n : Int) := by have := h.g.fl; have := h.ll; omega
  have HT := Lib.hid (show ∀ (wx : World) (C : Nat → Ci) (V : Nat → Vi) (K1 : Nat → Bool) (fon' run' : List Bool) (dn : Nat → Prop), StA wx B sb x C V K1 z fon' run' xs dn → Rw wx w.heap.size 92 #[.int .i64 4, .int .i64 (ix : Int), .int .i64 a1, .int .i64 a2] → Rw wx (sb) 110 #[.int .i64 (x.N : Int), .slice x.wires.A x.wires.n x.wires.c, .slice (some ⟨b, o, none⟩) x.feeds.n x.feeds.c, .int .i64 x.least, .slice (some ⟨fb, 0, none⟩) x.fon.n x.fon.c, .slice x.sw.A x.sw.n x.sw.c, .slice x.loads.A x.loads.n x.loads.c, .slice x.run.A x.run.n x.run.c, .slice x.parts.A x.parts.n x.parts.c, .slice (some ⟨pb, 0, none⟩) z.N z.N, .slice (some ⟨x.cb, 0, none⟩) x.np x.np, .slice (some ⟨x.vb, 0, none⟩) x.np x.np, .slice (some ⟨x.kb, 0, none⟩) x.np x.np] ∧ Rw wx (w.heap.size) 92 #[.int .i64 4, .int .i64 (ix : Int), .int .i64 a1, .int .i64 a2] ∧ wx.cell? ⟨b, o + ix * 4, none⟩ = some (.int .i64 (c : Int)) ∧ wx.cell? ⟨pb, c, none⟩ = some (.int .i64 (q : Int)) from fun wx C V K1 fon' run' dn hh hbx => by
    refine ⟨?_, hbx, ?_, ?_⟩
    · have := hh.row
      rw [hpof, hA, hbo] at this
      exact this
    · obtain ⟨b', o', e1, _, e2, _⟩ := feed_at hh.gr.fs hix
      rw [hbo] at e1
      injection e1 with e1; injection e1 with e1 e3; subst e1; subst e3
      rw [hpl] at e2; exact e2
    · obtain ⟨pb', p1, p2, p3⟩ := hh.P
      rw [hpof] at p1
      injection p1 with p1 _ _; injection p1 with p1; injection p1 with p1; subst p1
      have := p3.cell hcN
      rw [hq] at this; exact this)
  have hh1 := h.below hb1
  obtain ⟨hset0, hkw0⟩ := hh1.setFon hz hA hix
  have hset := hset0.below (Below.refl _ _).drew
  have hkw : Kw B W1 (W1.setCell ⟨fb, ix, none⟩ (.bool false)).drew := hkw0.trans (Kw.of_below (Below.refl _ _).drew hset0.bw)
  have T1 := HT.out _ _ _ _ _ _ _ hh1 q1
  have m1 := T1.1.cell; have m2 := q1.cell
  have d2 := far_cell (hb1.5 fb hfbl) d0
  have d3 : W1.frozen? ⟨fb, ix, none⟩ = false := by
    rw [World.frozen?_of_block (hb1.5 fb hfbl)]; exact d1
  have HBX := Lib.hid (q1.ky hkw.ky (by decide) (by decide) (by decide))
  have HK2 := Lib.hid ((Kw.of_below hb1 h.bw).trans hkw)
  have HA2 := Lib.hid hset
  have HSV := Lib.hid (fun wx (hb : Below (W1.setCell ⟨fb, ix, none⟩ (.bool false)).drew.heap.size _ wx) => ssolve_any B sb q x C V K' z (fon.set ix false) run xs _ wx (hset.below hb) hz hqn)
  clear hset hkw hset0 hkw0 hh1 T1 hb1 q1 hA0 h hz hpof hpb hpr hlen hfbl d0 d1 hpl hcN hc hq hqn gb c0 c1 c2 c3 hA hbo
  go_enter Tryz.func84, Tryz.ntmps84
  go_upto_region 2 with (fail)
  refine wp_region_noPanic ?_
  go_region
  refine NoPanic.normal ?_
  (try simp only [Exit.inBlock, Exit.then])
  obtain ⟨w2, hw2⟩ : ∃ y, (W1.setCell ⟨fb, ix, none⟩ (.bool false)).drew = y := ⟨_, rfl⟩
  rw [hw2] at HBX HK2 HA2 HSV ⊢
  clear hw2 m1 m2 d2 d3 hW1
  go_upto_region 3 with (fail)
  have hbq : Below w2.heap.size w2 w2.drew := (Below.refl _ _).drew
  have HS := Lib.hid (show (fun wx => Rw wx (sb) 110 #[.int .i64 (x.N : Int), .slice x.wires.A x.wires.n x.wires.c, .slice (some ⟨b, o, none⟩) x.feeds.n x.feeds.c, .int .i64 x.least, .slice (some ⟨fb, 0, none⟩) x.fon.n x.fon.c, .slice x.sw.A x.sw.n x.sw.c, .slice x.loads.A x.loads.n x.loads.c, .slice x.run.A x.run.n x.run.c, .slice x.parts.A x.parts.n x.parts.c, .slice (some ⟨pb, 0, none⟩) z.N z.N, .slice (some ⟨x.cb, 0, none⟩) x.np x.np, .slice (some ⟨x.vb, 0, none⟩) x.np x.np, .slice (some ⟨x.kb, 0, none⟩) x.np x.np] ∧ Rw wx (w.heap.size) 92 #[.int .i64 4, .int .i64 (ix : Int), .int .i64 a1, .int .i64 a2] ∧ wx.cell? ⟨b, o + ix * 4, none⟩ = some (.int .i64 (c : Int)) ∧ wx.cell? ⟨pb, c, none⟩ = some (.int .i64 (q : Int))) w2.drew from HT.out _ _ _ _ _ _ _ (HA2.out.below hbq) (HBX.out.below hbq HBX.out.lt))
  refine wp_region_noPanic ?_
  refine wp_region_held_drew (S := fun wx => Rw wx (sb) 110 #[.int .i64 (x.N : Int), .slice x.wires.A x.wires.n x.wires.c, .slice (some ⟨b, o, none⟩) x.feeds.n x.feeds.c, .int .i64 x.least, .slice (some ⟨fb, 0, none⟩) x.fon.n x.fon.c, .slice x.sw.A x.sw.n x.sw.c, .slice x.loads.A x.loads.n x.loads.c, .slice x.run.A x.run.n x.run.c, .slice x.parts.A x.parts.n x.parts.c, .slice (some ⟨pb, 0, none⟩) z.N z.N, .slice (some ⟨x.cb, 0, none⟩) x.np x.np, .slice (some ⟨x.vb, 0, none⟩) x.np x.np, .slice (some ⟨x.kb, 0, none⟩) x.np x.np] ∧ Rw wx (w.heap.size) 92 #[.int .i64 4, .int .i64 (ix : Int), .int .i64 a1, .int .i64 a2] ∧ wx.cell? ⟨b, o + ix * 4, none⟩ = some (.int .i64 (c : Int)) ∧ wx.cell? ⟨pb, c, none⟩ = some (.int .i64 (q : Int))) (by kernel_rfl) HS.out (fun _ => ?_)
  refine hTk (i := 0) (d := 15) (v := .pointer (some ⟨sb, 0, none⟩)) rfl rfl (Or.inl ⟨rfl, by rintro W' ⟨r0, r1, r2, r3⟩; have ry0 := r0.cell; have ry1 := r1.cell; go_simp⟩) HS.out ?_
  simp only [Act.put, sB, sZ, sS]
  refine hTk (i := 1) (d := 16) (v := .pointer (some ⟨sb, 0, none⟩)) rfl rfl (Or.inl ⟨rfl, by rintro W' ⟨r0, r1, r2, r3⟩; have ry0 := r0.cell; have ry1 := r1.cell; go_simp⟩) HS.out ?_
  simp only [Act.put, sB, sZ, sS]
  refine hTk (i := 2) (d := 17) (v := .pointer (some ⟨sb, 0, none⟩)) rfl rfl (Or.inl ⟨rfl, by rintro W' ⟨r0, r1, r2, r3⟩; have ry0 := r0.cell; have ry1 := r1.cell; go_simp⟩) HS.out ?_
  simp only [Act.put, sB, sZ, sS]
  refine hTk (i := 3) (d := 18) (v := .pointer (some ⟨sb, 9, none⟩)) rfl rfl (Or.inl ⟨rfl, by rintro W' ⟨r0, r1, r2, r3⟩; have ry0 := r0.cell; have ry1 := r1.cell; go_simp⟩) HS.out ?_
  simp only [Act.put, sB, sZ, sS]
  refine hTk (i := 4) (d := 19) (v := .slice (some ⟨pb, 0, none⟩) z.N z.N) rfl rfl (Or.inl ⟨rfl, by rintro W' ⟨r0, r1, r2, r3⟩; have ry0 := r0.cell; have ry1 := r1.cell; go_simp⟩) HS.out ?_
  simp only [Act.put, sB, sZ, sS]
  refine hTk (i := 5) (d := 20) (v := .pointer (some ⟨sb, 0, none⟩)) rfl rfl (Or.inl ⟨rfl, by rintro W' ⟨r0, r1, r2, r3⟩; have ry0 := r0.cell; have ry1 := r1.cell; go_simp⟩) HS.out ?_
  simp only [Act.put, sB, sZ, sS]
  refine hTk (i := 6) (d := 21) (v := .pointer (some ⟨sb, 0, none⟩)) rfl rfl (Or.inl ⟨rfl, by rintro W' ⟨r0, r1, r2, r3⟩; have ry0 := r0.cell; have ry1 := r1.cell; go_simp⟩) HS.out ?_
  simp only [Act.put, sB, sZ, sS]
  refine hTk (i := 7) (d := 22) (v := .pointer (some ⟨sb, 0, none⟩)) rfl rfl (Or.inl ⟨rfl, by rintro W' ⟨r0, r1, r2, r3⟩; have ry0 := r0.cell; have ry1 := r1.cell; go_simp⟩) HS.out ?_
  simp only [Act.put, sB, sZ, sS]
  refine hTk (i := 8) (d := 23) (v := .pointer (some ⟨sb, 2, none⟩)) rfl rfl (Or.inl ⟨rfl, by rintro W' ⟨r0, r1, r2, r3⟩; have ry0 := r0.cell; have ry1 := r1.cell; go_simp⟩) HS.out ?_
  simp only [Act.put, sB, sZ, sS]
  refine hTk (i := 9) (d := 24) (v := .slice (some ⟨b, o, none⟩) x.feeds.n x.feeds.c) rfl rfl (Or.inl ⟨rfl, by rintro W' ⟨r0, r1, r2, r3⟩; have ry0 := r0.cell; have ry1 := r1.cell; go_simp⟩) HS.out ?_
  simp only [Act.put, sB, sZ, sS]
  refine hTk (i := 10) (d := 25) (v := .pointer (some ⟨w.heap.size, 1, none⟩)) rfl rfl (Or.inl ⟨rfl, by rintro W' ⟨r0, r1, r2, r3⟩; have ry0 := r0.cell; have ry1 := r1.cell; go_simp⟩) HS.out ?_
  simp only [Act.put, sB, sZ, sS]
  refine hTk (i := 11) (d := 26) (v := .int .i64 (ix : Int)) rfl rfl (Or.inl ⟨rfl, by rintro W' ⟨r0, r1, r2, r3⟩; have ry0 := r0.cell; have ry1 := r1.cell; go_simp⟩) HS.out ?_
  simp only [Act.put, sB, sZ, sS]
  refine hTk (i := 12) (d := 27) (v := .pointer (some ⟨b, o + ix * 4, none⟩)) rfl rfl (Or.inl ⟨rfl, by rintro W' ⟨r0, r1, r2, r3⟩; have ry0 := r0.cell; have ry1 := r1.cell; go_simp⟩) HS.out ?_
  simp only [Act.put, sB, sZ, sS]
  refine hTk (i := 13) (d := 28) (v := .pointer (some ⟨b, o + ix * 4, none⟩)) rfl rfl (Or.inl ⟨rfl, by rintro W' ⟨r0, r1, r2, r3⟩; have ry0 := r0.cell; have ry1 := r1.cell; go_simp⟩) HS.out ?_
  simp only [Act.put, sB, sZ, sS]
  refine hTk (i := 14) (d := 29) (v := .int .i64 (c : Int)) rfl rfl (Or.inl ⟨rfl, by rintro W' ⟨r0, r1, r2, r3⟩; have ry0 := r0.cell; have ry1 := r1.cell; go_simp⟩) HS.out ?_
  simp only [Act.put, sB, sZ, sS]
  refine hTk (i := 15) (d := 30) (v := .pointer (some ⟨pb, c, none⟩)) rfl rfl (Or.inl ⟨rfl, by rintro W' ⟨r0, r1, r2, r3⟩; have ry0 := r0.cell; have ry1 := r1.cell; go_simp⟩) HS.out ?_
  simp only [Act.put, sB, sZ, sS]
  refine hTk (i := 16) (d := 31) (v := .int .i64 (q : Int)) rfl rfl (Or.inl ⟨rfl, by rintro W' ⟨r0, r1, r2, r3⟩; have ry0 := r0.cell; have ry1 := r1.cell; go_simp⟩) HS.out ?_
  simp only [Act.put, sB, sZ, sS]
  refine wpAnyH_ready (rs := [17]) (by kernel_rfl) (by simp) ?_
  refine AllReadyH.cons rfl (fun K hK => ?_) AllReadyH.nil
  rw [if_pos (by rfl)]
  go_simp
  go_at_call 93
  (with_reducible refine (HSV.out _ hbq).mono ?_)
  rintro e wc0 ⟨rfl, C3, V3, K3, hA3, hst3⟩
  have hk3 := (Kw.of_below (B := B) hbq HA2.out.bw).trans (Kw.of_st3 (HA2.out.below hbq) hst3)
  have hbx3 := HBX.out.ky hk3.ky (by decide) (by decide) (by decide)
  have HFIN := Lib.hid (show (Ending.returned (Value.tuple #[]) = Ending.returned (Value.tuple #[])) ∧ ∃ (C' : Nat → Ci) (V' : Nat → Vi) (K1 : Nat → Bool), StA wc0 B sb x C' V' K1 z (fon.set ix false) run xs (fun j => j < z.np) ∧ Kw B w wc0 from ⟨rfl, _, _, _, hA3.weak (fun j hj => by
    by_cases e : j = q
    · exact .inr e
    · exact .inl ⟨hj, by rw [HQQ.out]; exact e⟩), HK2.out.trans hk3⟩)
  have HS := Lib.hid (show (fun wx => Rw wx (sb) 110 #[.int .i64 (x.N : Int), .slice x.wires.A x.wires.n x.wires.c, .slice (some ⟨b, o, none⟩) x.feeds.n x.feeds.c, .int .i64 x.least, .slice (some ⟨fb, 0, none⟩) x.fon.n x.fon.c, .slice x.sw.A x.sw.n x.sw.c, .slice x.loads.A x.loads.n x.loads.c, .slice x.run.A x.run.n x.run.c, .slice x.parts.A x.parts.n x.parts.c, .slice (some ⟨pb, 0, none⟩) z.N z.N, .slice (some ⟨x.cb, 0, none⟩) x.np x.np, .slice (some ⟨x.vb, 0, none⟩) x.np x.np, .slice (some ⟨x.kb, 0, none⟩) x.np x.np] ∧ Rw wx (w.heap.size) 92 #[.int .i64 4, .int .i64 (ix : Int), .int .i64 a1, .int .i64 a2] ∧ wx.cell? ⟨b, o + ix * 4, none⟩ = some (.int .i64 (c : Int)) ∧ wx.cell? ⟨pb, c, none⟩ = some (.int .i64 (q : Int))) wc0 from HT.out _ _ _ _ _ _ _ hA3 hbx3)
  clear hk3 hbx3 hA3 hst3
  refine hK.out _ _ HS.out (fun _ => ?_)
  clear hK K
  try simp only [Act.put, sB, sZ, sS]
  refine wpAnyH_done (by kernel_rfl) ?_ _
  clear HS
  refine NoPanic.normal ?_
  (try simp only [Exit.inBlock, Exit.then])
  go_wp2
  (try simp only [Exit.inBlock, Exit.then])
  refine bodyPost_ret (results_none rfl _ _ _) rfl ?_
  obtain ⟨_, C1, V1, K1, hs, hk⟩ := HFIN.out
  first | exact ⟨rfl, C1, V1, K1, hs, hk⟩ | exact ⟨rfl, ⟨C1, V1, K1, hs⟩, hk⟩
set_option maxRecDepth 100000 in
set_option maxHeartbeats 8000000 in
theorem StA.cutLC {w : World} {B sb : Nat} {x : SL} {C : Nat → Ci} {V : Nat → Vi} {K' : Nat → Bool} {z : Zs} {fon run : List Bool} {xs : List Pm} (h : StA w B sb x C V K' z fon run xs (fun j => j < z.np)) (hz : z.Ok) (kd : Int) (ix : Nat) (a1 a2 : Int) (hkd : ¬ kd = 4) (hix : ix < z.ls.length) :
    Calls Tryz.prog 84 #[.pointer (some ⟨sb, 0, none⟩), .agg #[.int .i64 kd, .int .i64 (ix : Int), .int .i64 a1, .int .i64 a2]] w fun e w' => e = .returned (.tuple #[]) ∧ ∃ (C' : Nat → Ci) (V' : Nat → Vi) (K1 : Nat → Bool), StA w' B sb x C' V' K1 z fon (run.set ix false) xs (fun j => j < z.np) ∧ Kw B w w' := by
  obtain ⟨pb, hpof, hpb, hpr⟩ := h.P
  have hlen : ix < x.run.n := by have := h.rn; have := h.rr.2; omega
  obtain ⟨fb, hA, hfbl, d0⟩ : ∃ fb, x.run.A = some ⟨fb, 0, none⟩ ∧ fb < w.heap.size ∧ ∃ u, w.cell? ⟨fb, ix, none⟩ = some (.bool u) ∧ w.frozen? ⟨fb, ix, none⟩ = false := by
    obtain ⟨g, cap, hv, _, _⟩ := own_some h.R (by
      intro e
      obtain ⟨A, c, hv, _⟩ := h.R.form
      rw [e] at hv; injection hv with _ e2 _
      have := h.rn; have := h.rr.2; omega)
    have hl2 : ix < run.length := by have := h.rn; have := h.rr.2; omega
    obtain ⟨b', o', e1, gb, cc⟩ := bool_at h.rr.1 hl2
    unfold Sc.v at hv
    injection hv with hv1 hv2 hv3
    rw [hv1] at e1
    injection e1 with e1; injection e1 with e1 e2; subst e1; subst e2
    have hob : x.run.v.ownBlock = some g := by unfold Sc.v; rw [hv1]; rfl
    obtain ⟨cs, hcs⟩ := own_type h.R hob
    rw [Nat.zero_add] at cc
    exact ⟨g, hv1, gb, _, cc, (show Rw w g 4 cs from hcs).frozen ix⟩
  obtain ⟨u, d0, d1⟩ := d0
  have hb1 := (Below.refl w.heap.size w).alloc (Nat.le_refl _) (.cells #[.int .i64 kd, .int .i64 (ix : Int), .int .i64 a1, .int .i64 a2] 92)
  have q1 := Rw.new w #[.int .i64 kd, .int .i64 (ix : Int), .int .i64 a1, .int .i64 a2] 92
  obtain ⟨W1, hW1⟩ : ∃ y, w.alloc (.cells #[.int .i64 kd, .int .i64 (ix : Int), .int .i64 a1, .int .i64 a2] 92) = y := ⟨_, rfl⟩
  rw [hW1] at hb1 q1
  have hA0 := h
  obtain ⟨b, o, hbo, gb, c0, c1, c2⟩ := load_at hA0.lr hix
  have hpl : (z.ls[ix]).pl = ((lvAt z.ls ix).pl.toNat : Int) := by have := (hz.lv hix).1; rw [← lvAt_at hix]; exact this.symm
  have hcN := (hz.lv hix).2.1
  obtain ⟨c, hc⟩ : ∃ c, (lvAt z.ls ix).pl.toNat = c := ⟨_, rfl⟩
  rw [hc] at hpl hcN
  obtain ⟨q, hq⟩ : ∃ q, z.pof c = q := ⟨_, rfl⟩
  have HQQ := Lib.hid (show z.pof ((lvAt z.ls ix).pl.toNat) = q from by rw [hc]; exact hq)
  have hqn : q < z.np := by rw [← hq]; exact hz.pof_lt hcN
  have hz0 : (0 : Int) ≤ (ix : Int) := by omega
  have hz1 : (ix : Int) < (x.run.n : Int) := by omega
  have hz2 : (ix : Int) < (x.feeds.n : Int) ∨ True := .inr trivial
  have hc0' : (0 : Int) ≤ (c : Int) := by omega
  have hc1' : (c : Int) < (z.N : Int) := by omega
  have hxn : (ix : Int) < (x.loads.n : Int) := by have := h.g.fl; have := h.ll; omega
  have HT := Lib.hid (show ∀ (wx : World) (C : Nat → Ci) (V : Nat → Vi) (K1 : Nat → Bool) (fon' run' : List Bool) (dn : Nat → Prop), StA wx B sb x C V K1 z fon' run' xs dn → Rw wx w.heap.size 92 #[.int .i64 kd, .int .i64 (ix : Int), .int .i64 a1, .int .i64 a2] → Rw wx (sb) 110 #[.int .i64 (x.N : Int), .slice x.wires.A x.wires.n x.wires.c, .slice x.feeds.A x.feeds.n x.feeds.c, .int .i64 x.least, .slice x.fon.A x.fon.n x.fon.c, .slice x.sw.A x.sw.n x.sw.c, .slice (some ⟨b, o, none⟩) x.loads.n x.loads.c, .slice (some ⟨fb, 0, none⟩) x.run.n x.run.c, .slice x.parts.A x.parts.n x.parts.c, .slice (some ⟨pb, 0, none⟩) z.N z.N, .slice (some ⟨x.cb, 0, none⟩) x.np x.np, .slice (some ⟨x.vb, 0, none⟩) x.np x.np, .slice (some ⟨x.kb, 0, none⟩) x.np x.np] ∧ Rw wx (w.heap.size) 92 #[.int .i64 kd, .int .i64 (ix : Int), .int .i64 a1, .int .i64 a2] ∧ wx.cell? ⟨b, o + ix * 3, none⟩ = some (.int .i64 (c : Int)) ∧ wx.cell? ⟨pb, c, none⟩ = some (.int .i64 (q : Int)) from fun wx C V K1 fon' run' dn hh hbx => by
    refine ⟨?_, hbx, ?_, ?_⟩
    · have := hh.row
      rw [hpof, hA, hbo] at this
      exact this
    · obtain ⟨b', o', e1, _, e2, _⟩ := load_at hh.lr hix
      rw [hbo] at e1
      injection e1 with e1; injection e1 with e1 e3; subst e1; subst e3
      rw [hpl] at e2; exact e2
    · obtain ⟨pb', p1, p2, p3⟩ := hh.P
      rw [hpof] at p1
      injection p1 with p1 _ _; injection p1 with p1; injection p1 with p1; subst p1
      have := p3.cell hcN
      rw [hq] at this; exact this)
  have hh1 := h.below hb1
  obtain ⟨hset0, hkw0⟩ := hh1.setRun hz hA hix
  have hset := hset0.below (Below.refl _ _).drew
  have hkw : Kw B W1 (W1.setCell ⟨fb, ix, none⟩ (.bool false)).drew := hkw0.trans (Kw.of_below (Below.refl _ _).drew hset0.bw)
  have T1 := HT.out _ _ _ _ _ _ _ hh1 q1
  have m1 := T1.1.cell; have m2 := q1.cell
  have d2 := far_cell (hb1.5 fb hfbl) d0
  have d3 : W1.frozen? ⟨fb, ix, none⟩ = false := by
    rw [World.frozen?_of_block (hb1.5 fb hfbl)]; exact d1
  have HBX := Lib.hid (q1.ky hkw.ky (by decide) (by decide) (by decide))
  have HK2 := Lib.hid ((Kw.of_below hb1 h.bw).trans hkw)
  have HA2 := Lib.hid hset
  have HSV := Lib.hid (fun wx (hb : Below (W1.setCell ⟨fb, ix, none⟩ (.bool false)).drew.heap.size _ wx) => ssolve_any B sb q x C V K' z fon (run.set ix false) xs _ wx (hset.below hb) hz hqn)
  clear hset hkw hset0 hkw0 hh1 T1 hb1 q1 hA0 h hz hpof hpb hpr hlen hfbl d0 d1 hpl hcN hc hq hqn gb c0 c1 c2 hA hbo
  go_enter Tryz.func84, Tryz.ntmps84
  go_upto_region 4 with (fail)
  refine wp_region_noPanic ?_
  go_region
  refine NoPanic.normal ?_
  (try simp only [Exit.inBlock, Exit.then])
  obtain ⟨w2, hw2⟩ : ∃ y, (W1.setCell ⟨fb, ix, none⟩ (.bool false)).drew = y := ⟨_, rfl⟩
  rw [hw2] at HBX HK2 HA2 HSV ⊢
  clear hw2 m1 m2 d2 d3 hW1
  go_upto_region 5 with (fail)
  have hbq : Below w2.heap.size w2 w2.drew := (Below.refl _ _).drew
  have HS := Lib.hid (show (fun wx => Rw wx (sb) 110 #[.int .i64 (x.N : Int), .slice x.wires.A x.wires.n x.wires.c, .slice x.feeds.A x.feeds.n x.feeds.c, .int .i64 x.least, .slice x.fon.A x.fon.n x.fon.c, .slice x.sw.A x.sw.n x.sw.c, .slice (some ⟨b, o, none⟩) x.loads.n x.loads.c, .slice (some ⟨fb, 0, none⟩) x.run.n x.run.c, .slice x.parts.A x.parts.n x.parts.c, .slice (some ⟨pb, 0, none⟩) z.N z.N, .slice (some ⟨x.cb, 0, none⟩) x.np x.np, .slice (some ⟨x.vb, 0, none⟩) x.np x.np, .slice (some ⟨x.kb, 0, none⟩) x.np x.np] ∧ Rw wx (w.heap.size) 92 #[.int .i64 kd, .int .i64 (ix : Int), .int .i64 a1, .int .i64 a2] ∧ wx.cell? ⟨b, o + ix * 3, none⟩ = some (.int .i64 (c : Int)) ∧ wx.cell? ⟨pb, c, none⟩ = some (.int .i64 (q : Int))) w2.drew from HT.out _ _ _ _ _ _ _ (HA2.out.below hbq) (HBX.out.below hbq HBX.out.lt))
  refine wp_region_noPanic ?_
  refine wp_region_held_drew (S := fun wx => Rw wx (sb) 110 #[.int .i64 (x.N : Int), .slice x.wires.A x.wires.n x.wires.c, .slice x.feeds.A x.feeds.n x.feeds.c, .int .i64 x.least, .slice x.fon.A x.fon.n x.fon.c, .slice x.sw.A x.sw.n x.sw.c, .slice (some ⟨b, o, none⟩) x.loads.n x.loads.c, .slice (some ⟨fb, 0, none⟩) x.run.n x.run.c, .slice x.parts.A x.parts.n x.parts.c, .slice (some ⟨pb, 0, none⟩) z.N z.N, .slice (some ⟨x.cb, 0, none⟩) x.np x.np, .slice (some ⟨x.vb, 0, none⟩) x.np x.np, .slice (some ⟨x.kb, 0, none⟩) x.np x.np] ∧ Rw wx (w.heap.size) 92 #[.int .i64 kd, .int .i64 (ix : Int), .int .i64 a1, .int .i64 a2] ∧ wx.cell? ⟨b, o + ix * 3, none⟩ = some (.int .i64 (c : Int)) ∧ wx.cell? ⟨pb, c, none⟩ = some (.int .i64 (q : Int))) (by kernel_rfl) HS.out (fun _ => ?_)
  refine hTk (i := 0) (d := 40) (v := .pointer (some ⟨sb, 0, none⟩)) rfl rfl (Or.inl ⟨rfl, by rintro W' ⟨r0, r1, r2, r3⟩; have ry0 := r0.cell; have ry1 := r1.cell; go_simp⟩) HS.out ?_
  simp only [Act.put, sB, sZ, sS]
  refine hTk (i := 1) (d := 41) (v := .pointer (some ⟨sb, 0, none⟩)) rfl rfl (Or.inl ⟨rfl, by rintro W' ⟨r0, r1, r2, r3⟩; have ry0 := r0.cell; have ry1 := r1.cell; go_simp⟩) HS.out ?_
  simp only [Act.put, sB, sZ, sS]
  refine hTk (i := 2) (d := 42) (v := .pointer (some ⟨sb, 0, none⟩)) rfl rfl (Or.inl ⟨rfl, by rintro W' ⟨r0, r1, r2, r3⟩; have ry0 := r0.cell; have ry1 := r1.cell; go_simp⟩) HS.out ?_
  simp only [Act.put, sB, sZ, sS]
  refine hTk (i := 3) (d := 43) (v := .pointer (some ⟨sb, 9, none⟩)) rfl rfl (Or.inl ⟨rfl, by rintro W' ⟨r0, r1, r2, r3⟩; have ry0 := r0.cell; have ry1 := r1.cell; go_simp⟩) HS.out ?_
  simp only [Act.put, sB, sZ, sS]
  refine hTk (i := 4) (d := 44) (v := .slice (some ⟨pb, 0, none⟩) z.N z.N) rfl rfl (Or.inl ⟨rfl, by rintro W' ⟨r0, r1, r2, r3⟩; have ry0 := r0.cell; have ry1 := r1.cell; go_simp⟩) HS.out ?_
  simp only [Act.put, sB, sZ, sS]
  refine hTk (i := 5) (d := 45) (v := .pointer (some ⟨sb, 0, none⟩)) rfl rfl (Or.inl ⟨rfl, by rintro W' ⟨r0, r1, r2, r3⟩; have ry0 := r0.cell; have ry1 := r1.cell; go_simp⟩) HS.out ?_
  simp only [Act.put, sB, sZ, sS]
  refine hTk (i := 6) (d := 46) (v := .pointer (some ⟨sb, 0, none⟩)) rfl rfl (Or.inl ⟨rfl, by rintro W' ⟨r0, r1, r2, r3⟩; have ry0 := r0.cell; have ry1 := r1.cell; go_simp⟩) HS.out ?_
  simp only [Act.put, sB, sZ, sS]
  refine hTk (i := 7) (d := 47) (v := .pointer (some ⟨sb, 6, none⟩)) rfl rfl (Or.inl ⟨rfl, by rintro W' ⟨r0, r1, r2, r3⟩; have ry0 := r0.cell; have ry1 := r1.cell; go_simp⟩) HS.out ?_
  simp only [Act.put, sB, sZ, sS]
  refine hTk (i := 8) (d := 48) (v := .slice (some ⟨b, o, none⟩) x.loads.n x.loads.c) rfl rfl (Or.inl ⟨rfl, by rintro W' ⟨r0, r1, r2, r3⟩; have ry0 := r0.cell; have ry1 := r1.cell; go_simp⟩) HS.out ?_
  simp only [Act.put, sB, sZ, sS]
  refine hTk (i := 9) (d := 49) (v := .pointer (some ⟨w.heap.size, 1, none⟩)) rfl rfl (Or.inl ⟨rfl, by rintro W' ⟨r0, r1, r2, r3⟩; have ry0 := r0.cell; have ry1 := r1.cell; go_simp⟩) HS.out ?_
  simp only [Act.put, sB, sZ, sS]
  refine hTk (i := 10) (d := 50) (v := .int .i64 (ix : Int)) rfl rfl (Or.inl ⟨rfl, by rintro W' ⟨r0, r1, r2, r3⟩; have ry0 := r0.cell; have ry1 := r1.cell; go_simp⟩) HS.out ?_
  simp only [Act.put, sB, sZ, sS]
  refine hTk (i := 11) (d := 51) (v := .pointer (some ⟨b, o + ix * 3, none⟩)) rfl rfl (Or.inl ⟨rfl, by rintro W' ⟨r0, r1, r2, r3⟩; have ry0 := r0.cell; have ry1 := r1.cell; go_simp⟩) HS.out ?_
  simp only [Act.put, sB, sZ, sS]
  refine hTk (i := 12) (d := 52) (v := .pointer (some ⟨b, o + ix * 3, none⟩)) rfl rfl (Or.inl ⟨rfl, by rintro W' ⟨r0, r1, r2, r3⟩; have ry0 := r0.cell; have ry1 := r1.cell; go_simp⟩) HS.out ?_
  simp only [Act.put, sB, sZ, sS]
  refine hTk (i := 13) (d := 53) (v := .int .i64 (c : Int)) rfl rfl (Or.inl ⟨rfl, by rintro W' ⟨r0, r1, r2, r3⟩; have ry0 := r0.cell; have ry1 := r1.cell; go_simp⟩) HS.out ?_
  simp only [Act.put, sB, sZ, sS]
  refine hTk (i := 14) (d := 54) (v := .pointer (some ⟨pb, c, none⟩)) rfl rfl (Or.inl ⟨rfl, by rintro W' ⟨r0, r1, r2, r3⟩; have ry0 := r0.cell; have ry1 := r1.cell; go_simp⟩) HS.out ?_
  simp only [Act.put, sB, sZ, sS]
  refine hTk (i := 15) (d := 55) (v := .int .i64 (q : Int)) rfl rfl (Or.inl ⟨rfl, by rintro W' ⟨r0, r1, r2, r3⟩; have ry0 := r0.cell; have ry1 := r1.cell; go_simp⟩) HS.out ?_
  simp only [Act.put, sB, sZ, sS]
  refine wpAnyH_ready (rs := [16]) (by kernel_rfl) (by simp) ?_
  refine AllReadyH.cons rfl (fun K hK => ?_) AllReadyH.nil
  rw [if_pos (by rfl)]
  go_simp
  go_at_call 93
  (with_reducible refine (HSV.out _ hbq).mono ?_)
  rintro e wc0 ⟨rfl, C3, V3, K3, hA3, hst3⟩
  have hk3 := (Kw.of_below (B := B) hbq HA2.out.bw).trans (Kw.of_st3 (HA2.out.below hbq) hst3)
  have hbx3 := HBX.out.ky hk3.ky (by decide) (by decide) (by decide)
  have HFIN := Lib.hid (show (Ending.returned (Value.tuple #[]) = Ending.returned (Value.tuple #[])) ∧ ∃ (C' : Nat → Ci) (V' : Nat → Vi) (K1 : Nat → Bool), StA wc0 B sb x C' V' K1 z fon (run.set ix false) xs (fun j => j < z.np) ∧ Kw B w wc0 from ⟨rfl, _, _, _, hA3.weak (fun j hj => by
    by_cases e : j = q
    · exact .inr e
    · exact .inl ⟨hj, by rw [HQQ.out]; exact e⟩), HK2.out.trans hk3⟩)
  have HS := Lib.hid (show (fun wx => Rw wx (sb) 110 #[.int .i64 (x.N : Int), .slice x.wires.A x.wires.n x.wires.c, .slice x.feeds.A x.feeds.n x.feeds.c, .int .i64 x.least, .slice x.fon.A x.fon.n x.fon.c, .slice x.sw.A x.sw.n x.sw.c, .slice (some ⟨b, o, none⟩) x.loads.n x.loads.c, .slice (some ⟨fb, 0, none⟩) x.run.n x.run.c, .slice x.parts.A x.parts.n x.parts.c, .slice (some ⟨pb, 0, none⟩) z.N z.N, .slice (some ⟨x.cb, 0, none⟩) x.np x.np, .slice (some ⟨x.vb, 0, none⟩) x.np x.np, .slice (some ⟨x.kb, 0, none⟩) x.np x.np] ∧ Rw wx (w.heap.size) 92 #[.int .i64 kd, .int .i64 (ix : Int), .int .i64 a1, .int .i64 a2] ∧ wx.cell? ⟨b, o + ix * 3, none⟩ = some (.int .i64 (c : Int)) ∧ wx.cell? ⟨pb, c, none⟩ = some (.int .i64 (q : Int))) wc0 from HT.out _ _ _ _ _ _ _ hA3 hbx3)
  clear hk3 hbx3 hA3 hst3
  refine hK.out _ _ HS.out (fun _ => ?_)
  clear hK K
  try simp only [Act.put, sB, sZ, sS]
  refine wpAnyH_done (by kernel_rfl) ?_ _
  clear HS
  refine NoPanic.normal ?_
  (try simp only [Exit.inBlock, Exit.then])
  refine bodyPost_end (results_none rfl _ _ _) rfl ?_
  obtain ⟨_, C1, V1, K1, hs, hk⟩ := HFIN.out
  first | exact ⟨rfl, C1, V1, K1, hs, hk⟩ | exact ⟨rfl, ⟨C1, V1, K1, hs⟩, hk⟩
end Go.Proofs.YtbnfnpakibkboaaGreat

namespace Go.Proofs.YtbnfnpakibkboaaGreat
set_option linter.unusedVariables false
set_option linter.unusedSimpArgs false
open Go.RowKit

abbrev C1c := Int × Nat × (Int × Int)
def fCu (c : C1c) : List Value := [.int .i64 c.1, .int .i64 (c.2.1 : Int), .int .i64 c.2.2.1, .int .i64 c.2.2.2]
theorem fCu_len (x : C1c) : (fCu x).length = 4 := rfl
theorem fCu_one (x : C1c) : ∀ u ∈ fCu x, u.oneCell' = true := by simp [fCu, Value.oneCell']
def cutF (c : C1c) (fon : List Bool) : List Bool := if c.1 = 4 then fon.set c.2.1 false else fon
def cutR (c : C1c) (run : List Bool) : List Bool := if c.1 = 4 then run else run.set c.2.1 false
/-- what is cut off, one after the other -/
inductive Zs.Steps (z : Zs) (fon run : List Bool) : List C1c → List Bool → List Bool → Prop
  | nil : Zs.Steps z fon run [] fon run
  | snoc {l : List C1c} {f r : List Bool} {c : C1c} : Zs.Steps z fon run l f r → z.next f r = some c → Zs.Steps z fon run (l ++ [c]) (cutF c f) (cutR c r)
def cntB (l : List Bool) : Nat := (l.filter (fun b => b)).length
theorem cntB_set {l : List Bool} {i : Nat} (h : l[i]? = some true) : cntB (l.set i false) + 1 = cntB l := by
  unfold cntB
  induction l generalizing i with
  | nil => simp at h
  | cons a l ih =>
    cases i with
    | zero => simp at h; subst h; simp
    | succ i =>
      have := ih (i := i) (by simpa using h)
      rw [List.set_cons_succ, List.filter_cons, List.filter_cons]
      cases a <;> simp <;> omega
theorem runAt_some {run : List Bool} {i : Nat} (h : runAt run i = true) : run[i]? = some true := by
  unfold runAt at h
  cases hr : run[i]? with
  | none => rw [hr] at h; cases h
  | some b => rw [hr] at h; simp at h; rw [h]
section
variable {z : Zs} {fon run : List Bool}
theorem Zs.Ok.amp_off (h : z.Ok) {f : Nat} (hf : f < z.g.feeds.length) (ho : fon[f]? ≠ some true) : z.amp fon run f = (0, 1) := by
  cases hs : z.sol fon run (z.pof (z.fpl f)) with
  | none => unfold Zs.amp; rw [hs]
  | some p => obtain ⟨v, d⟩ := p; rw [h.amp_is hf hs, if_neg ho]
theorem Zs.Ok.lim_nonneg (h : z.Ok) {f : Nat} (hf : f < z.g.feeds.length) : 0 ≤ limZ z f ∧ limZ z f ≤ 2000 := by
  have h2 := feedsB_at h.fb (List.getElem_mem hf)
  unfold limZ fvAt
  rw [List.getElem?_eq_getElem hf]
  show 0 ≤ (z.g.feeds[f]).limit ∧ _
  exact ⟨h2.2.2.2.2.2.2.1, h2.2.2.2.2.2.2.2⟩
theorem Zs.dead_at {c : C1c} (hc : z.dead fon run = some c) : c.1 = 1 ∧ c.2.1 < z.ls.length ∧ run[c.2.1]? = some true ∧ z.deadP fon run c.2.1 = true ∧ c.2.2 = (0, 1) := by
  unfold Zs.dead at hc
  cases hf : (List.range z.ls.length).find? (z.deadP fon run) with
  | none => rw [hf] at hc; cases hc
  | some i =>
    rw [hf] at hc
    injection hc with hc; subst hc
    obtain ⟨h1, h2, _⟩ := List.find?_range_eq_some.1 hf
    have hd := h1
    unfold Zs.deadP at h1
    simp only [Bool.and_eq_true] at h1
    exact ⟨rfl, List.mem_range.1 h2, runAt_some h1.1, hd, rfl⟩
theorem Zs.back_at {c : C1c} (hc : z.back fon run = some c) : c.1 = 2 ∧ c.2.1 < z.ls.length ∧ run[c.2.1]? = some true := by
  unfold Zs.back at hc
  have hl := leastZ_lt z.ls run (z.backQ fon run) z.ls.length
  split at hc
  · cases hc
  · injection hc with hc; subst hc
    exact ⟨rfl, by show (leastZ z.ls run (z.backQ fon run) z.ls.length).toNat < z.ls.length; omega, runAt_some (hl.2.2 (by omega)).1⟩
theorem Zs.low_at {c : C1c} (hc : z.low fon run = some c) : c.1 = 3 ∧ c.2.1 < z.ls.length ∧ run[c.2.1]? = some true := by
  unfold Zs.low at hc
  have hl := leastZ_lt z.ls run (z.lowQ fon run) z.ls.length
  split at hc
  · cases hc
  · injection hc with hc; subst hc
    exact ⟨rfl, by show (leastZ z.ls run (z.lowQ fon run) z.ls.length).toNat < z.ls.length; omega, runAt_some (hl.2.2 (by omega)).1⟩
theorem Zs.Ok.trip_at (h : z.Ok) {c : C1c} (hc : z.trip fon run = some c) : c.1 = 4 ∧ c.2.1 < z.g.feeds.length ∧ fon[c.2.1]? = some true := by
  unfold Zs.trip at hc
  have hl := tripZ_lt (z.amp fon run) (limZ z) z.g.feeds.length
  split at hc
  · cases hc
  · injection hc with hc; subst hc
    have hlt : (tripZ (z.amp fon run) (limZ z) z.g.feeds.length).toNat < z.g.feeds.length := by omega
    refine ⟨rfl, hlt, Classical.byContradiction fun ho => ?_⟩
    have h1 := hl.2.2 (by omega)
    have h2 := h.amp_off (fon := fon) (run := run) hlt ho
    have h3 := (h.lim_nonneg hlt).1
    rw [h2] at h1
    simp at h1; omega
theorem Zs.next_cases {c : C1c} (hc : z.next fon run = some c) : z.dead fon run = some c ∨ (z.dead fon run = none ∧ z.back fon run = some c) ∨ (z.dead fon run = none ∧ z.back fon run = none ∧ z.low fon run = some c) ∨ (z.dead fon run = none ∧ z.back fon run = none ∧ z.low fon run = none ∧ z.trip fon run = some c) := by
  unfold Zs.next at hc
  cases h1 : z.dead fon run with
  | some d => rw [h1] at hc; left; simpa using hc
  | none =>
    rw [h1] at hc
    right
    cases h2 : z.back fon run with
    | some d => rw [h2] at hc; left; exact ⟨rfl, by simpa using hc⟩
    | none =>
      rw [h2] at hc
      right
      cases h3 : z.low fon run with
      | some d => rw [h3] at hc; left; exact ⟨rfl, rfl, by simpa using hc⟩
      | none => rw [h3] at hc; right; exact ⟨rfl, rfl, rfl, by simpa using hc⟩
theorem Zs.next_none (hc : z.next fon run = none) : z.dead fon run = none ∧ z.back fon run = none ∧ z.low fon run = none ∧ z.trip fon run = none := by
  unfold Zs.next at hc
  simpa [Option.or_eq_none_iff] using hc
theorem Zs.Ok.next_at (h : z.Ok) {c : C1c} (hc : z.next fon run = some c) : (c.1 = 4 ∧ c.2.1 < z.g.feeds.length ∧ fon[c.2.1]? = some true) ∨ (¬ c.1 = 4 ∧ c.2.1 < z.ls.length ∧ run[c.2.1]? = some true) := by
  rcases Zs.next_cases hc with e | ⟨_, e⟩ | ⟨_, _, e⟩ | ⟨_, _, _, e⟩
  · have := Zs.dead_at e; exact .inr ⟨by omega, this.2.1, this.2.2.1⟩
  · have := Zs.back_at e; exact .inr ⟨by omega, this.2.1, this.2.2⟩
  · have := Zs.low_at e; exact .inr ⟨by omega, this.2.1, this.2.2⟩
  · exact .inl (h.trip_at e)
theorem Zs.Ok.cut_cnt (h : z.Ok) {c : C1c} (hc : z.next fon run = some c) : cntB (cutF c fon) + cntB (cutR c run) + 1 = cntB fon + cntB run := by
  unfold cutF cutR
  rcases h.next_at hc with ⟨e, _, h2⟩ | ⟨e, _, h2⟩
  · rw [if_pos e, if_pos e]; have := cntB_set h2; omega
  · rw [if_neg e, if_neg e]; have := cntB_set h2; omega
theorem Zs.Ok.steps_cnt (h : z.Ok) {l : List C1c} {f r : List Bool} (hs : z.Steps fon run l f r) : l.length + cntB f + cntB r = cntB fon + cntB run := by
  induction hs with
  | nil => simp
  | snoc hs hn ih => have := h.cut_cnt hn; rw [List.length_append]; simp; omega
/-- the steps are the same ones, always -/
theorem Zs.steps_take {l : List C1c} {f r : List Bool} (hs : z.Steps fon run l f r) : ∀ {l' : List C1c} {f' r' : List Bool}, z.Steps fon run l' f' r' → l.length ≤ l'.length → l'.take l.length = l ∧ (l.length = l'.length → f = f' ∧ r = r') := by
  induction hs with
  | nil =>
    intro l' f' r' hs' _
    refine ⟨rfl, fun e => ?_⟩
    cases hs' with
    | nil => exact ⟨rfl, rfl⟩
    | snoc _ _ => simp at e
  | snoc hs hn ih =>
    rename_i l0 f0 r0 c
    intro l' f' r' hs'
    induction hs' with
    | nil => intro hl; simp at hl
    | snoc hs2 hn2 ih2 =>
      rename_i l2 f2 r2 c2
      intro hl
      rw [List.length_append, List.length_append] at hl
      simp only [List.length_cons, List.length_nil] at hl
      by_cases e : l0.length = l2.length
      · obtain ⟨e1, e2⟩ := ih hs2 (by omega)
        obtain ⟨e3, e4⟩ := e2 e
        have e5 : l2 = l0 := by rw [← e1, e]; simp
        subst e3; subst e4; subst e5
        rw [hn] at hn2
        injection hn2 with hn2; subst hn2
        exact ⟨List.take_of_length_le (by simp), fun _ => ⟨rfl, rfl⟩⟩
      · obtain ⟨e1, e2⟩ := ih2 (by rw [List.length_append]; simp; omega)
        refine ⟨?_, fun e3 => ?_⟩
        · rw [List.take_append_of_le_length (by rw [List.length_append]; simp; omega)]; exact e1
        · rw [List.length_append, List.length_append] at e3; simp at e3; exact absurd e3 e
theorem Zs.steps_end {l l' : List C1c} {f r f' r' : List Bool} (hs : z.Steps fon run l f r) (he : z.next f r = none) (hs' : z.Steps fon run l' f' r') (he' : z.next f' r' = none) : l = l' ∧ f = f' ∧ r = r' := by
  have key : ∀ {l l' : List C1c} {f r f' r' : List Bool}, z.Steps fon run l f r → z.next f r = none → z.Steps fon run l' f' r' → ¬ l.length < l'.length := by
    intro l l' f r f' r' hs he hs' hlt
    induction hs' with
    | nil => simp at hlt
    | snoc hs2 hn2 ih =>
      rename_i l2 f2 r2 c2
      rw [List.length_append] at hlt
      simp only [List.length_cons, List.length_nil] at hlt
      by_cases e : l.length = l2.length
      · obtain ⟨e3, e4⟩ := (Zs.steps_take hs hs2 (by omega)).2 e
        subst e3; subst e4
        rw [he] at hn2; cases hn2
      · exact ih (by omega)
  have h1 := key hs he hs'
  have h2 := key hs' he' hs
  have e : l.length = l'.length := by omega
  obtain ⟨e1, e2⟩ := Zs.steps_take hs hs' (by omega)
  refine ⟨?_, e2 e⟩
  rw [← e1, e]; simp
end
end Go.Proofs.YtbnfnpakibkboaaGreat
