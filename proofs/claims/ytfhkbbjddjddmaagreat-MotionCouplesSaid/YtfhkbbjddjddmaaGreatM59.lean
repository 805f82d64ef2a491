/- Contract: Couple. -/
import Derived.Test.YtfhkbbjddjddmaaGreatM54
namespace Go.Proofs.YtfhkbbjddjddmaaGreat
set_option linter.unusedVariables false
set_option linter.unusedSimpArgs false
open Go.RowKit

def Tr0 : Tr := ⟨0, 0, 0, 0, 0, 0, 0, 0, 0, []⟩
def cplE (a b : Tr) : Int := if rightB a = true ∧ rightB b = true ∧ a.grip.length = b.grip.length then (if fitsB (coupT a b) = true then 0 else 3) else 2
def cplT (a b : Tr) : Tr := if cplE a b = 0 then coupT a b else Tr0
def CplPost (a b : Tr) (w : World) (e : Ending) (w' : World) : Prop := ∃ A c, e = .returned (.tuple #[.agg #[.int .i64 (cplT a b).mass, .int .i64 (cplT a b).len, .int .i64 (cplT a b).speed, .int .i64 (cplT a b).effort, .int .i64 (cplT a b).brake, .int .i64 (cplT a b).power, .int .i64 (cplT a b).resist, .int .i64 (cplT a b).rise, .int .i64 (cplT a b).back, .slice A (cplT a b).grip.length c], .int .i64 (cplE a b)]) ∧ Sl w' w'.heap.size 1 CI A (cplT a b).grip ∧ Below w.heap.size w w'
theorem coupT_len (a b : Tr) : (coupT a b).grip.length = a.grip.length := coupTo_len a b _
theorem coup_right {a b : Tr} (ha : rightB a = true) (hb : rightB b = true) (hn : a.grip.length = b.grip.length) : rightB (coupT a b) = fitsB (coupT a b) := by
  have ta := TrOk.of ha; have tb := TrOk.of hb
  have h1 : inB (coupT a b).back 0 100 = true := inB_iff.2 (by have := ta.k1; have := ta.k2; have := tb.k1; show 0 ≤ min a.back b.back ∧ min a.back b.back ≤ 100; omega)
  have h2 : inB (coupT a b).speed 1 25000 = true := inB_iff.2 (by have := ta.v1; have := ta.v2; have := tb.v1; show 1 ≤ min a.speed b.speed ∧ min a.speed b.speed ≤ 25000; omega)
  have h3 : gripsB (coupT a b).grip = true := by
    unfold gripsB
    rw [Bool.and_eq_true]
    refine ⟨List.all_eq_true.2 fun g hg => inB_iff.2 ?_, inB_iff.2 ?_⟩
    · obtain ⟨i, hi, rfl⟩ := List.mem_map.1 hg
      have hi := List.mem_range.1 hi
      have e1 : gripAt a i = a.grip[i] := by unfold gripAt; rw [List.getElem?_eq_getElem hi]; rfl
      have e2 : gripAt b i = b.grip[i]'(by omega) := by unfold gripAt; rw [List.getElem?_eq_getElem (by omega)]; rfl
      have g1 := ta.gs a.grip[i] (List.getElem_mem _)
      have g2 := tb.gs (b.grip[i]'(by omega)) (List.getElem_mem _)
      rw [e1, e2]
      omega
    · rw [coupT_len]; have := ta.g1; have := ta.g2; omega
  unfold rightB
  rw [h1, h2, h3]
  simp
theorem Sl.far10 {α : Type} {C : α → List Value → Prop} {w : World} {B size : Nat} {A : Option Addr} {l : List α} {g : Nat} {v0 v1 v2 v3 v4 v5 v6 v7 v8 v9 : Value} (h : Sl w B size C A l) (hg : ∀ ad, A = some ad → ad.block ≠ g) : Sl ((((((((((w.setCell ⟨g, 0, none⟩ v0).setCell ⟨g, 1, none⟩ v1).setCell ⟨g, 2, none⟩ v2).setCell ⟨g, 3, none⟩ v3).setCell ⟨g, 4, none⟩ v4).setCell ⟨g, 5, none⟩ v5).setCell ⟨g, 6, none⟩ v6).setCell ⟨g, 7, none⟩ v7).setCell ⟨g, 8, none⟩ v8).setCell ⟨g, 9, none⟩ v9) B size C A l := by
  intro hl
  obtain ⟨b, off, e, hb, hc⟩ := h hl
  have hne := hg _ e
  refine ⟨b, off, e, hb, fun i x hx => ?_⟩
  obtain ⟨cs, h1, h2⟩ := hc i x hx
  refine ⟨cs, h1, fun j u hu => ?_⟩
  simp only [cell_far _ _ hne]
  exact h2 j u hu
set_option maxRecDepth 100000 in
set_option maxHeartbeats 4000000 in
theorem Couple_any (A A2 : Option Addr) (c c2 n n2 : Nat) (a b : Tr) (w : World) (hn : a.grip.length = n) (hn' : b.grip.length = n2) (hx : n ≤ 140737488351232) (hy : n2 ≤ 140737488351232) (hS : Sl w w.heap.size 1 CI A a.grip) (hS2 : Sl w w.heap.size 1 CI A2 b.grip) :
    Calls Tryz.prog 15 #[.agg #[.int .i64 a.mass, .int .i64 a.len, .int .i64 a.speed, .int .i64 a.effort, .int .i64 a.brake, .int .i64 a.power, .int .i64 a.resist, .int .i64 a.rise, .int .i64 a.back, .slice A n c], .agg #[.int .i64 b.mass, .int .i64 b.len, .int .i64 b.speed, .int .i64 b.effort, .int .i64 b.brake, .int .i64 b.power, .int .i64 b.resist, .int .i64 b.rise, .int .i64 b.back, .slice A2 n2 c2]] w (CplPost a b w) := by
  have hb1 := (((Below.refl w.heap.size w).alloc (Nat.le_refl _) (.cells #[.int .i64 a.mass, .int .i64 a.len, .int .i64 a.speed, .int .i64 a.effort, .int .i64 a.brake, .int .i64 a.power, .int .i64 a.resist, .int .i64 a.rise, .int .i64 a.back, .slice A n c] 24)).alloc (by simp) (.cells #[.int .i64 b.mass, .int .i64 b.len, .int .i64 b.speed, .int .i64 b.effort, .int .i64 b.brake, .int .i64 b.power, .int .i64 b.resist, .int .i64 b.rise, .int .i64 b.back, .slice A2 n2 c2] 24)).alloc (by simp; omega) (.cells #[.int .i64 0, .int .i64 0, .int .i64 0, .int .i64 0, .int .i64 0, .int .i64 0, .int .i64 0, .int .i64 0, .int .i64 0, .slice none 0 0] 24)
  obtain ⟨q1, q2, q3⟩ := rows3 w #[.int .i64 a.mass, .int .i64 a.len, .int .i64 a.speed, .int .i64 a.effort, .int .i64 a.brake, .int .i64 a.power, .int .i64 a.resist, .int .i64 a.rise, .int .i64 a.back, .slice A n c] #[.int .i64 b.mass, .int .i64 b.len, .int .i64 b.speed, .int .i64 b.effort, .int .i64 b.brake, .int .i64 b.power, .int .i64 b.resist, .int .i64 b.rise, .int .i64 b.back, .slice A2 n2 c2] #[.int .i64 0, .int .i64 0, .int .i64 0, .int .i64 0, .int .i64 0, .int .i64 0, .int .i64 0, .int .i64 0, .int .i64 0, .slice none 0 0] 24 24 24
  obtain ⟨W1, hW1⟩ : ∃ z, (((w.alloc (.cells #[.int .i64 a.mass, .int .i64 a.len, .int .i64 a.speed, .int .i64 a.effort, .int .i64 a.brake, .int .i64 a.power, .int .i64 a.resist, .int .i64 a.rise, .int .i64 a.back, .slice A n c] 24)).alloc (.cells #[.int .i64 b.mass, .int .i64 b.len, .int .i64 b.speed, .int .i64 b.effort, .int .i64 b.brake, .int .i64 b.power, .int .i64 b.resist, .int .i64 b.rise, .int .i64 b.back, .slice A2 n2 c2] 24)).alloc (.cells #[.int .i64 0, .int .i64 0, .int .i64 0, .int .i64 0, .int .i64 0, .int .i64 0, .int .i64 0, .int .i64 0, .int .i64 0, .slice none 0 0] 24)) = z := ⟨_, rfl⟩
  rw [hW1] at hb1 q1 q2 q3
  obtain ⟨B, hB⟩ : ∃ B, w.heap.size = B := ⟨_, rfl⟩
  rw [hB] at q1 q2 q3
  have HBE := Lib.hid hB
  have HB1 := Lib.hid hb1
  have HK := Lib.hid (show ∀ wx, Below W1.heap.size W1 wx → Rw wx B 24 #[.int .i64 a.mass, .int .i64 a.len, .int .i64 a.speed, .int .i64 a.effort, .int .i64 a.brake, .int .i64 a.power, .int .i64 a.resist, .int .i64 a.rise, .int .i64 a.back, .slice A n c] ∧ Rw wx (B + 1) 24 #[.int .i64 b.mass, .int .i64 b.len, .int .i64 b.speed, .int .i64 b.effort, .int .i64 b.brake, .int .i64 b.power, .int .i64 b.resist, .int .i64 b.rise, .int .i64 b.back, .slice A2 n2 c2] ∧ Rw wx (B + 1 + 1) 24 #[.int .i64 0, .int .i64 0, .int .i64 0, .int .i64 0, .int .i64 0, .int .i64 0, .int .i64 0, .int .i64 0, .int .i64 0, .slice none 0 0] ∧ Sl wx wx.heap.size 1 CI A a.grip ∧ Sl wx wx.heap.size 1 CI A2 b.grip from fun wx h => by
    have hb := hb1.trans (h.mono hb1.size)
    have hz := Nat.le_trans hb1.size h.size
    exact ⟨q1.below h q1.lt, q2.below h q2.lt, q3.below h q3.lt, (hS.below hb).more (fun _ _ h => h) hz, (hS2.below hb).more (fun _ _ h => h) hz⟩)
  have HN := Lib.hid (And.intro hn hn')
  have HX0 := Lib.hid (Below.refl W1.heap.size W1)
  have HZW := Lib.hid q3.lt
  obtain ⟨ra, hra⟩ : ∃ r, rightB a = r := ⟨_, rfl⟩
  obtain ⟨rb, hrb⟩ : ∃ r, rightB b = r := ⟨_, rfl⟩
  have HRA := Lib.hid hra; have HRB := Lib.hid hrb
  have HR1 := Lib.hid (show ∀ wx, Below W1.heap.size W1 wx → Calls Tryz.prog 39 #[.agg #[.int .i64 a.mass, .int .i64 a.len, .int .i64 a.speed, .int .i64 a.effort, .int .i64 a.brake, .int .i64 a.power, .int .i64 a.resist, .int .i64 a.rise, .int .i64 a.back, .slice A n c]] wx fun e w' => e = .returned (.bool ra) ∧ Below wx.heap.size wx w' from fun wx h => by have := right_any A c n a wx hn (by omega) (HK.out wx h).2.2.2.1; rwa [hra] at this)
  have HR2 := Lib.hid (show ∀ wx, Below W1.heap.size W1 wx → Calls Tryz.prog 39 #[.agg #[.int .i64 b.mass, .int .i64 b.len, .int .i64 b.speed, .int .i64 b.effort, .int .i64 b.brake, .int .i64 b.power, .int .i64 b.resist, .int .i64 b.rise, .int .i64 b.back, .slice A2 n2 c2]] wx fun e w' => e = .returned (.bool rb) ∧ Below wx.heap.size wx w' from fun wx h => by have := right_any A2 c2 n2 b wx hn' (by omega) (HK.out wx h).2.2.2.2; rwa [hrb] at this)
  have e := q1.cell; have f := q2.cell
  clear hb1 q1 q2 q3 hS hS2 hn hn' hra hrb
  go_enter Tryz.func15, Tryz.ntmps15
  go_wp2_with fail
  (with_reducible refine (HR1.out _ HX0.out).mono ?_)
  rintro e w2 ⟨rfl, hb2⟩
  have HX2 := Lib.hid hb2
  clear hb2 e f hW1 hB
  obtain ⟨r1, r2, r3, _⟩ := HK.out _ HX2.out
  have e := r1.cell; have f := r2.cell; have g0 := r3.cell 0; have k0 := r3.frozen 0; have g1 := r3.cell 1; have k1 := r3.frozen 1; have g2 := r3.cell 2; have k2 := r3.frozen 2; have g3 := r3.cell 3; have k3 := r3.frozen 3; have g4 := r3.cell 4; have k4 := r3.frozen 4; have g5 := r3.cell 5; have k5 := r3.frozen 5; have g6 := r3.cell 6; have k6 := r3.frozen 6; have g7 := r3.cell 7; have k7 := r3.frozen 7; have g8 := r3.cell 8; have k8 := r3.frozen 8; have g9 := r3.cell 9; have k9 := r3.frozen 9
  have R3 := Lib.hid r3
  clear r1 r2 r3
  cases ra with
  | false =>
    have HE := Lib.hid (show cplT a b = Tr0 ∧ cplE a b = 2 from by
      have h : cplE a b = 2 := by unfold cplE; rw [if_neg (fun h => by have := h.1; rw [HRA.out] at this; cases this)]
      exact ⟨by unfold cplT; rw [h]; rfl, h⟩)
    have HBB := Lib.hid (HB1.out.trans (HX2.out.mono HB1.out.size))
    go_wp2
    (try simp only [Exit.inBlock, Exit.then])
    have hr := Rw.set10 R3.out (.int .i64 0) (.int .i64 0) (.int .i64 0) (.int .i64 0) (.int .i64 0) (.int .i64 0) (.int .i64 0) (.int .i64 0) (.int .i64 0) (.slice none 0 0)
    refine bodyPost_ret (res_ct rfl _ _ _ _ _ _ _ rfl rfl hr Tryz.underlying24 rfl (by kernel_rfl)) rfl ?_
    exact ⟨none, 0, by rw [HE.out.1, HE.out.2]; rfl, by rw [HE.out.1]; exact fun h => absurd rfl h, below_set10 HBB.out (by have := HBE.out; omega)⟩

  | true =>
    go_wp2_with fail
    (with_reducible refine (HR2.out _ HX2.out).mono ?_)
    rintro e w3 ⟨rfl, hb3⟩
    have HX3 := Lib.hid (HX2.out.trans (hb3.mono HX2.out.size))
    clear hb3 e f g0 k0 g1 k1 g2 k2 g3 k3 g4 k4 g5 k5 g6 k6 g7 k7 g8 k8 g9 k9
    obtain ⟨r1, r2, r3, _⟩ := HK.out _ HX3.out
    have e := r1.cell; have f := r2.cell; have g0 := r3.cell 0; have k0 := r3.frozen 0; have g1 := r3.cell 1; have k1 := r3.frozen 1; have g2 := r3.cell 2; have k2 := r3.frozen 2; have g3 := r3.cell 3; have k3 := r3.frozen 3; have g4 := r3.cell 4; have k4 := r3.frozen 4; have g5 := r3.cell 5; have k5 := r3.frozen 5; have g6 := r3.cell 6; have k6 := r3.frozen 6; have g7 := r3.cell 7; have k7 := r3.frozen 7; have g8 := r3.cell 8; have k8 := r3.frozen 8; have g9 := r3.cell 9; have k9 := r3.frozen 9
    replace R3 := Lib.hid r3
    clear r1 r2 r3
    cases rb with
    | false =>
      have HE := Lib.hid (show cplT a b = Tr0 ∧ cplE a b = 2 from by
        have h : cplE a b = 2 := by unfold cplE; rw [if_neg (fun h => by have := h.2.1; rw [HRB.out] at this; cases this)]
        exact ⟨by unfold cplT; rw [h]; rfl, h⟩)
      have HBB := Lib.hid (HB1.out.trans (HX3.out.mono HB1.out.size))
      go_wp2
      (try simp only [Exit.inBlock, Exit.then])
      have hr := Rw.set10 R3.out (.int .i64 0) (.int .i64 0) (.int .i64 0) (.int .i64 0) (.int .i64 0) (.int .i64 0) (.int .i64 0) (.int .i64 0) (.int .i64 0) (.slice none 0 0)
      refine bodyPost_ret (res_ct rfl _ _ _ _ _ _ _ rfl rfl hr Tryz.underlying24 rfl (by kernel_rfl)) rfl ?_
      exact ⟨none, 0, by rw [HE.out.1, HE.out.2]; rfl, by rw [HE.out.1]; exact fun h => absurd rfl h, below_set10 HBB.out (by have := HBE.out; omega)⟩

    | true =>
      by_cases hnn : n = n2
      · subst hnn
        have HNN := Lib.hid (show a.grip.length = b.grip.length from HN.out.1.trans HN.out.2.symm)
        have HCP := Lib.hid (show ∀ wx, Below W1.heap.size W1 wx → Calls Tryz.prog 40 #[.agg #[.int .i64 a.mass, .int .i64 a.len, .int .i64 a.speed, .int .i64 a.effort, .int .i64 a.brake, .int .i64 a.power, .int .i64 a.resist, .int .i64 a.rise, .int .i64 a.back, .slice A n c], .agg #[.int .i64 b.mass, .int .i64 b.len, .int .i64 b.speed, .int .i64 b.effort, .int .i64 b.brake, .int .i64 b.power, .int .i64 b.resist, .int .i64 b.rise, .int .i64 b.back, .slice A2 n c2]] wx fun e w' => ∃ v, e = .returned (.agg #[.int .i64 (a.mass + b.mass), .int .i64 (a.len + b.len), .int .i64 (min a.speed b.speed), .int .i64 (a.effort + b.effort), .int .i64 (a.brake + b.brake), .int .i64 (a.power + b.power), .int .i64 (a.resist + b.resist), .int .i64 (a.rise + b.rise), .int .i64 (min a.back b.back), v]) ∧ Own w' wx.heap.size 3 1 fI v (coupT a b).grip ∧ Below wx.heap.size wx w' from fun wx h => couple_any A A2 c c2 n a b wx (TrOk.of HRA.out) (TrOk.of HRB.out) HN.out.1 HN.out.2 (HK.out wx h).2.2.2.1 (HK.out wx h).2.2.2.2)
        go_wp2_with fail
        (with_reducible refine (HCP.out _ HX3.out).mono ?_)
        rintro e w4 ⟨v, rfl, hown, hb4⟩
        have HX4 := Lib.hid (HX3.out.trans (hb4.mono HX3.out.size))
        obtain ⟨Av, cv, hve, _, _, _⟩ := hown.form
        have hav := Lib.hid (show ∀ ad, Av = some ad → w3.heap.size ≤ ad.block from fun ad e => (hown.lt ad.block (by rw [hve, e]; rfl)).1)
        have hnl : (coupT a b).grip.length = n := (coupT_len a b).trans HN.out.1
        have hsv : Sl w4 w4.heap.size 1 CI Av (coupT a b).grip := (hown.sl fI_len hve).more (fun _ _ h => h) (Nat.le_refl _)
        rw [hnl] at hve
        subst hve
        have HSV := Lib.hid hsv
        clear hb4 hown hsv e f g0 k0 g1 k1 g2 k2 g3 k3 g4 k4 g5 k5 g6 k6 g7 k7 g8 k8 g9 k9
        go_upto_region 4 with (fail)
        have hba := (Below.refl w4.heap.size w4).alloc (Nat.le_refl _) (.cells #[.int .i64 (a.mass + b.mass), .int .i64 (a.len + b.len), .int .i64 (min a.speed b.speed), .int .i64 (a.effort + b.effort), .int .i64 (a.brake + b.brake), .int .i64 (a.power + b.power), .int .i64 (a.resist + b.resist), .int .i64 (a.rise + b.rise), .int .i64 (min a.back b.back), .slice Av n cv] 24)
        have qc := Rw.new w4 #[.int .i64 (a.mass + b.mass), .int .i64 (a.len + b.len), .int .i64 (min a.speed b.speed), .int .i64 (a.effort + b.effort), .int .i64 (a.brake + b.brake), .int .i64 (a.power + b.power), .int .i64 (a.resist + b.resist), .int .i64 (a.rise + b.rise), .int .i64 (min a.back b.back), .slice Av n cv] 24
        obtain ⟨w5, hw5⟩ : ∃ z, w4.alloc (.cells #[.int .i64 (a.mass + b.mass), .int .i64 (a.len + b.len), .int .i64 (min a.speed b.speed), .int .i64 (a.effort + b.effort), .int .i64 (a.brake + b.brake), .int .i64 (a.power + b.power), .int .i64 (a.resist + b.resist), .int .i64 (a.rise + b.rise), .int .i64 (min a.back b.back), .slice Av n cv] 24) = z := ⟨_, rfl⟩
        rw [hw5] at hba qc ⊢
        obtain ⟨Bc, hBc⟩ : ∃ z, w4.heap.size = z := ⟨_, rfl⟩
        rw [hBc] at qc ⊢
        have HX5 := Lib.hid (HX4.out.trans (hba.mono HX4.out.size))
        have HQC := Lib.hid (show ∀ wx, Below w5.heap.size w5 wx → Rw wx Bc 24 #[.int .i64 (a.mass + b.mass), .int .i64 (a.len + b.len), .int .i64 (min a.speed b.speed), .int .i64 (a.effort + b.effort), .int .i64 (a.brake + b.brake), .int .i64 (a.power + b.power), .int .i64 (a.resist + b.resist), .int .i64 (a.rise + b.rise), .int .i64 (min a.back b.back), .slice Av n cv] ∧ Sl wx wx.heap.size 1 CI Av (coupT a b).grip from fun wx h => ⟨qc.below h qc.lt, (HSV.out.below (hba.trans (h.mono hba.size))).more (fun _ _ h => h) (Nat.le_trans hba.size h.size)⟩)
        have y := qc.cell
        clear hba qc hw5 hBc
        obtain ⟨fb, hfb⟩ : ∃ f, fitsB (coupT a b) = f := ⟨_, rfl⟩
        have HFB := Lib.hid hfb
        have HFT := Lib.hid (show ∀ wx, Calls Tryz.prog 41 #[.agg #[.int .i64 (a.mass + b.mass), .int .i64 (a.len + b.len), .int .i64 (min a.speed b.speed), .int .i64 (a.effort + b.effort), .int .i64 (a.brake + b.brake), .int .i64 (a.power + b.power), .int .i64 (a.resist + b.resist), .int .i64 (a.rise + b.rise), .int .i64 (min a.back b.back), .slice Av n cv]] wx fun e w' => e = .returned (.bool fb) ∧ Below wx.heap.size wx w' from fun wx => by have := fits_any Av cv n (coupT a b) wx; rwa [hfb] at this)
        clear hfb
        go_wp2_with fail
        (with_reducible refine (HFT.out _).mono ?_)
        rintro e w6 ⟨rfl, hb6⟩
        have HX6 := Lib.hid (HX5.out.trans (hb6.mono HX5.out.size))
        have HSX := Lib.hid (HQC.out _ hb6).2
        have y := (HQC.out _ hb6).1.cell
        clear hb6
        obtain ⟨_, _, r3, _⟩ := HK.out _ HX6.out
        have g0 := r3.cell 0; have k0 := r3.frozen 0; have g1 := r3.cell 1; have k1 := r3.frozen 1; have g2 := r3.cell 2; have k2 := r3.frozen 2; have g3 := r3.cell 3; have k3 := r3.frozen 3; have g4 := r3.cell 4; have k4 := r3.frozen 4; have g5 := r3.cell 5; have k5 := r3.frozen 5; have g6 := r3.cell 6; have k6 := r3.frozen 6; have g7 := r3.cell 7; have k7 := r3.frozen 7; have g8 := r3.cell 8; have k8 := r3.frozen 8; have g9 := r3.cell 9; have k9 := r3.frozen 9
        replace R3 := Lib.hid r3
        clear r3
        cases fb with
        | false =>
          have HE := Lib.hid (show cplT a b = Tr0 ∧ cplE a b = 3 from by
            have h : cplE a b = 3 := by unfold cplE; rw [if_pos ⟨HRA.out, HRB.out, HNN.out⟩, if_neg (by rw [HFB.out]; simp)]
            exact ⟨by unfold cplT; rw [h]; rfl, h⟩)
          have HBB := Lib.hid (HB1.out.trans (HX6.out.mono HB1.out.size))
          go_wp2
          (try simp only [Exit.inBlock, Exit.then])
          have hr := Rw.set10 R3.out (.int .i64 0) (.int .i64 0) (.int .i64 0) (.int .i64 0) (.int .i64 0) (.int .i64 0) (.int .i64 0) (.int .i64 0) (.int .i64 0) (.slice none 0 0)
          refine bodyPost_ret (res_ct rfl _ _ _ _ _ _ _ rfl rfl hr Tryz.underlying24 rfl (by kernel_rfl)) rfl ?_
          exact ⟨none, 0, by rw [HE.out.1, HE.out.2]; rfl, by rw [HE.out.1]; exact fun h => absurd rfl h, below_set10 HBB.out (by have := HBE.out; omega)⟩

        | true =>
          have HE := Lib.hid (show cplT a b = coupT a b ∧ cplE a b = 0 from by
            have h : cplE a b = 0 := by unfold cplE; rw [if_pos ⟨HRA.out, HRB.out, HNN.out⟩, if_pos HFB.out]
            exact ⟨by unfold cplT; rw [h]; rfl, h⟩)
          have HBB := Lib.hid (HB1.out.trans (HX6.out.mono HB1.out.size))
          have HNL := Lib.hid hnl
          go_wp2
          (try simp only [Exit.inBlock, Exit.then])
          have hr := Rw.set10 R3.out (.int .i64 (a.mass + b.mass)) (.int .i64 (a.len + b.len)) (.int .i64 (min a.speed b.speed)) (.int .i64 (a.effort + b.effort)) (.int .i64 (a.brake + b.brake)) (.int .i64 (a.power + b.power)) (.int .i64 (a.resist + b.resist)) (.int .i64 (a.rise + b.rise)) (.int .i64 (min a.back b.back)) (.slice Av n cv)
          refine bodyPost_ret (res_ct rfl _ _ _ _ _ _ _ rfl rfl hr Tryz.underlying24 rfl (by kernel_rfl)) rfl ?_
          refine ⟨Av, cv, by rw [HE.out.1, HE.out.2, HNL.out]; rfl, ?_, below_set10 HBB.out (by have := HBE.out; omega)⟩
          rw [HE.out.1]
          exact (Sl.far10 HSX.out (fun ad e => by have := hav.out ad e; have := HX3.out.size; have := HZW.out; omega)).more (fun _ _ h => h) (by simp only [World.size_setCell]; exact Nat.le_refl _)
      · have hnb : ((n : Int) == (n2 : Int)) = false := by rw [beq_eq_false_iff_ne]; omega
        have HNN := Lib.hid (show ¬ a.grip.length = b.grip.length from by rw [HN.out.1, HN.out.2]; exact hnn)
        clear hnn
        have HE := Lib.hid (show cplT a b = Tr0 ∧ cplE a b = 2 from by
          have h : cplE a b = 2 := by unfold cplE; rw [if_neg (fun h => HNN.out h.2.2)]
          exact ⟨by unfold cplT; rw [h]; rfl, h⟩)
        have HBB := Lib.hid (HB1.out.trans (HX3.out.mono HB1.out.size))
        go_wp2
        (try simp only [Exit.inBlock, Exit.then])
        have hr := Rw.set10 R3.out (.int .i64 0) (.int .i64 0) (.int .i64 0) (.int .i64 0) (.int .i64 0) (.int .i64 0) (.int .i64 0) (.int .i64 0) (.int .i64 0) (.slice none 0 0)
        refine bodyPost_ret (res_ct rfl _ _ _ _ _ _ _ rfl rfl hr Tryz.underlying24 rfl (by kernel_rfl)) rfl ?_
        exact ⟨none, 0, by rw [HE.out.1, HE.out.2]; rfl, by rw [HE.out.1]; exact fun h => absurd rfl h, below_set10 HBB.out (by have := HBE.out; omega)⟩

end Go.Proofs.YtfhkbbjddjddmaaGreat
