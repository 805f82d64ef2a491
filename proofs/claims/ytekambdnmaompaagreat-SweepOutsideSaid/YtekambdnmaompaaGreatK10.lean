/- Contract: Zone. -/
import Derived.Test.YtekambdnmaompaaGreatK9
import Derived.Test.YtekambdnmaompaaGreatJ4
namespace Go.Proofs.YtekambdnmaompaaGreat.SW
set_option linter.unusedVariables false
set_option linter.unusedSimpArgs false
open Go.RowKit Go.Shelf Go.Lib Go.BigFrame
attribute [local go_sem] Oper.semAt_some

theorem op_round {F : Fence} {n : Nat} {P : Program} {ops : Array Oper} {Q : Exit → Act → World → Prop} {i : Nat} {K : Act → World → Prop} {a : Act} {w : World} (l : Nat) (ht : Tame ops) (h : wpOpIn F n P ops Q i K a w) : wpOpIn (F.inRound l) n P ops Q i K a w := by
  unfold wpOpIn at h ⊢
  cases hi : ops[i]? with
  | none => simp only [hi] at h ⊢; exact h
  | some o =>
    simp only [hi, Oper.wpIn, Oper.semAt_eq _ _ _ (ht i o hi).1] at h ⊢
    exact h
theorem anyIn_round {F : Fence} {n : Nat} {P : Program} {ops : Array Oper} {Q : Exit → Act → World → Prop} {md : Region.Mode} (l : Nat) (ht : Tame ops) : ∀ (fuel : Nat) (listed : Array Bool) (a : Act) (w : World), wpAnyIn F n P md ops Q fuel listed a w → wpAnyIn (F.inRound l) n P md ops Q fuel listed a w := by
  intro fuel
  induction fuel with
  | zero => exact fun _ _ _ h => h
  | succ fuel ih => exact fun listed a w h => ⟨h.1, fun i hi => op_round l ht (wpOpIn_mono (fun a' w' h' => ih _ _ _ h') (h.2 i hi))⟩
/-- a drawn region that writes nothing and calls nothing, in a round -/
theorem wpIn_quiet_round {F : Fence} {l n : Nat} {P : Program} {id : Nat} {Q : Exit → Act → World → Prop} {a : Act} {w : World} {L : List Oper} (hro : F.round = none) (hm : P.follows .mixedOrders = true) (hB : Region.lexB .any L.toArray = true) (ht : Tame L.toArray)
    (h : wpQuietIn F n P L.toArray (fun w' => ∃ n, w' = w.drewN n) (fun a' => ∀ w', (∃ n, w' = w.drewN n) → Q .normal a' w') L a) : (Code.region id L.toArray true).wpIn (F.inRound l) n P Q a w := by
  simp only [Region.lexB, Bool.and_eq_true] at hB
  refine wpIn_region_any hm (anyIn_round l ht _ _ _ _ (wpAnyIn_of_quiet (C := fun w' => ∃ n, w' = w.drewN n) (Q := fun a' => ∀ w', (∃ n, w' = w.drewN n) → Q .normal a' w') hro (fun _ w' hw' h => h w' hw') _ _ _ _ ⟨1, rfl⟩ ?_))
  have := wpAnyQIn_lex (F := F) (n := n) (C := fun w' => ∃ n, w' = w.drewN n) (md := .any) hB.1 L.toArray.toList 0 (Array.replicate L.toArray.size false) a (by simp) (by simpa using hB.2) (by simpa using h)
  simpa using this
theorem at_drewN {F : Fence} {n : Nat} {C : Code} {Q : Exit → Act → World → Prop} {a : Act} {w : World} (h : ∀ W9, Below w.heap.size w W9 → C.wpIn F n Tryz.prog Q a W9) (k : Nat) : C.wpIn F n Tryz.prog Q a (w.drewN k) := h _ (bDrewN (Below.refl _ _) k)
/-- a block's cells, in a row -/
def RwH (w : World) (g : Nat) (t : TypeId) (cs : Array Value) : Prop := w.heap[g]? = some (.cells cs t (0, 0))
set_option maxRecDepth 100000 in
set_option maxHeartbeats 8000000 in
theorem Zone_core (A A2 : Option Addr) (c c2 : Nat) (p : Pl) (r r2 m m2 : Nat) (L L2 : List S) (hx sx hy sy : Int) (w : World) (hP : PlAt w w.heap.size A c A2 c2 p) (h : RlOk p r L) (h2 : RlOk p r2 L2) (hm : L.length = m + 1) (hm2 : L2.length = m2 + 1) (hX : Pr hx sx) (hY : Pr hy sy) (hpx : (prB ⟨hx, sx⟩ && prB ⟨hy, sy⟩) = true)
    (hck : ∀ wx : World, PlAt wx wx.heap.size A c A2 c2 p → Calls Tryz.prog 48 #[.agg #[.slice A p.nodes.length c, .slice A2 p.rails.length c2]] wx fun e w' => e = .returned (.int .i64 0) ∧ Below wx.heap.size wx w')
    (hrt : ∀ wx : World, Calls Tryz.prog 66 #[.slice (some ⟨wx.heap.size, 0, none⟩) 2 2] (wx.alloc (.cells #[.int .i64 hx, .int .i64 sx, .int .i64 hy, .int .i64 sy] 46)) fun e w' => e = .returned (.bool true) ∧ Below (wx.heap.size + 1) (wx.alloc (.cells #[.int .i64 hx, .int .i64 sx, .int .i64 hy, .int .i64 sy] 46)) w') :
    Calls Tryz.prog 38 #[.agg #[.slice A p.nodes.length c, .slice A2 p.rails.length c2], .int .i64 (r : Int), .agg #[.int .i64 hx, .int .i64 sx], .int .i64 (r2 : Int), .agg #[.int .i64 hy, .int .i64 sy]] w fun e w' => ∃ v, e = .returned (.tuple #[v, .int .i64 0]) ∧ Own w' w.heap.size 79 3 fC v (zoneL r L (fun k => (alongL r2 L2).any fun y => foulB (stripAt r L k) y hx sx hy sy) m) ∧ Below w.heap.size w w' := by
  obtain ⟨i0, hi, hz0, hz1i, hz2⟩ := info_parts info79
  have hle := h.le; have hle2 := h2.le
  have HM := Lib.hid (show 1 ≤ m ∧ m ≤ 41 ∧ 1 ≤ m2 ∧ m2 ≤ 41 from by omega)
  have hb3 := (((Below.refl _ w).alloc (Nat.le_refl _) (.cells #[.slice A p.nodes.length c, .slice A2 p.rails.length c2] 25)).alloc (by simp) (.cells #[.int .i64 hx, .int .i64 sx] 46)).alloc (by simp; omega) (.cells #[.int .i64 hy, .int .i64 sy] 46)
  have hq1 : SW.RwH (((w.alloc (.cells #[.slice A p.nodes.length c, .slice A2 p.rails.length c2] 25)).alloc (.cells #[.int .i64 hx, .int .i64 sx] 46)).alloc (.cells #[.int .i64 hy, .int .i64 sy] 46)) w.heap.size 25 #[.slice A p.nodes.length c, .slice A2 p.rails.length c2] ∧ SW.RwH (((w.alloc (.cells #[.slice A p.nodes.length c, .slice A2 p.rails.length c2] 25)).alloc (.cells #[.int .i64 hx, .int .i64 sx] 46)).alloc (.cells #[.int .i64 hy, .int .i64 sy] 46)) (w.heap.size + 1) 46 #[.int .i64 hx, .int .i64 sx] ∧ SW.RwH (((w.alloc (.cells #[.slice A p.nodes.length c, .slice A2 p.rails.length c2] 25)).alloc (.cells #[.int .i64 hx, .int .i64 sx] 46)).alloc (.cells #[.int .i64 hy, .int .i64 sy] 46)) (w.heap.size + 1 + 1) 46 #[.int .i64 hy, .int .i64 sy] := by
    have x1 := World.alloc_heap_new w (.cells #[.slice A p.nodes.length c, .slice A2 p.rails.length c2] 25)
    have x2 := World.alloc_heap_new (w.alloc (.cells #[.slice A p.nodes.length c, .slice A2 p.rails.length c2] 25)) (.cells #[.int .i64 hx, .int .i64 sx] 46)
    have x3 := World.alloc_heap_new ((w.alloc (.cells #[.slice A p.nodes.length c, .slice A2 p.rails.length c2] 25)).alloc (.cells #[.int .i64 hx, .int .i64 sx] 46)) (.cells #[.int .i64 hy, .int .i64 sy] 46)
    rw [World.size_alloc] at x2
    rw [World.size_alloc, World.size_alloc] at x3
    exact ⟨(Below.heap_alloc _ _ _ (by simp; omega)).trans ((Below.heap_alloc _ _ _ (by simp)).trans x1), (Below.heap_alloc _ _ _ (by simp)).trans x2, x3⟩
  obtain ⟨q1, q2, q3⟩ := hq1
  have hz1 : (((w.alloc (.cells #[.slice A p.nodes.length c, .slice A2 p.rails.length c2] 25)).alloc (.cells #[.int .i64 hx, .int .i64 sx] 46)).alloc (.cells #[.int .i64 hy, .int .i64 sy] 46)).heap.size = w.heap.size + 3 := by simp
  obtain ⟨W1, hW1⟩ : ∃ z, (((w.alloc (.cells #[.slice A p.nodes.length c, .slice A2 p.rails.length c2] 25)).alloc (.cells #[.int .i64 hx, .int .i64 sx] 46)).alloc (.cells #[.int .i64 hy, .int .i64 sy] 46)) = z := ⟨_, rfl⟩
  rw [hW1] at hb3 q1 q2 q3 hz1
  have HB1 := Lib.hid hb3
  have HB0 := Lib.hid (Below.refl W1.heap.size W1)
  have HZ1 := Lib.hid hz1
  have HR := Lib.hid (show ∀ wx, Below W1.heap.size W1 wx → SW.RwH wx w.heap.size 25 #[.slice A p.nodes.length c, .slice A2 p.rails.length c2] ∧ SW.RwH wx (w.heap.size + 1) 46 #[.int .i64 hx, .int .i64 sx] ∧ SW.RwH wx (w.heap.size + 1 + 1) 46 #[.int .i64 hy, .int .i64 sy] from fun wx h => ⟨(h.block _ (by omega)).trans q1, (h.block _ (by omega)).trans q2, (h.block _ (by omega)).trans q3⟩)
  have HPB := Lib.hid (show ∀ wx, Below W1.heap.size W1 wx → PlAt wx wx.heap.size A c A2 c2 p from fun wx h => ((hP.below hb3).below (h.mono hb3.size)).more (Nat.le_trans hb3.size h.size))
  have HCK := Lib.hid (show ∀ wx, Below W1.heap.size W1 wx → Calls Tryz.prog 48 #[.agg #[.slice A p.nodes.length c, .slice A2 p.rails.length c2]] wx fun e w' => e = .returned (.int .i64 0) ∧ Below wx.heap.size wx w' from fun wx hw => hck wx (HPB.out wx hw))
  have HH1 := Lib.hid (show ∀ wx, Below W1.heap.size W1 wx → Calls Tryz.prog 49 #[.agg #[.slice A p.nodes.length c, .slice A2 p.rails.length c2], .int .i64 (r : Int)] wx fun e w' => e = .returned (.bool true) ∧ Below wx.heap.size wx w' from fun wx hw => by
    have := hasRail2_any A A2 c c2 p r wx (HPB.out wx hw)
    rwa [show railIn p (r : Int) = true from decide_eq_true ⟨by omega, by have := h.hr; omega⟩] at this)
  have HH2 := Lib.hid (show ∀ wx, Below W1.heap.size W1 wx → Calls Tryz.prog 49 #[.agg #[.slice A p.nodes.length c, .slice A2 p.rails.length c2], .int .i64 (r2 : Int)] wx fun e w' => e = .returned (.bool true) ∧ Below wx.heap.size wx w' from fun wx hw => by
    have := hasRail2_any A A2 c c2 p r2 wx (HPB.out wx hw)
    rwa [show railIn p (r2 : Int) = true from decide_eq_true ⟨by omega, by have := h2.hr; omega⟩] at this)
  have HRT := Lib.hid hrt
  have HA2 := Lib.hid (show ∀ wx, Below W1.heap.size W1 wx → Calls Tryz.prog 50 #[.agg #[.slice A p.nodes.length c, .slice A2 p.rails.length c2], .int .i64 (r2 : Int)] wx _ from fun wx hw => by
    have := along_any A A2 c c2 p r2 wx (HPB.out wx hw) h2.hr h2.h1 h2.h2 h2.hs (by rw [h2.eL]; exact h2.hR) (by rw [h2.eL]; exact h2.hok)
    rw [h2.eL] at this
    exact this)
  have HST := Lib.hid (show ∀ wx, Below W1.heap.size W1 wx → Calls Tryz.prog 74 #[.agg #[.slice A p.nodes.length c, .slice A2 p.rails.length c2], .int .i64 (r : Int)] wx _ from fun wx hw => by
    have := strips_any A A2 c c2 p r wx (HPB.out wx hw) h.hr h.h1 h.h2 h.hs
    rw [h.eL] at this
    exact this)
  have e0 : W1.cell? ⟨w.heap.size, 0, none⟩ = some (.slice A p.nodes.length c) := cell_of_row _ _ 0 _ _ _ q1
  have e1 : W1.cell? ⟨w.heap.size, 1, none⟩ = some (.slice A2 p.rails.length c2) := cell_of_row _ _ 1 _ _ _ q1
  clear hb3 q1 q2 q3 hP hz1
  refine (callsIn_wide (n := 8)).1 ?_
  refine callsIn_of_wp_marks Tryz.func38 rfl trivial ?_ rfl
  simp only [Tryz.ntmps38, List.size_toArray, List.length_cons, List.length_nil, Nat.reduceAdd, Nat.reduceSub, Array.replicate_succ, Array.replicate_zero, List.push_toArray, List.append_toArray, List.nil_append, List.cons_append]
  gi_wp2
  refine ⟨trivial, CallsIn.mono (callsIn_wide.2 (HCK.out _ HB0.out)) ?_⟩
  rintro e w2 ⟨rfl, hb2⟩
  have HB2 := Lib.hid hb2
  obtain ⟨r1, r2', r3⟩ := HR.out _ hb2
  have e0 : w2.cell? ⟨w.heap.size, 0, none⟩ = some (.slice A p.nodes.length c) := cell_of_row _ _ 0 _ _ _ r1
  have e1 : w2.cell? ⟨w.heap.size, 1, none⟩ = some (.slice A2 p.rails.length c2) := cell_of_row _ _ 1 _ _ _ r1
  clear hb2 r1 r2' r3 hW1
  gi_wp2
  refine ⟨trivial, CallsIn.mono (callsIn_wide.2 (HH1.out _ HB2.out)) ?_⟩
  rintro e w3 ⟨rfl, hb3⟩
  have HB3 := Lib.hid (HB2.out.trans (hb3.mono HB2.out.size))
  obtain ⟨r1, r2', r3⟩ := HR.out _ HB3.out
  have e0 : w3.cell? ⟨w.heap.size, 0, none⟩ = some (.slice A p.nodes.length c) := cell_of_row _ _ 0 _ _ _ r1
  have e1 : w3.cell? ⟨w.heap.size, 1, none⟩ = some (.slice A2 p.rails.length c2) := cell_of_row _ _ 1 _ _ _ r1
  clear hb3 r1 r2' r3
  gi_wp2
  refine ⟨trivial, CallsIn.mono (callsIn_wide.2 (HH2.out _ HB3.out)) ?_⟩
  rintro e w4 ⟨rfl, hb4⟩
  have HB4 := Lib.hid (HB3.out.trans (hb4.mono HB3.out.size))
  obtain ⟨r1, r2', r3⟩ := HR.out _ HB4.out
  have e2 : w4.cell? ⟨w.heap.size + 1, 0, none⟩ = some (.int .i64 hx) := cell_of_row _ _ 0 _ _ _ r2'
  have e3 : w4.cell? ⟨w.heap.size + 1, 1, none⟩ = some (.int .i64 sx) := cell_of_row _ _ 1 _ _ _ r2'
  have e4 : w4.cell? ⟨w.heap.size + 1 + 1, 0, none⟩ = some (.int .i64 hy) := cell_of_row _ _ 0 _ _ _ r3
  have e5 : w4.cell? ⟨w.heap.size + 1 + 1, 1, none⟩ = some (.int .i64 sy) := cell_of_row _ _ 1 _ _ _ r3
  clear hb4 r1 r2' r3 e0 e1
  gi_wp2
  refine ⟨trivial, CallsIn.mono (callsIn_wide.2 (HRT.out _)) ?_⟩
  rintro e w5 ⟨rfl, hb5⟩
  have HB5 := Lib.hid ((HB4.out.alloc HB4.out.size _).trans (hb5.mono (by have := HB4.out.size; omega)))
  obtain ⟨r1, r2', r3⟩ := HR.out _ HB5.out
  have e0 : w5.cell? ⟨w.heap.size, 0, none⟩ = some (.slice A p.nodes.length c) := cell_of_row _ _ 0 _ _ _ r1
  have e1 : w5.cell? ⟨w.heap.size, 1, none⟩ = some (.slice A2 p.rails.length c2) := cell_of_row _ _ 1 _ _ _ r1
  clear hb5 r1 r2' r3 e2 e3 e4 e5
  gi_wp2
  refine ⟨trivial, CallsIn.mono (callsIn_wide.2 (HA2.out _ HB5.out)) ?_⟩
  rintro e w6 ⟨va, ys, rfl, hys, hoa, hsa, hb6⟩
  have HB6 := Lib.hid (HB5.out.trans (hb6.mono HB5.out.size))
  have HYS := Lib.hid hys; have HOA := Lib.hid hoa; have HSA := Lib.hid hsa
  obtain ⟨Aa, ca, rfl, _, _, _⟩ := hoa.form
  obtain ⟨r1, r2', r3⟩ := HR.out _ HB6.out
  have e0 : w6.cell? ⟨w.heap.size, 0, none⟩ = some (.slice A p.nodes.length c) := cell_of_row _ _ 0 _ _ _ r1
  have e1 : w6.cell? ⟨w.heap.size, 1, none⟩ = some (.slice A2 p.rails.length c2) := cell_of_row _ _ 1 _ _ _ r1
  obtain ⟨n2, hn2⟩ : ∃ z, ys.length = z := ⟨_, rfl⟩
  have HN2 := Lib.hid hn2
  rw [hn2]
  have hb7 := (HB6.out.alloc HB6.out.size (.cells #[.slice Aa n2 ca] 95)).alloc (by have := HB6.out.size; simp; omega) (.cells #[.slice none 0 0] 69)
  have x1 := World.alloc_heap_new w6 (.cells #[.slice Aa n2 ca] 95)
  have x2 := World.alloc_heap_new (w6.alloc (.cells #[.slice Aa n2 ca] 95)) (.cells #[.slice none 0 0] 69)
  rw [World.size_alloc] at x2
  have hz7 : ((w6.alloc (.cells #[.slice Aa n2 ca] 95)).alloc (.cells #[.slice none 0 0] 69)).heap.size = w6.heap.size + 2 := by simp
  have x3 := (Below.heap_alloc (w6.alloc (.cells #[.slice Aa n2 ca] 95)) (.cells #[.slice none 0 0] 69) w6.heap.size (by simp)).trans x1
  have hb67 := ((Below.refl w6.heap.size w6).alloc (Nat.le_refl _) (.cells #[.slice Aa n2 ca] 95)).alloc (by simp) (.cells #[.slice none 0 0] 69)
  obtain ⟨W7, hW7⟩ : ∃ z, (w6.alloc (.cells #[.slice Aa n2 ca] 95)).alloc (.cells #[.slice none 0 0] 69) = z := ⟨_, rfl⟩
  rw [hW7] at hb7 x2 x3 hz7 hb67
  have HB7 := Lib.hid hb7; have HX2 := Lib.hid x2; have HX3 := Lib.hid x3; have HZ7 := Lib.hid hz7; have HB67 := Lib.hid hb67
  obtain ⟨r1, r2', r3⟩ := HR.out _ HB7.out
  have e0 : W7.cell? ⟨w.heap.size, 0, none⟩ = some (.slice A p.nodes.length c) := cell_of_row _ _ 0 _ _ _ r1
  have e1 : W7.cell? ⟨w.heap.size, 1, none⟩ = some (.slice A2 p.rails.length c2) := cell_of_row _ _ 1 _ _ _ r1
  clear hb6 r1 r2' r3 hys hoa hsa x1 x2 x3 hz7 hb7 hb67 hn2
  gi_wp2
  refine ⟨trivial, CallsIn.mono (callsIn_wide.2 (HST.out _ HB7.out)) ?_⟩
  rintro e w1 ⟨v, k, rfl, hk1, hk2, ho, hb1, hk3, hvk⟩
  have hne : L ≠ [] := by intro e; rw [e] at hm; simp at hm
  obtain ⟨A', c', rfl, _, _, _⟩ := ho.form
  have hsl := ho.sl fS_len rfl
  obtain ⟨b0, o0, rfl, hb0, _⟩ := hsl hne
  have hz1 := hb1.size
  have hz7 := HZ7.out
  obtain ⟨nb, hnbe⟩ : ∃ z, w6.heap.size + 1 = z := ⟨_, rfl⟩
  have hnb : w1.heap[nb]? = some (.cells #[.slice none 0 0] 69 (0, 0)) := by rw [← hnbe]; exact (hb1.block _ (by omega)).trans HX2.out
  have ht := tch_oneT hnb
  have ht' : ∀ j, Tch nb nb w1 j → j = nb := fun j hj => by
    rcases ht j hj with h | h
    · exact h
    · cases h
  have hkl := World.block_lt_of_cell? _ _ hk1
  have hSt : StAt nb k (W7.heap.size + 1) (some ⟨b0, o0, none⟩) c' r L w1 := ⟨hk1, hk2, hsl, fun h => by have := ht' _ h; omega, fun h => by have := ht' _ h; omega, fun a ha h => by
    have h2 := ht' _ h
    cases ha
    have := (ho.lt b0 rfl).1
    simp at h2
    omega, fun j hj => by have := ht' _ hj; omega⟩
  have hseq := strips_seq2 7 (by omega) nb k (W7.heap.size + 1) b0 o0 c' r L.length L w1 hSt rfl (by omega) (by omega) h.hR h.hok
  have HSQ := Lib.hid hseq
  clear hseq hSt
  obtain ⟨fo, hfo⟩ : ∃ fo : Swp → Bool, fo = (fun x => (alongL r2 L2).any fun y => foulB x y hx sx hy sy) := ⟨_, rfl⟩
  have hZI : ZI fo nb w1.heap.size w1 [] w1 := ⟨⟨_, hnb, Own.nil _ _ _ _ _, ht⟩, Below.refl _ _, Nat.le_refl _, by omega⟩
  have HB1w := Lib.hid (HB7.out.trans (hb1.mono HB7.out.size))
  have HB6w := Lib.hid (HB67.out.trans (hb1.mono (by omega)))
  have HNB := Lib.hid (show nb = w6.heap.size + 1 ∧ nb < w1.heap.size ∧ w.heap.size + 3 ≤ w6.heap.size from ⟨hnbe.symm, by omega, by have := HZ1.out; have := HB6.out.size; omega⟩)
  have HT2 := Lib.hid (show w1.heap[w6.heap.size]? = some (.cells #[.slice Aa n2 ca] 95 (0, 0)) from (hb1.block _ (by omega)).trans HX3.out)
  rw [hnbe]
  have HFO := Lib.hid (show ∀ x : SwM, (ys.any fun y => foulB x.s y.s hx sx hy sy) = fo x.s from fun x => by rw [hfo, ← HYS.out]; show _ = ((ys.map (·.s)).any fun y => foulB x.s y hx sx hy sy); rw [List.any_map]; rfl)
  have HFO2 := Lib.hid hfo
  have HZW := Lib.hid (show nb < w1.heap.size ∧ nb ≤ w1.heap.size from by omega)
  clear hz7 hnbe hz1 hfo
  gi_wp2
  refine wpIn_rangeD (α := SwM) (w0 := w1) (Kp := KT nb nb) (D := fun x W => DSw nb x W ∧ x.s ∈ alongL r L) (S := fun xs => xs.map (·.s) = alongL r L) (N := L.length - 1) (gf := 98) (lb := #[.pointer (some ⟨k, 0, none⟩), .pointer (some ⟨W7.heap.size + 1, 0, none⟩)]) rfl (by omega) rfl trivial (enters_of Tryz.func98 (by kernel_rfl) rfl) HSQ.out (fun h k => kt_t h k) (kt_b (by have := HZW.out; omega) (by have := HZW.out; omega)) (Below.refl _ _) (fun _ => rfl) (ZI fo nb w1.heap.size w1) (ZI.own HZW.out.2 HZW.out.2) hZI (ZB fo (· ∈ alongL r L) (w.heap.size + 1) (w.heap.size + 1 + 1) w6.heap.size nb w1.heap.size w1) (ZB.own HZW.out.2 HZW.out.2) ?assign ?body ?done
  case assign =>
    intro l pre x W K hI hd hlen hK
    have hbe := (Below.refl W.heap.size W).alloc (Nat.le_refl _) (.cells (fSw x).toArray 98)
    have hnw := World.alloc_heap_new W (.cells (fSw x).toArray 98)
    have HH := Lib.hid (And.intro hI (And.intro hd (And.intro hK (And.intro hbe hnw))))
    clear hI hd hK hbe hnw
    simp only [fSw] at *
    gi_wp2
    obtain ⟨hI, hd, hK, hbe, hnw⟩ := HH.out
    have hnW : nb < W.heap.size := by have := hI.sz; omega
    have hkt : KT nb nb W (W.alloc _) := KT.of_below hbe (Nat.le_refl _) hnW hnW
    refine hK _ _ (KeepsOthers.alloc _ _) hkt ⟨hI.below hbe, ⟨hd.1.keep hkt, hd.2⟩, W.heap.size, hnw, fun h => ?_, rfl⟩
    obtain ⟨v, hv, ho, ht⟩ := hI.ex
    have hcl : ∀ i, (W.alloc (.cells (fSw x).toArray 98)).cell? ⟨nb, i, none⟩ = W.cell? ⟨nb, i, none⟩ := fun i => World.cell?_of_block (hbe.block nb hnW)
    rcases ht _ (Tch.of_cells hcl hcl h) with e | e
    · omega
    · have := (ho.lt _ e).2; omega
  case body =>
    rintro l pre x a1 W ⟨ha, ⟨hd, hp⟩, xb, hxb, hnt, he⟩ hlen
    obtain ⟨u, rfl⟩ : ∃ u, a1 = FZ (w.heap.size + 1) (w.heap.size + 1 + 1) w6.heap.size xb nb u := ⟨_, he⟩
    clear he
    replace ha : ZI fo nb w1.heap.size w1 pre W := ha
    replace hd : DSw nb x W := hd
    replace hp : x.s ∈ alongL r L := hp
    replace hxb : W.heap[xb]? = some (.cells (fSw x).toArray 98 (0, 0)) := hxb
    have hB1 := HB1w.out.trans (ha.bl.mono (by have := HNB.out; have := HZ1.out; omega))
    have hB6 := HB6w.out.trans (ha.bl.mono (by have := HNB.out; omega))
    obtain ⟨_, r2', r3⟩ := HR.out _ hB1
    have c2' : W.cell? ⟨w.heap.size + 1, 0, none⟩ = some (.int .i64 hx) := cell_of_row _ _ 0 _ _ _ r2'
    have c3 : W.cell? ⟨w.heap.size + 1, 1, none⟩ = some (.int .i64 sx) := cell_of_row _ _ 1 _ _ _ r2'
    have c4 : W.cell? ⟨w.heap.size + 1 + 1, 0, none⟩ = some (.int .i64 hy) := cell_of_row _ _ 0 _ _ _ r3
    have c5 : W.cell? ⟨w.heap.size + 1 + 1, 1, none⟩ = some (.int .i64 sy) := cell_of_row _ _ 1 _ _ _ r3
    have c6 : W.cell? ⟨w6.heap.size, 0, none⟩ = some (.slice Aa n2 ca) := cell_of_row _ _ 0 _ _ _ ((ha.bl.block _ (by have := HNB.out; omega)).trans HT2.out)
    have hxs : ∀ i q, (fSw x)[i]? = some q → W.cell? ⟨xb, i, none⟩ = some q := fun i q h => (cell_of_row _ _ i _ _ _ hxb).trans (by simpa using h)
    have d0 := hxs 0 _ rfl
    have d1 := hxs 1 _ rfl
    have d2 := hxs 2 _ rfl
    have d3 := hxs 3 _ rfl
    have d4 := hxs 4 _ rfl
    have d5 := hxs 5 _ rfl
    have d6 := hxs 6 _ rfl
    have d7 := hxs 7 _ rfl
    have d8 := hxs 8 _ rfl
    have d9 := hxs 9 _ rfl
    have d10 := hxs 10 _ rfl
    have d11 := hxs 11 _ rfl
    have d12 := hxs 12 _ rfl
    have hmem := List.mem_map.1 hp
    obtain ⟨jj, hjj, hjs⟩ := hmem
    have hjl : jj < L.length - 1 := List.mem_range.1 hjj
    have hsw : SwIn W x := ⟨by rw [← hjs]; exact stripAt_ok h.hR h.hok (by omega), hd.sl, by
      rw [← hjs]
      have e1 := bendAt_len L jj
      have e2 := bendAt_len L (jj + 1)
      simp only [stripAt, List.length_append]
      omega⟩
    have hf := foulSome_any x Aa ca n2 hx sx hy sy ys W HN2.out (by have := HN2.out; have h1 := congrArg List.length HYS.out; rw [List.length_map, alongL_len] at h1; omega) hX hY hsw (fun y hy => ((HSA.out y hy).1).below hB6) ((HOA.out.below hB6 (Nat.le_refl _)).sl fSw_len (by rw [HN2.out]))
    rw [HFO.out, show (fSw x).toArray = #[.int .i64 x.s.rail, .int .i64 x.s.seg, .int .i64 x.s.a.x, .int .i64 x.s.a.y, .int .i64 x.s.b.x, .int .i64 x.s.b.y, .int .i64 x.s.bg, .int .i64 x.s.en, .slice x.A x.s.bends.length x.c, .int .i64 (min x.s.a.x x.s.b.x), .int .i64 (min x.s.a.y x.s.b.y), .int .i64 (max x.s.a.x x.s.b.x), .int .i64 (max x.s.a.y x.s.b.y)] from rfl] at hf
    have HF := Lib.hid hf
    have HH := Lib.hid (And.intro ha (And.intro hd (And.intro hp (And.intro hxb hnt))))
    have HXR := Lib.hid (show x.s.rail = (r : Int) from by rw [← hjs]; rfl)
    have HLN := Lib.hid hlen
    clear hB1 r2' r3 hjj hjs hjl hsw hf ha hd hp hxb hnt hxs hlen hB6
    simp only [FZ]
    gi_wp2
    refine ⟨trivial, CallsIn.mono (CallsIn.inRound l (callsIn_wide.2 HF.out)) ?_⟩
    rintro e w8 ⟨rfl, hb8⟩
    have hI8 := HH.out.1.below hb8
    have hnW : nb < W.heap.size := by have := HH.out.1.sz; omega
    have HK8 := Lib.hid (And.intro (keeps_below hb8 (Nat.le_refl _)) (KT.of_below hb8 (Nat.le_refl _) hnW hnW))
    have hxb8 := (hb8.block xb (Array.getElem?_eq_some_iff.1 HH.out.2.2.2.1).1).trans HH.out.2.2.2.1
    have hnt8 : ¬ Tch nb nb w8 xb := fun h => HH.out.2.2.2.2 (Tch.of_cells (fun i => World.cell?_of_block (hb8.block nb hnW)) (fun i => World.cell?_of_block (hb8.block nb hnW)) h)
    have HI8 := Lib.hid hI8
    have HXB := Lib.hid (And.intro hxb8 hnt8)
    clear c2' c3 c4 c5 c6 d0 d1 d2 d3 d4 d5 d6 d7 d8 d9 d10 d11 d12 hI8 hb8
    cases hq : fo x.s with
    | false =>
      have HE := Lib.hid (show zfold fo (pre ++ [x]) = zfold fo pre from by rw [zfold_snoc, hq]; rfl)
      clear hq
      gi_wp2
      exact ⟨HK8.out.1, HK8.out.2, HI8.out.same HE.out⟩
    | true =>
      have HE := Lib.hid (show zfold fo (pre ++ [x]) = zput (zfold fo pre) x.s.rail x.s.bg x.s.en from by rw [zfold_snoc, hq]; rfl)
      clear hq
      obtain ⟨v, hv, hown, htc⟩ := HI8.out.ex
      have hxs : ∀ i q, (fSw x)[i]? = some q → w8.cell? ⟨xb, i, none⟩ = some q := fun i q h => (cell_of_row _ _ i _ _ _ hxb8).trans (by simpa using h)
      have d0 : w8.cell? ⟨xb, 0, none⟩ = some (.int .i64 x.s.rail) := hxs 0 _ rfl
      have d6 := hxs 6 _ rfl
      have d7 := hxs 7 _ rfl
      have b5 : w8.cell? ⟨nb, 0, none⟩ = some v := cell_of_row _ _ 0 _ _ _ hv
      have f5 : w8.frozen? ⟨nb, 0, none⟩ = false := frozen_of_row _ _ 0 _ _ hv
      obtain ⟨Av, cv, rfl, hc1, hc2, _⟩ := hown.form
      have HOW := Lib.hid hown
      have HVT := Lib.hid (And.intro hv htc)
      have HZL := Lib.hid (zfold_len fo pre)
      obtain ⟨rl, hrl⟩ : ∃ z, x.s.rail = z := ⟨_, rfl⟩
      obtain ⟨f0, hf0⟩ : ∃ z, x.s.bg = z := ⟨_, rfl⟩
      obtain ⟨f1, hf1⟩ : ∃ z, x.s.en = z := ⟨_, rfl⟩
      rw [hrl, hf0, hf1] at HE
      rw [hrl] at d0
      rw [hf0] at d6
      rw [hf1] at d7
      have HRF := Lib.hid (show x.s.rail = rl ∧ x.s.bg = f0 ∧ x.s.en = f1 from ⟨hrl, hf0, hf1⟩)
      clear hv htc hxs hxb8 hnt8 hrl hf0 hf1 hown
      obtain ⟨acc, hacc⟩ : ∃ z, zfold fo pre = z := ⟨_, rfl⟩
      rw [hacc] at HE HOW HZL HVT b5 hc1
      have HQC := Lib.hid hacc
      clear hacc
      rcases List.eq_nil_or_concat acc with rfl | ⟨l', y, eac⟩
      · have HZ := Lib.hid (show zfold fo (pre ++ [x]) = [] ++ [(⟨rl, f0, f1⟩ : C3)] from by rw [HE.out, zput_nil]; rfl)
        gi_wp2
        refine wpIn_quiet_round rfl (by kernel_rfl) (by kernel_rfl) (tame_of (by kernel_rfl)) ?_
        repeat (gi_big_quiet_step (fail))
        refine wpQuietIn_nil ?_
        intro _ hw'
        obtain ⟨nq, hw''⟩ := hw'
        subst hw''
        obtain ⟨W9, hb9, hW9⟩ : ∃ W9, Below w8.heap.size w8 W9 ∧ w8.drewN nq = W9 := ⟨_, bDrewN (Below.refl _ _) _, rfl⟩
        rw [hW9]
        clear hW9
        have hn8 : nb < w8.heap.size := by have := HI8.out.sz; omega
        have hx8 := (Array.getElem?_eq_some_iff.1 HXB.out.1).1
        have hI9 := HI8.out.below hb9
        have hv9 := (hb9.block nb hn8).trans HVT.out.1
        have ht9 := tch_oneT hv9
        have hx9 := (hb9.block xb hx8).trans HXB.out.1
        have ho9 := HOW.out.below hb9 (Nat.le_refl _)
        have HK9 := Lib.hid (And.intro (HK8.out.1.trans (keeps_below hb9 (Nat.le_refl _))) (HK8.out.2.trans (KT.of_below hb9 (Nat.le_refl _) hn8 hn8)))
        have hxs : ∀ i q, (fSw x)[i]? = some q → W9.cell? ⟨xb, i, none⟩ = some q := fun i q h => (cell_of_row _ _ i _ _ _ hx9).trans (by simpa using h)
        have d0 : W9.cell? ⟨xb, 0, none⟩ = some (.int .i64 rl) := by rw [← HRF.out.1]; exact hxs 0 _ rfl
        have d6 : W9.cell? ⟨xb, 6, none⟩ = some (.int .i64 f0) := by rw [← HRF.out.2.1]; exact hxs 6 _ rfl
        have d7 : W9.cell? ⟨xb, 7, none⟩ = some (.int .i64 f1) := by rw [← HRF.out.2.2]; exact hxs 7 _ rfl
        have b5 := cell_of_row _ _ 0 _ _ _ hv9
        have f5 : W9.frozen? ⟨nb, 0, none⟩ = false := frozen_of_row _ _ 0 _ _ hv9
        have hn9 : nb < W9.heap.size := by have := hb9.size; omega
        have hb99 : w1.heap.size ≤ W9.heap.size := hI9.sz.1
        have hnw1 := HZW.out.1
        have HG9 := Lib.hid (And.intro hI9 (And.intro hv9 (And.intro ht9 ho9)))
        have hnw := fun i => cell_new1 W9 #[.int .i64 rl, .int .i64 f0, .int .i64 f1] 79 i
        have HNW := Lib.hid hnw
        clear hI9 hv9 ht9 hx9 ho9 hb9 hxs hnw hx8 hn8
        gi_wp2_with (gi_at_builtin; go_must (refine wpListIn_append_own_at _ rfl _ _ 69 rfl w1.heap.size 79 i0 _ 3 24 Tryz.underlying69 hi hz0 hz1i hz2 rfl (by omega) (.slice Av 0 cv) 0 _ rfl (HG9.out.2.2.2.alloc _) ⟨W9.heap.size, 0, none⟩ 1 1 (fC ⟨rl, f0, f1⟩) rfl rfl ?hc (fC_one _) (by unfold maxLen; omega) (by omega) (by rw [World.size_alloc]; omega) ?_)
                     rotate_left
                     intro v' w4 hown' hgrow hnil hw'
                     have hoo : Own w4 w1.heap.size 79 3 fC v' ([] ++ [(⟨rl, f0, f1⟩ : C3)]) := by
                       have h1 := hown'
                       unfold Own
                       rw [List.length_append, List.flatMap_append]
                       exact h1
                     have HP := Lib.hid (ZI.push (o := .cells #[.int .i64 rl, .int .i64 f0, .int .i64 f1] 79) (x := x) HG9.out.1 HG9.out.2.1 (by rw [HQC.out]; exact HG9.out.2.2.2) HG9.out.2.2.1 hgrow (by rw [HZ.out]; exact hoo) hw')
                     have hnr : some nb ≠ (Value.slice Av 0 cv).ownBlock := fun e => by have := (HG9.out.2.2.2.lt nb e.symm).1; omega
                     have h4 : w4.heap[nb]? = some (.cells #[.slice Av 0 cv] 69 (0, 0)) := ((hgrow.block _ (by simp; omega) hnr).trans (Below.heap_alloc _ _ _ hn9)).trans HG9.out.2.1
                     have b5' : w4.cell? ⟨nb, 0, none⟩ = some (.slice Av 0 cv) := cell_of_row _ _ 0 _ _ _ h4
                     have f5' : w4.frozen? ⟨nb, 0, none⟩ = false := frozen_of_row _ _ 0 _ _ h4
                     obtain ⟨Av2, cv2, rfl, _, _, _⟩ := hoo.form
                     obtain ⟨np2, hnp2⟩ : ∃ z, ([] ++ [(⟨rl, f0, f1⟩ : C3)]).length = z := ⟨_, rfl⟩
                     rw [hnp2] at HP ⊢
                     clear hown' hgrow hnil hw' hoo hnr h4 hnp2 b5 f5)
        case hc =>
          intro j u hu
          rw [add_lit]
          refine ((HNW.out (0 + j)).trans ?_)
          simpa [fC] using hu
        exact ⟨HK9.out.1.trans HP.out.1, HK9.out.2.trans HP.out.2.1, HP.out.2.2⟩
      · rw [List.concat_eq_append] at eac
        subst eac
        obtain ⟨g, rfl⟩ : ∃ g, Av = some ⟨g, 0, none⟩ := by
          rcases HOW.out.2 with ⟨h, _⟩ | ⟨g, cap, cur, h, _⟩
          · simp at h
          · simp only [Value.slice.injEq] at h
            exact ⟨g, h.1⟩
        obtain ⟨n, hn⟩ : ∃ n, l'.length = n := ⟨_, rfl⟩
        have hn1 : (l' ++ [y]).length = n + 1 := by simp [hn]
        have HNL := Lib.hid hn; have HN1 := Lib.hid hn1
        rw [hn1] at HVT b5 hc1
        have hpl : n ≤ 41 := by have h1 := HZL.out; rw [hn1] at h1; have h2 := HLN.out; have h3 := HM.out; omega
        have HOW2 := Lib.hid (show Own w8 w1.heap.size 79 3 fC (.slice (some ⟨g, 0, none⟩) (n + 1) cv) (l' ++ [y]) from by rw [← hn1]; exact HOW.out)
        have hto : w8.cell? ⟨g, n * 3 + 2, none⟩ = some (.int .i64 y.to) := by
          obtain ⟨b', o', cs, eA, hbb, hcc, hc⟩ := (HOW.out.sl fC_len rfl).at_ (i := n) (by omega)
          obtain ⟨rfl, rfl⟩ : g = b' ∧ 0 = o' := by simpa using eA
          subst hcc
          have := hc 2 (.int .i64 y.to) (by simp [List.getElem_append_right, hn, fC])
          simpa using this
        have wn : IntKind.i64.wrap (((n + 1 : Nat) : Int) - 1) = (n : Int) := by rw [IntKind.wrap_i64]; omega
        have wn2 : IntKind.i64.wrap ((n : Int) + 1 - 1) = (n : Int) := by rw [IntKind.wrap_i64]; omega
        have n0 : (0 : Int) ≤ (n : Int) := by omega
        have n1 : (n : Int) < ((n + 1 : Nat) : Int) := by omega
        have n2 : (0 : Int) < ((n + 1 : Nat) : Int) := by omega
        have n3 : (n : Int) < (n : Int) + 1 := by omega
        have n4 : (0 : Int) < (n : Int) + 1 := by omega
        clear hn hn1
        by_cases hye : y.to = f0
        · have HZ := Lib.hid (show zfold fo (pre ++ [x]) = l' ++ [(⟨y.rail, y.frm, f1⟩ : C3)] from by rw [HE.out, zput_snoc, if_pos hye])
          gi_wp2
          refine wpIn_quiet_round rfl (by kernel_rfl) (by kernel_rfl) (tame_of (by kernel_rfl)) ?_
          repeat (gi_big_quiet_step (fail))
          refine wpQuietIn_nil ?_
          intro _ hw'
          obtain ⟨nq, hw''⟩ := hw'
          subst hw''
          obtain ⟨W9, hb9, hW9⟩ : ∃ W9, Below w8.heap.size w8 W9 ∧ w8.drewN nq = W9 := ⟨_, bDrewN (Below.refl _ _) _, rfl⟩
          rw [hW9]
          clear hW9
          have hn8 : nb < w8.heap.size := by have := HI8.out.sz; omega
          have hx8 := (Array.getElem?_eq_some_iff.1 HXB.out.1).1
          have hI9 := HI8.out.below hb9
          have hv9 := (hb9.block nb hn8).trans HVT.out.1
          have ht9 := tch_oneT hv9
          have hx9 := (hb9.block xb hx8).trans HXB.out.1
          have ho9 := HOW2.out.below hb9 (Nat.le_refl _)
          have HK9 := Lib.hid (And.intro (HK8.out.1.trans (keeps_below hb9 (Nat.le_refl _))) (HK8.out.2.trans (KT.of_below hb9 (Nat.le_refl _) hn8 hn8)))
          have hxs : ∀ i q, (fSw x)[i]? = some q → W9.cell? ⟨xb, i, none⟩ = some q := fun i q h => (cell_of_row _ _ i _ _ _ hx9).trans (by simpa using h)
          have d0 : W9.cell? ⟨xb, 0, none⟩ = some (.int .i64 rl) := by rw [← HRF.out.1]; exact hxs 0 _ rfl
          have d6 : W9.cell? ⟨xb, 6, none⟩ = some (.int .i64 f0) := by rw [← HRF.out.2.1]; exact hxs 6 _ rfl
          have d7 : W9.cell? ⟨xb, 7, none⟩ = some (.int .i64 f1) := by rw [← HRF.out.2.2]; exact hxs 7 _ rfl
          have b5 := cell_of_row _ _ 0 _ _ _ hv9
          have f5 : W9.frozen? ⟨nb, 0, none⟩ = false := frozen_of_row _ _ 0 _ _ hv9
          have hn9 : nb < W9.heap.size := by have := hb9.size; omega
          have hb99 : w1.heap.size ≤ W9.heap.size := hI9.sz.1
          have hnw1 := HZW.out.1
          have hgl := ho9.lt g rfl
          have hto9 : W9.cell? ⟨g, n * 3 + 2, none⟩ = some (.int .i64 y.to) := (World.cell?_of_block (a := ⟨g, n * 3 + 2, none⟩) (hb9.block g (HOW.out.lt g rfl).2)).trans hto
          have hfz : W9.frozen? ⟨g, n * 3 + 2, none⟩ = false := by
            have := ho9
            unfold Own at this
            rw [HN1.out] at this
            exact World.ownsRow.frozenAt this (n * 3 + 2)
          have HP := Lib.hid (ZI.store (x := x) f1 hI9 hv9 ho9 HNL.out HZ.out)
          have hgs : g < W9.heap.size := hgl.2
          clear hI9 hv9 ht9 hx9 ho9 hb9 hxs hx8 hn8 hto hgl
          gi_wp2
          exact ⟨HK9.out.1.trans HP.out.1, HK9.out.2.trans HP.out.2.1, HP.out.2.2⟩
        · have HZ := Lib.hid (show zfold fo (pre ++ [x]) = (l' ++ [y]) ++ [(⟨rl, f0, f1⟩ : C3)] from by rw [HE.out, zput_snoc, if_neg hye])
          gi_wp2
          refine wpIn_quiet_round rfl (by kernel_rfl) (by kernel_rfl) (tame_of (by kernel_rfl)) ?_
          repeat (gi_big_quiet_step (fail))
          refine wpQuietIn_nil ?_
          intro _ hw'
          obtain ⟨nq, hw''⟩ := hw'
          subst hw''
          obtain ⟨W9, hb9, hW9⟩ : ∃ W9, Below w8.heap.size w8 W9 ∧ w8.drewN nq = W9 := ⟨_, bDrewN (Below.refl _ _) _, rfl⟩
          rw [hW9]
          clear hW9
          have hn8 : nb < w8.heap.size := by have := HI8.out.sz; omega
          have hx8 := (Array.getElem?_eq_some_iff.1 HXB.out.1).1
          have hI9 := HI8.out.below hb9
          have hv9 := (hb9.block nb hn8).trans HVT.out.1
          have ht9 := tch_oneT hv9
          have hx9 := (hb9.block xb hx8).trans HXB.out.1
          have ho9 := HOW2.out.below hb9 (Nat.le_refl _)
          have HK9 := Lib.hid (And.intro (HK8.out.1.trans (keeps_below hb9 (Nat.le_refl _))) (HK8.out.2.trans (KT.of_below hb9 (Nat.le_refl _) hn8 hn8)))
          have hxs : ∀ i q, (fSw x)[i]? = some q → W9.cell? ⟨xb, i, none⟩ = some q := fun i q h => (cell_of_row _ _ i _ _ _ hx9).trans (by simpa using h)
          have d0 : W9.cell? ⟨xb, 0, none⟩ = some (.int .i64 rl) := by rw [← HRF.out.1]; exact hxs 0 _ rfl
          have d6 : W9.cell? ⟨xb, 6, none⟩ = some (.int .i64 f0) := by rw [← HRF.out.2.1]; exact hxs 6 _ rfl
          have d7 : W9.cell? ⟨xb, 7, none⟩ = some (.int .i64 f1) := by rw [← HRF.out.2.2]; exact hxs 7 _ rfl
          have b5 := cell_of_row _ _ 0 _ _ _ hv9
          have f5 : W9.frozen? ⟨nb, 0, none⟩ = false := frozen_of_row _ _ 0 _ _ hv9
          have hn9 : nb < W9.heap.size := by have := hb9.size; omega
          have hb99 : w1.heap.size ≤ W9.heap.size := hI9.sz.1
          have hnw1 := HZW.out.1
          have HG9 := Lib.hid (And.intro hI9 (And.intro hv9 (And.intro ht9 ho9)))
          have hnw := fun i => cell_new1 W9 #[.int .i64 rl, .int .i64 f0, .int .i64 f1] 79 i
          have HNW := Lib.hid hnw
          clear hI9 hv9 ht9 hx9 ho9 hb9 hxs hnw hx8 hn8 hto
          gi_wp2_with (gi_at_builtin; go_must (refine wpListIn_append_own_at _ rfl _ _ 69 rfl w1.heap.size 79 i0 _ 3 24 Tryz.underlying69 hi hz0 hz1i hz2 rfl (by omega) (.slice (some ⟨g, 0, none⟩) (n + 1) cv) (n + 1) _ rfl (by have := HG9.out.2.2.2.alloc (.cells #[.int .i64 rl, .int .i64 f0, .int .i64 f1] 79); unfold Own at this; rw [HN1.out] at this; exact this) ⟨W9.heap.size, 0, none⟩ 1 1 (fC ⟨rl, f0, f1⟩) rfl rfl ?hc (fC_one _) (by unfold maxLen; omega) (by omega) (by rw [World.size_alloc]; omega) ?_)
                       rotate_left
                       intro v' w4 hown' hgrow hnil hw'
                       have hoo : Own w4 w1.heap.size 79 3 fC v' ((l' ++ [y]) ++ [(⟨rl, f0, f1⟩ : C3)]) := by
                         have h1 := hown'
                         unfold Own
                         rw [List.length_append, List.flatMap_append]
                         rw [HN1.out]; exact h1
                       have HP := Lib.hid (ZI.push (o := .cells #[.int .i64 rl, .int .i64 f0, .int .i64 f1] 79) (x := x) HG9.out.1 HG9.out.2.1 (by rw [HQC.out]; exact HG9.out.2.2.2) HG9.out.2.2.1 hgrow (by rw [HZ.out]; exact hoo) hw')
                       have hnr : some nb ≠ (Value.slice (some ⟨g, 0, none⟩) (n + 1) cv).ownBlock := fun e => by have := (HG9.out.2.2.2.lt nb e.symm).1; omega
                       have h4 : w4.heap[nb]? = some (.cells #[.slice (some ⟨g, 0, none⟩) (n + 1) cv] 69 (0, 0)) := ((hgrow.block _ (by simp; omega) hnr).trans (Below.heap_alloc _ _ _ hn9)).trans HG9.out.2.1
                       have b5' : w4.cell? ⟨nb, 0, none⟩ = some (.slice (some ⟨g, 0, none⟩) (n + 1) cv) := cell_of_row _ _ 0 _ _ _ h4
                       have f5' : w4.frozen? ⟨nb, 0, none⟩ = false := frozen_of_row _ _ 0 _ _ h4
                       obtain ⟨Av2, cv2, rfl, _, _, _⟩ := hoo.form
                       obtain ⟨np2, hnp2⟩ : ∃ z, ((l' ++ [y]) ++ [(⟨rl, f0, f1⟩ : C3)]).length = z := ⟨_, rfl⟩
                       rw [hnp2] at HP ⊢
                       clear hown' hgrow hnil hw' hoo hnr h4 hnp2 b5 f5)
          case hc =>
            intro j u hu
            rw [add_lit]
            refine ((HNW.out (0 + j)).trans ?_)
            simpa [fC] using hu
          exact ⟨HK9.out.1.trans HP.out.1, HK9.out.2.trans HP.out.2.1, HP.out.2.2⟩
  case done =>
    intro d xs W hdw hS hI hd
    obtain ⟨v, hv, hown, htc⟩ := hI.ex
    have c5 : W.cell? ⟨nb, 0, none⟩ = some v := cell_of_row _ _ 0 _ _ _ hv
    have HH := Lib.hid (And.intro hI (And.intro hd (And.intro hS (And.intro hv (And.intro hown htc)))))
    clear hI hd hS hv hown htc
    gi_wp2
    obtain ⟨hI, hd, hS, hv, hown, htc⟩ := HH.out
    refine leaves_mks [d] W (by simp) (fun D hD => by rw [List.mem_singleton.1 hD]; exact hd) ?_
    intro W' hb hs h1 h2 h3
    have hzf : zfold fo xs = zoneL r L (fun k => (alongL r2 L2).any fun y => foulB (stripAt r L k) y hx sx hy sy) m := by
      have hm1 : L.length - 1 = m := by omega
      have h7 := zfold_along (fo := fo) (r := r) (L := L) m
      unfold zfold
      rw [hS]
      have h8 : alongL r L = (List.range m).map (stripAt r L) := by unfold alongL; rw [hm1]
      rw [h8, h7, HFO2.out]
    refine ⟨_, results_tmp2 rfl _ _ _, v, rfl, ?_, ?_⟩
    · rw [← hzf]
      refine (hown.lower (by have := HNB.out; omega)).of_blocks fun k hk => ?_
      refine hb k fun D hD e => ?_
      rw [List.mem_singleton.1 hD] at e
      rcases hown.2 with ⟨rfl, _⟩ | ⟨g, cap, cur, rfl, _, hg2, _⟩
      · cases hk
      · have hgk : g = k := Option.some.inj hk
        rw [hgk, e, hd] at hg2
        cases hg2
    · have hbb := HB1.out.trans (HB1w.out.mono HB1.out.size)
      refine hbb.trans ((hI.bl.mono (by have := HNB.out; omega)).trans ⟨h1, h2, h3, by omega, fun k hk => hb k fun D hD e => ?_⟩)
      rw [List.mem_singleton.1 hD, hdw] at e
      have := HNB.out
      omega
end Go.Proofs.YtekambdnmaompaaGreat.SW
