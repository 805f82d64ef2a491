/- Contract: Parts. -/
import Derived.Test.YtbnfnpakibkboaaGreatKU
namespace Go.Proofs.YtbnfnpakibkboaaGreat
set_option linter.unusedVariables false
set_option linter.unusedSimpArgs false
open Go.RowKit

open Go.Shelf Go.Lib Go.BigFrame
attribute [local go_sem] Oper.semAt_some
/-- the frame of a round of Parts -/
def FPa (s L : Nat) (nv : Value) (u : Nat → Value) : Array Value := #[u 0, u 1, .pointer (some ⟨s, 0, none⟩), .pointer (some ⟨s + 1, 0, none⟩), .slice none 0 0, .int .i64 0, .pointer (some ⟨L, 0, none⟩), nv, u 8, u 9, u 10, u 11, u 12, u 13, u 14, u 15, u 16, u 17, u 18, u 19, u 20, u 21, u 22, u 23, u 24, u 25, u 26]
/-- what stands between two rounds: L: the box of the list; all else below stays -/
structure PJ (H L : Nat) (w3 : World) (pre : List (Value × List Nat)) (W : World) : Prop where
  bl : Below L w3 W
  row : ∃ v : Value, Rw W L 31 #[v] ∧ RR W (H + 1) v (pre.map fun y => nI y.2)
theorem RR.of_blocks {w w' : World} {base : Nat} {v : Value} {ll : List (List Int)} (h : RR w base v ll) (hk : ∀ k, base ≤ k → (∃ cs e, w.heap[k]? = some (Obj.cells cs e (0, 0))) → w'.heap[k]? = w.heap[k]?) : RR w' base v ll := by
  obtain ⟨ss, h1, h2, h3⟩ := h
  refine ⟨ss, h1.of_blocks (fun k hk' => hk k (h1.lt k hk').1 ?_), h2, fun i sc sl a b => (h3 i sc sl a b).of_blocks (fun k hk' => hk k ((h3 i sc sl a b).lt k hk').1 ?_)⟩
  · obtain ⟨cs, e⟩ := own_type h1 hk'; exact ⟨cs, _, e⟩
  · obtain ⟨cs, e⟩ := own_type (h3 i sc sl a b) hk'; exact ⟨cs, _, e⟩
theorem PJ.own {H L : Nat} {w3 : World} {B : Nat} (hL : L < B) (hB : L ≤ w3.heap.size) : OwnFrom B (PJ H L w3) := fun s X Y row hs hg hr => by
  obtain ⟨v, h1, h2⟩ := hs.row
  have hne : ∀ k, (∃ cs e, X.heap[k]? = some (Obj.cells cs e (0, 0))) → Y.heap[k]? = X.heap[k]? := fun k ⟨cs, e, hk⟩ => hg.block k (Array.getElem?_eq_some_iff.1 hk).1 (fun e2 => by
    obtain ⟨_, o, ho, hc⟩ := hr k e2.symm
    rw [hk] at ho; cases ho; simp [Obj.isCells] at hc)
  exact ⟨⟨hg.os.trans hs.bl.os, hg.tape.trans hs.bl.tape, hg.output.trans hs.bl.output, Nat.le_trans hs.bl.size hg.size, fun k hk => (hg.block k (by have := hs.bl.size; omega) (fun e => by have := (hr k e.symm).1; omega)).trans (hs.bl.block k hk)⟩, v, (hne L ⟨_, _, h1⟩).trans h1, h2.of_blocks (fun k _ hk => hne k hk)⟩
theorem PJ.gi {H L : Nat} {w3 A C : World} {pre : List (Value × List Nat)} (h : PJ H L w3 pre A) (hg : Gi H H A C) (hL : L < H) (hz : L < w3.heap.size) : PJ H L w3 pre C := by
  obtain ⟨v, h1, h2⟩ := h.row
  have hne : ∀ k, k < A.heap.size → k ≠ H → C.heap[k]? = A.heap[k]? := fun k hk hn => hg.block k hk hn hn
  exact ⟨⟨hg.os.trans h.bl.os, hg.tape.trans h.bl.tape, hg.output.trans h.bl.output, Nat.le_trans h.bl.size hg.size, fun k hk => (hne k (by have := h.bl.size; omega) (by omega)).trans (h.bl.block k hk)⟩, v, (hne L h1.lt (by omega)).trans h1, h2.of_blocks (fun k hk hc => hne k (by obtain ⟨cs, e, hc⟩ := hc; exact (Array.getElem?_eq_some_iff.1 hc).1) (by omega))⟩
set_option maxRecDepth 100000 in
set_option maxHeartbeats 4000000 in
theorem Parts_good (Aw Af As At : Option Addr) (nw nf ns nt cw cf cs ct N : Nat) (g : Gv) (s : Sv) (w : World) (hN : g.nodes = N) (hgb : gridB g = true) (hsb : stateB g s = true)
    (hG : GAt w w.heap.size Aw nw Af nf g) (hS : SAt w w.heap.size As ns At nt s) :
    Calls Tryz.prog 16 #[.agg #[.int .i64 g.nodes, .slice Aw nw cw, .slice Af nf cf, .int .i64 g.least], .agg #[.slice As ns cs, .slice At nt ct]] w fun e w' => ∃ v, e = .returned (.tuple #[v, .int .i64 0]) ∧ RR w' w.heap.size v ((partsL (onP g.wires s.wires) N).map nI) ∧ Below w.heap.size w w' := by
  have hgb' := hgb
  unfold gridB at hgb'
  simp only [Bool.and_eq_true] at hgb'
  obtain ⟨hn, hle, hWB, hFB⟩ := hgb'
  have hn' := inB_iff.1 hn
  rw [hN, Int.toNat_natCast] at hWB
  have hN1 : 1 ≤ N := by omega
  have hN2 : N ≤ 40 := by omega
  have hsb' := hsb
  unfold stateB at hsb'
  simp only [Bool.and_eq_true, decide_eq_true_iff] at hsb'
  have hnt : nt = nw := by have := hsb'.2.1; have := hG.wl; have := hS.wl; omega
  subst hnt
  have hol : s.wires.length = nt := hS.wl
  have hb1 := ((Below.refl w.heap.size w).alloc (Nat.le_refl _) (.cells #[.int .i64 (N : Int), .slice Aw nt cw, .slice Af nf cf, .int .i64 g.least] 25)).alloc (by simp) (.cells #[.slice As ns cs, .slice At nt ct] 28)
  obtain ⟨q1, q2⟩ := rows2 w #[.int .i64 (N : Int), .slice Aw nt cw, .slice Af nf cf, .int .i64 g.least] #[.slice As ns cs, .slice At nt ct] 25 28
  have hG1 := (hG.below hb1).more hb1.size
  have hS1 := (hS.below hb1).more hb1.size
  have hszW : ((w.alloc (.cells #[.int .i64 (N : Int), .slice Aw nt cw, .slice Af nf cf, .int .i64 g.least] 25)).alloc (.cells #[.slice As ns cs, .slice At nt ct] 28)).heap.size = w.heap.size + 2 := by simp
  obtain ⟨W1, hW1⟩ : ∃ z, (w.alloc (.cells #[.int .i64 (N : Int), .slice Aw nt cw, .slice Af nf cf, .int .i64 g.least] 25)).alloc (.cells #[.slice As ns cs, .slice At nt ct] 28) = z := ⟨_, rfl⟩
  have HC0 := Lib.hid (show ∀ wx, Below W1.heap.size W1 wx → Calls Tryz.prog 47 #[.agg #[.int .i64 (N : Int), .slice Aw nt cw, .slice Af nf cf, .int .i64 g.least]] wx fun e w' => e = .returned (.bool true) ∧ Below wx.heap.size wx w' from fun wx h => by
    have := gridRight_any Aw Af nt nf cw cf g wx (by rw [← hW1] at h; exact (hG1.below h).more h.size); rwa [hgb, hN] at this)
  have HC1 := Lib.hid (show ∀ wx, Below W1.heap.size W1 wx → Calls Tryz.prog 48 #[.agg #[.int .i64 (N : Int), .slice Aw nt cw, .slice Af nf cf, .int .i64 g.least], .agg #[.slice As ns cs, .slice At nt ct]] wx fun e w' => e = .returned (.bool true) ∧ Below wx.heap.size wx w' from fun wx h => by
    have := stateRight_any Aw Af As At nt nf ns nt cw cf cs ct g s wx (by rw [← hW1] at h; exact (hG1.below h).more h.size) (by rw [← hW1] at h; exact (hS1.below h).more h.size); rwa [hsb, hN] at this)
  rw [hW1] at hb1 q1 q2 hG1 hS1 hszW
  rw [hN]
  have HSZ := Lib.hid hszW
  have HB1 := Lib.hid hb1
  have HQ := Lib.hid (show ∀ wx, Below W1.heap.size W1 wx → Rw wx w.heap.size 25 #[.int .i64 (N : Int), .slice Aw nt cw, .slice Af nf cf, .int .i64 g.least] ∧ Rw wx (w.heap.size + 1) 28 #[.slice As ns cs, .slice At nt ct] from fun wx h => ⟨q1.below h (by omega), q2.below h (by omega)⟩)
  have HG0 := Lib.hid hG; have HO0 := Lib.hid hS.ws; have HWB := Lib.hid hWB; have HOL := Lib.hid hol; have HN := Lib.hid (And.intro hN1 hN2)
  have e0 := q1.cell 0; have e1 := q1.cell 1; have e2 := q1.cell 2; have e3 := q1.cell 3; have f0 := q2.cell 0; have f1 := q2.cell 1
  have HX1 := Lib.hid (Below.refl W1.heap.size W1)
  clear hb1 q1 q2 hG hG1 hS hS1 hszW hgb hsb hsb' hn hn' hN hle hWB hFB hol
  refine (callsIn_wide (n := 8)).1 ?_
  refine callsIn_of_wp_marks Tryz.func16 rfl trivial ?_ rfl
  simp only [Tryz.ntmps16, List.size_toArray, List.length_cons, List.length_nil, Nat.reduceAdd, Nat.reduceSub, Array.replicate_succ, Array.replicate_zero, List.push_toArray, List.append_toArray, List.nil_append, List.cons_append]
  gi_wp2
  refine ⟨trivial, CallsIn.mono (callsIn_wide.2 (HC0.out _ HX1.out)) ?_⟩
  rintro e w2 ⟨rfl, hb2⟩
  have HX2 := Lib.hid (HX1.out.trans (hb2.mono HX1.out.size))
  clear e0 e1 e2 e3 f0 f1 hb2
  obtain ⟨q1, q2⟩ := HQ.out _ HX2.out
  have e0 := q1.cell 0; have e1 := q1.cell 1; have e2 := q1.cell 2; have e3 := q1.cell 3; have f0 := q2.cell 0; have f1 := q2.cell 1
  clear q1 q2
  gi_wp2
  refine ⟨trivial, CallsIn.mono (callsIn_wide.2 (HC1.out _ HX2.out)) ?_⟩
  rintro e wq ⟨rfl, hb3⟩
  have HX3 := Lib.hid (HX2.out.trans (hb3.mono HX2.out.size))
  clear e0 e1 e2 e3 f0 f1 hb3
  obtain ⟨q1, q2⟩ := HQ.out _ HX3.out
  have hba := (Below.refl wq.heap.size wq).alloc (Nat.le_refl _) (.cells #[.slice none 0 0] 31)
  have hxa := HX3.out.trans (hba.mono HX3.out.size)
  have q5 := Rw.new wq #[.slice none 0 0] 31
  have q1a := q1.alloc (.cells #[.slice none 0 0] 31); have q2a := q2.alloc (.cells #[.slice none 0 0] 31)
  have e0 := q1a.cell 0; have e1 := q1a.cell 1; have e2 := q1a.cell 2; have e3 := q1a.cell 3; have f0 := q2a.cell 0; have f1 := q2a.cell 1
  have hza : (wq.alloc (.cells #[.slice none 0 0] 31)).heap.size = wq.heap.size + 1 := by simp
  have HP := Lib.hid (parts_any Aw Af At nt cw nf cf nt ct { g with nodes := (N : Int) } (wq.alloc (.cells #[.slice none 0 0] 31)))
  have HXA := Lib.hid hxa; have HQ5 := Lib.hid q5; have HZA := Lib.hid hza
  clear hba hxa q5 q1 q2 q1a q2a hza
  gi_wp2
  refine ⟨trivial, CallsIn.mono (callsIn_wide.2 HP.out) ?_⟩
  obtain ⟨Wa, hWa⟩ : ∃ z, wq.alloc (.cells #[.slice none 0 0] 31) = z := ⟨_, rfl⟩
  rw [hWa] at HXA HQ5 HZA ⊢
  rintro e w3 ⟨rfl, hw3⟩
  have hb3 := ((Below.refl Wa.heap.size Wa).alloc (Nat.le_refl _) (.cells #[.int .i64 (N : Int), .slice Aw nt cw, .slice Af nf cf, .int .i64 g.least] 25)).alloc (by simp) (.cells #[.slice At nt ct] 26)
  obtain ⟨q1, q2⟩ := rows2 Wa #[.int .i64 (N : Int), .slice Aw nt cw, .slice Af nf cf, .int .i64 g.least] #[.slice At nt ct] 25 26
  have hz3 : ((Wa.alloc (.cells #[.int .i64 (N : Int), .slice Aw nt cw, .slice Af nf cf, .int .i64 g.least] 25)).alloc (.cells #[.slice At nt ct] 26)).heap.size = wq.heap.size + 3 := by simp [HZA.out]
  rw [hw3] at hb3 q1 q2 hz3
  have hza := HZA.out
  rw [hza] at q1 q2
  clear hw3 e0 e1 e2 e3 f0 f1 hWa
  obtain ⟨L, hL⟩ : ∃ L, wq.heap.size = L := ⟨_, rfl⟩
  rw [hL] at HQ5 hz3 hza q1 q2 ⊢
  rw [hza]
  have hsL : w.heap.size + 2 ≤ L := by have := HSZ.out; have := HX3.out.size; omega
  have HW3 := Lib.hid (HB1.out.trans ((HXA.out.trans (hb3.mono HXA.out.size)).mono HB1.out.size))
  have HP3 := Lib.hid (show PAt w3 w.heap.size L w3.heap.size (L + 1) (L + 1 + 1) Aw nt cw Af nf cf At ct N g s.wires from ⟨q1, q2, HG0.out.below HW3.out, HO0.out.below HW3.out, by omega, by omega, by omega⟩)
  have HR3 := Lib.hid (HQ5.out.below hb3 HQ5.out.lt)
  have hseq := parts_seq 7 (by omega) w.heap.size L (L + 1) (L + 1 + 1) Aw nt cw Af nf cf At ct N g s.wires (w3.heap.size + 2) w3 HN.out.1 HN.out.2 HWB.out HOL.out HP3.out
  have HSQ := Lib.hid hseq
  have HZ3 := Lib.hid hz3; have HSL := Lib.hid hsL
  clear hseq hb3 q1 q2 hz3 hza hsL
  obtain ⟨sb, hsb⟩ : ∃ y, w.heap.size = y := ⟨_, rfl⟩
  rw [hsb] at HW3 HSL ⊢
  have HSB := Lib.hid hsb
  gi_wp2
  have hz3 := HZ3.out
  have hsl := HSL.out
  refine wpIn_rangeY (α := Value × List Nat) (w0 := w3) (D := fun x W => w3.heap.size + 2 < W.heap.size ∧ ∃ base, w3.heap.size + 2 < base ∧ Own W base 3 1 fI x.1 (x.2.map fun z : Nat => (z : Int))) (Kp := KU (w3.heap.size + 2) L) (b2 := w3.heap.size + 2) (S := fun xs => xs.map (·.2) = partsL (onP g.wires s.wires) N) (Sp := fun pre => pre ≠ [] ∧ ∃ s', pre.map (·.2) ++ s' = partsL (onP g.wires s.wires) N) (N := 41) (gf := 73) (lb := #[.pointer (some ⟨L + 1, 0, none⟩), .pointer (some ⟨L + 1 + 1, 0, none⟩)]) rfl (by omega) rfl trivial (enters_of Tryz.func73 (by kernel_rfl) rfl) HSQ.out (fun h k => KU.trans h k) KU.put (Below.refl _ _) (.inr rfl) (fun _ => rfl)
    (fun pre W => PJ (w3.heap.size + 2) L w3 pre W) (fun c pre W => False) (PJ.own (by omega) (by omega)) (fun c => fun _ _ _ _ h _ _ => h.elim) (fun _ _ _ h hg => PJ.gi h hg (by omega) (by omega)) (fun c _ _ _ h hg => h.elim) ⟨Below.refl _ _, .slice none 0 0, HR3.out, RR.nil _ _⟩
    (fun p W => PJ (w3.heap.size + 2) L w3 p.1 W ∧ (w3.heap.size + 2 < W.heap.size ∧ ∃ base, w3.heap.size + 2 < base ∧ Own W base 3 1 fI p.2.1.1 (p.2.1.2.map fun z : Nat => (z : Int))) ∧ p.2.2 = { tmps := FPa sb L p.2.1.1 (fun i => p.2.2.tmps.getD i undef), defers := [] }) ?hB ?assign ?body ?done ?stop
  case hB =>
    rintro ⟨pre, X, a1⟩ A C row ⟨h1, ⟨h2, base, h3, h4⟩, h5⟩ hg hr
    refine ⟨PJ.own (by omega) (by omega) pre A C row h1 hg hr, ⟨Nat.lt_of_lt_of_le h2 hg.size, base, h3, h4.of_blocks (fun k hk => hg.block k (h4.lt k hk).2 (fun e => ?_))⟩, h5⟩
    obtain ⟨_, o, ho, hc⟩ := hr k e.symm
    exact own_cells h4 hk ho hc
  case assign =>
    intro l pre X W K hI hD hlen hK
    have HK := Lib.hid hK
    clear hK
    gi_wp2
    exact HK.out _ _ (KeepsOthers.refl _) (KU.refl _) ⟨hI, hD, rfl⟩
  case stop =>
    intro d c pre W hd hSp hIx hdef
    exact hIx.elim
  case done =>
    intro d xs W hd hS hI hdef
    obtain ⟨v, hl, hrr⟩ := hI.row
    have hrx : RR W (w3.heap.size + 2 + 1) v ((partsL (onP g.wires s.wires) N).map nI) := by
      rw [← hS, List.map_map]; exact hrr
    have l0 := hl.cell 0
    have HDF := Lib.hid (And.intro hd hdef); have HI := Lib.hid hI; have HRX := Lib.hid hrx
    obtain ⟨ss, hss, -, -⟩ := hrr
    obtain ⟨A6, c6, rfl, -, -, -⟩ := hss.form
    obtain ⟨n6, hn6⟩ : ∃ n, ss.length = n := ⟨_, rfl⟩
    rw [hn6] at l0 HRX
    clear hd hdef hI hl hrx hS hss hn6
    gi_wp2
    (try simp only [Exit.inBlock, Exit.then])
    (try rw [Exit.noGoto_ret])
    have hdf := HDF.out
    refine leaves_mks [d] _ (by simp) (fun D hD => by rw [List.mem_singleton.1 hD]; exact hdf.2) ?_
    intro W' hb hs2 h1 h2 h3
    have hbW : Below (L + 3) W W' := ⟨h1, h2, h3, by omega, fun k hk => hb k fun D hD e => by rw [List.mem_singleton.1 hD, hdf.1] at e; omega⟩
    refine ⟨.tuple #[.slice A6 n6 c6, .int .i64 0], by simp [results, Tryz.f16], ⟨_, rfl, (HRX.out.of_blocks (fun k hk hc => hb k fun D hD e => by rw [List.mem_singleton.1 hD, hdf.1] at e; omega)).lower (by omega), ?_⟩⟩
    rw [HSB.out]; exact HW3.out.trans ((HI.out.bl.mono (by omega)).trans (hbW.mono (by omega)))
  case body =>
    rintro l pre X a1 W ⟨hI, hD, ha⟩ hlen
    replace ha : a1 = { tmps := FPa sb L X.1 (fun i => a1.tmps.getD i undef), defers := [] } := ha
    replace hI : PJ (w3.heap.size + 2) L w3 pre W := hI
    replace hD : w3.heap.size + 2 < W.heap.size ∧ ∃ base, w3.heap.size + 2 < base ∧ Own W base 3 1 fI X.1 (X.2.map fun z : Nat => (z : Int)) := hD
    obtain ⟨u, rfl⟩ : ∃ u, a1 = { tmps := FPa sb L X.1 u, defers := [] } := ⟨_, ha⟩
    clear ha
    obtain ⟨nv, nl⟩ := X
    obtain ⟨hHW, base, hbase, ho⟩ := hD
    replace ho : Own W base 3 1 fI nv (nI nl) := ho
    obtain ⟨An, cn, rfl, -, -, -⟩ := ho.form
    obtain ⟨nn, hnn⟩ : ∃ n, (nI nl).length = n := ⟨_, rfl⟩
    rw [hnn] at ho ⊢
    obtain ⟨v, hl, ss, hss, hsl, hrows⟩ := hI.row
    obtain ⟨A6, c6, rfl, -, -, -⟩ := hss.form
    have hlen' : pre.length < 41 := hlen
    have hll : ss.length ≤ 100 := by rw [hsl, List.length_map]; omega
    obtain ⟨n6, hn6⟩ : ∃ n, ss.length = n := ⟨_, rfl⟩
    rw [hn6] at hl
    have hba := (Below.refl W.heap.size W).alloc (Nat.le_refl _) (.cells #[.slice An nn cn] 40)
    have HOS := Lib.hid ((ho.lower (base' := w3.heap.size + 2 + 1) (by omega)).below hba (Nat.le_refl _))
    have HSSa := Lib.hid (show Own (W.alloc (.cells #[.slice An nn cn] 40)) (w3.heap.size + 2 + 1) 40 1 fSc (.slice A6 n6 c6) ss from by rw [hn6] at hss; exact hss.below hba (Nat.le_refl _))
    have HROa := Lib.hid (show ∀ (i : Nat) (sc : Sc) (sl : List Int), ss[i]? = some sc → (pre.map fun y => nI y.2)[i]? = some sl → Own (W.alloc (.cells #[.slice An nn cn] 40)) (w3.heap.size + 2 + 1) 3 1 fI sc.v sl from fun i sc sl h1 h2 => (hrows i sc sl h1 h2).below hba (Nat.le_refl _))
    have HSL := Lib.hid hsl; have HLL := Lib.hid hll; have HBA := Lib.hid hba; have HBL := Lib.hid hI.bl; have HHW := Lib.hid hHW
    have hla := hl.alloc (.cells #[.slice An nn cn] 40)
    have l0 := hl.cell 0; have l0a := hla.cell 0; have lfa := hla.frozen 0
    have HLA := Lib.hid hla
    have HN6 := Lib.hid hn6
    have HZA' := Lib.hid (show w3.heap.size + 2 + 1 ≤ (W.alloc (.cells #[.slice An nn cn] 40)).heap.size from by simp; omega)
    obtain ⟨i4, hi4, hz4, hs4, hy4⟩ := info_parts info40
    clear hI hss hsl hrows hll hn6 hl hla hba ho hbase hHW hnn hlen hlen'
    unfold FPa
    gi_wp2_with (gi_at_builtin; go_must (refine wpListIn_app rfl (.tmp 22) (.tmp 24) _ rfl (w3.heap.size + 2 + 1) 40 i4 _ 1 24 Tryz.underlying31 hi4 hz4 hs4 hy4 rfl (by omega) fSc_len fSc_one (.slice A6 n6 c6) ss rfl HSSa.out _ _ (⟨An, nn, cn⟩ : Sc) rfl (Sl.new _ _ (⟨An, nn, cn⟩ : Sc) _ rfl) (by have := HLL.out; unfold maxLen; omega) (by have := HLL.out; omega) HZA'.out ?_)
                 intro v2 w7 ow2 gr2 at2
                 obtain ⟨A2, c2, rfl, hl2, hm2, -⟩ := ow2.form
                 go_must (have HR7 := Lib.hid (RR.push HSSa.out HSL.out HROa.out (sc := ⟨An, nn, cn⟩) HOS.out ow2 gr2))
                 generalize hn2 : List.length (_ ++ [_]) = n2 at ow2 HR7 ⊢
                 clear hn2
                 go_must (have hbl : ∀ j, (Value.slice A6 n6 c6).ownBlock = some j → w3.heap.size + 2 + 1 ≤ j ∧ ∃ cs, (W.alloc (.cells #[.slice An nn cn] 40)).heap[j]? = some (Obj.cells cs 40 (0, 0)) := fun j e => ⟨(HSSa.out.lt j e).1, own_type HSSa.out e⟩)
                 go_must (have hq7 := HLA.out.grown gr2 (fun j e => by have := (hbl j e).1; have := HZ3.out; omega))
                 have m17 := hq7.cell 0
                 have m17f := hq7.frozen 0
                 have HQ7 := Lib.hid hq7; have HG7 := Lib.hid gr2; have HBLK := Lib.hid hbl
                 clear hq7 ow2 gr2 at2 hbl hl2 hm2)
    have hz3 := HZ3.out; have hsW := HHW.out
    have hbA := HBA.out
    have hg7 := HG7.out; have hbl := HBLK.out
    have hza7 := HZA'.out
    have hb7 : Below L w3 w7 := bGrown (HBL.out.trans (hbA.mono (by omega))) hg7 (fun j e => by have := (hbl j e).1; omega) (by omega)
    refine ⟨((keeps_below hbA (Nat.le_refl _)).trans (keepsGrown hg7 (fun j e => by obtain ⟨cs, h⟩ := (hbl j e).2; exact ⟨cs, _, h⟩))).trans (KeepsOthers.setCell _ _ _), ((KU.of_below hbA).trans (KU.grown hg7 (fun j e => by have := (hbl j e).1; omega))).trans (KU.setCell _ _ _ (.inr rfl)), ⟨hb7.setCell (p := ⟨L, 0, none⟩) (Nat.le_refl _) _, .slice A2 n2 c2, HQ7.out.set 0 _, ?_⟩⟩
    rw [List.map_append, List.map_cons, List.map_nil]
    exact HR7.out.of_blocks (fun k hk _ => Below.heap_setCell _ _ _ k (by show k ≠ L; omega))
end Go.Proofs.YtbnfnpakibkboaaGreat
