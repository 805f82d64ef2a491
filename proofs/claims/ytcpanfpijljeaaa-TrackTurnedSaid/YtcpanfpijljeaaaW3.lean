/- Contract: Distances. Contracts at the plan of the examples; known. -/
import Derived.Test.YtcpanfpijljeaaaR8
import Derived.Deep.RegionHeld3
import Derived.Test.YtcpanfpijljeaaaG5
namespace Go.Proofs.Ytcpanfpijljeaaa
set_option linter.unusedVariables false
set_option linter.unusedSimpArgs false
open Go.RowKit

theorem inf4 : (Try.prog.info? 4).map (fun i => (i.zero, i.size, i.bytes)) = some (some (.bool false), 1, 1) := by kernel_rfl
theorem inf3 : (Try.prog.info? 3).map (fun i => (i.zero, i.size, i.bytes)) = some (some (.int .i64 0), 1, 8) := by kernel_rfl
theorem BRow.made (w : World) (m : Nat) : BRow (w.alloc (.cells (madeCells #[.bool false] m) 4)) w.heap.size (List.replicate m false) := by
  unfold BRow
  rw [heap_alloc_new]
  congr 2
  apply Array.ext
  · simp [madeCells]
  · intro i h1 h2
    simp [madeCells, Nat.mod_one]
theorem BRow.below {w w' : World} {b B : Nat} {l : List Bool} (h : BRow w b l) (hb : Below B w w') (hB : b < B) : BRow w' b l := (hb.block b hB).trans h
theorem relax_len1 (cl : List Bool) (c : C2) (s : List C2 × List V3) (b : Int) : (relax cl c s b).1.length = s.1.length := by
  unfold relax; split <;> simp
theorem relaxes_len1 (cl : List Bool) (c : C2) : ∀ (L : List Int) (s : List C2 × List V3), (L.foldl (relax cl c) s).1.length = s.1.length := by
  intro L
  induction L with
  | nil => intro s; rfl
  | cons b L ih => intro s; rw [List.foldl_cons, ih, relax_len1]
theorem search_len {ln : Int → Int} {bef : Nat → List Int} {cl : List Bool} {res : List C2} : ∀ (n : Nat) (cs : List C2) (it : List V3), search ln bef cl n cs it = some res → res.length = cs.length := by
  intro n
  induction n with
  | zero => intro cs it h; simp [search] at h
  | succ n ih =>
    intro cs it h
    cases it with
    | nil => obtain rfl : cs = res := Option.some.inj h; rfl
    | cons x r =>
      rw [search] at h
      split at h
      · cases h
      · split at h
        · split at h
          · cases h
          · rw [ih _ _ h, relaxes_len1]
        · exact ih _ _ h
theorem costsL_len {ln : Int → Int} {bef : Nat → List Int} {cl : List Bool} {res : List C2} {M t n : Nat} (h : costsL ln bef cl M t n = some res) : res.length = M := by
  unfold costsL at h
  split at h
  · rw [← Option.some.inj h]; simp
  · rw [search_len _ _ _ h]; simp

theorem costs_M (B g kb to n : Nat) (cl : List Bool) (res : List C2) (p : Pl) (w : World) (M : Nat) (hM : 2 * p.rails.length = M) (h : Nw w B g p) (hB : B ≤ w.heap.size) (hto : to < M) (hcl : cl.length = M) (hk : BRow w kb cl)
    (hs : costsL (lenAt p) (befL p M) cl M to n = some res) :
    Calls Try.prog 56 #[.pointer (some ⟨g, 0, none⟩), .int .i64 (to : Int), .slice (some ⟨kb, 0, none⟩) M M] w (CostsPost M res w) := by
  subst hM
  exact costs_any B g kb to n cl res p w h hB hto hcl hk hs
def fillRow (l : List C2) (M k : Nat) : List Int := (l.take k).map (·.1) ++ List.replicate (M - k) 0
theorem fillRow_set {l : List C2} {M k : Nat} (hl : l.length = M) (h : k < M) : (fillRow l M k).set k (l[k]'(by omega)).1 = fillRow l M (k + 1) := by
  unfold fillRow
  rw [List.set_append_right _ _ (by simp; omega)]
  rw [List.take_succ_eq_append_getElem (by omega), List.map_append, List.append_assoc]
  congr 1
  simp only [List.length_map, List.length_take]
  rw [show k - min k l.length = 0 by omega, show M - k = (M - (k + 1)) + 1 by omega, List.replicate_succ]
  simp
theorem fillRow_len {l : List C2} {M k : Nat} (hl : l.length = M) (h : k ≤ M) : (fillRow l M k).length = M := by simp [fillRow]; omega
theorem fillRow_all {l : List C2} {M : Nat} (hl : l.length = M) : fillRow l M M = l.map (·.1) := by simp [fillRow, ← hl]

def DistPost (p : Pl) (m : E) (res : List C2) (w : World) (e : Ending) (w' : World) : Prop :=
  ((Vld p ∧ railIn p m.rail = true ∧ ∃ rb, e = .returned (.tuple #[.slice (some ⟨rb, 0, none⟩) (2 * p.rails.length) (2 * p.rails.length), .int .i64 0]) ∧ IRow w' rb (res.map (·.1)) ∧ w.heap.size ≤ rb) ∨ ((¬ Vld p ∨ railIn p m.rail = false) ∧ e = .returned (.tuple #[.slice none 0 0, .int .i64 2]))) ∧ Below w.heap.size w w'
set_option maxRecDepth 100000 in
set_option maxHeartbeats 4000000 in
theorem Distances_any (A0 A20 : Option Addr) (c0 c20 n : Nat) (res : List C2) (p : Pl) (m : E) (w : World) (hP : PlAt w w.heap.size A0 c0 A20 c20 p)
    (hs : Vld p → railIn p m.rail = true → costsL (lenAt p) (befL p (2 * p.rails.length)) (List.replicate (2 * p.rails.length) false) (2 * p.rails.length) (keyE m) n = some res) :
    Calls Try.prog 28 #[.agg #[.slice A0 p.nodes.length c0, .slice A20 p.rails.length c20], .agg #[.int .i64 m.rail, .bool m.last]] w (DistPost p m res w) := by
  have HP := Lib.hid ((hP.box (.cells #[.slice A0 p.nodes.length c0, .slice A20 p.rails.length c20] 25)).box (.cells #[.int .i64 m.rail, .bool m.last] 40)); clear hP
  have HS := Lib.hid hs; clear hs
  go_enter Try.func28, Try.ntmps28
  go_wp2_with fail
  refine (survey_any A0 A20 c0 c20 p _ HP.out).mono ?_
  rintro e w1 ⟨hb, ⟨hv, rfl⟩ | ⟨hv, g, rfl, hg, hN⟩⟩
  · have HV := Lib.hid hv; have HB := Lib.hid hb; clear hv hb
    go_wp2
    go_ret2
    exact ⟨.inr ⟨.inl HV.out, rfl⟩, (((Below.refl _ _).alloc (Nat.le_refl _) _).alloc (by simp) _).trans (HB.out.mono (by simp; omega))⟩
  · have HV := Lib.hid hv; have HB := Lib.hid hb; have HN := Lib.hid hN
    obtain ⟨hc2, hf2⟩ := bcell hb
    have hz1 := hb.size
    simp at hz1
    clear hv hb hN
    go_wp2_with fail
    refine (hasRail_any _ g p m.rail _ HN.out).mono ?_
    rintro e w2 ⟨rfl, rfl⟩
    cases hr : railIn p m.rail
    · have HR := Lib.hid hr; clear hr
      go_wp2
      go_ret2
      exact ⟨.inr ⟨.inr HR.out, rfl⟩, (((Below.refl _ _).alloc (Nat.le_refl _) _).alloc (by simp) _).trans (HB.out.mono (by simp; omega))⟩
    · have HR := Lib.hid hr
      have HSS := Lib.hid (HS.out HV.out hr)
      have hsz := HN.out.sizes
      have hr2 := of_decide_eq_true hr
      have hr0 := hr2.1
      have hr1 : m.rail ≤ 1000000 := by omega
      obtain ⟨kk, kl⟩ := key_lt hr
      have HK := Lib.hid kk
      clear hr hr2 kk
      obtain ⟨A, c, A2, c2, lb, sb, nb, bb, hN, h1, h2, h3, h4, h5, h6⟩ := HN.out.net
      obtain ⟨_, _, _, _, c4, _⟩ := hN.cell
      have hgB := HN.out.gB
      obtain ⟨M, hM⟩ : ∃ M, 2 * p.rails.length = M := ⟨_, rfl⟩
      rw [hM] at c4 kl
      have HMM := Lib.hid hM
      have hM8 : M ≤ 800 := by omega
      clear hM
      have y0 := hc2 (w.heap.size + 1) 0 (by simp)
      have y1 := hc2 (w.heap.size + 1) 1 (by simp)
      rw [show ((w.alloc (.cells #[.slice A0 p.nodes.length c0, .slice A20 p.rails.length c20] 25)).alloc (.cells #[.int .i64 m.rail, .bool m.last] 40)).cell? ⟨w.heap.size + 1, 0, none⟩ = some (.int .i64 m.rail) by simp] at y0
      rw [show ((w.alloc (.cells #[.slice A0 p.nodes.length c0, .slice A20 p.rails.length c20] 25)).alloc (.cells #[.int .i64 m.rail, .bool m.last] 40)).cell? ⟨w.heap.size + 1, 1, none⟩ = some (.bool m.last) by simp] at y1
      obtain ⟨i0, hi, hz0, hz1', hz2⟩ := info_parts inf3
      have hmk : ∀ W : World, (Instr.makeSlice 65 (.int .i64 (M : Int)) (.int .i64 (M : Int))).run Try.prog W = .ok (.slice (some ⟨W.heap.size, 0, none⟩) M M) (W.alloc (.cells (madeCells #[.int .i64 0] M) 3)) := fun W => by
        have := run_mk (P := Try.prog) 65 3 i0 _ 1 Try.underlying65 hi hz0 hz1' (M : Int) (M : Int) M M rfl rfl (by omega) (by rw [hz2]; omega) (by omega) W
        rw [this, Nat.mul_one]; rfl
      obtain ⟨i1, hi1, hy0, hy1, hy2⟩ := info_parts inf4
      have hmb : ∀ W : World, (Instr.makeSlice 70 (.int .i64 (M : Int)) (.int .i64 (M : Int))).run Try.prog W = .ok (.slice (some ⟨W.heap.size, 0, none⟩) M M) (W.alloc (.cells (madeCells #[.bool false] M) 4)) := fun W => by
        have := run_mk (P := Try.prog) 70 4 i1 _ 1 Try.underlying70 hi1 hy0 hy1 (M : Int) (M : Int) M M rfl rfl (by omega) (by rw [hy2]; omega) (by omega) W
        rw [this, Nat.mul_one]; rfl
      clear hN h3 h4 h5 h6 hc2 hf2
      go_wp2
      have HR0 := Lib.hid (IRow.made w1 M)
      obtain ⟨W0, hW0⟩ : ∃ W0, w1.alloc (.cells (madeCells #[.int .i64 0] M) 3) = W0 := ⟨_, rfl⟩
      have hzW : W0.heap.size = w1.heap.size + 1 := by rw [← hW0]; simp
      have HBW := Lib.hid (show Below w1.heap.size w1 W0 by rw [← hW0]; exact (Below.refl _ _).alloc (Nat.le_refl _) _)
      rw [hW0] at HR0 ⊢
      have s0 := (HBW.out.cell (p := ⟨g, 4, none⟩) (by simp; omega)).trans c4
      have s1 := (HBW.out.cell (p := ⟨w.heap.size + 1, 0, none⟩) (by simp; omega)).trans y0
      have s2 := (HBW.out.cell (p := ⟨w.heap.size + 1, 1, none⟩) (by simp; omega)).trans y1
      have HZW := Lib.hid hzW
      clear hW0 hmk c4 y0 y1 hzW
      have hzw : w1.heap.size ≤ W0.heap.size := by have := HZW.out; omega
      have hrep : (List.replicate M false).length = M := by simp
      have HS2 := Lib.hid (show costsL (lenAt p) (befL p M) (List.replicate M false) M (keyE m) n = some res by have := HSS.out; rwa [HMM.out] at this)
      go_region_held3 (fun w' => w'.cell? ⟨g, 4, none⟩ = some (.slice (some ⟨nb, 0, none⟩) M M) ∧ w'.cell? ⟨w.heap.size + 1, 0, none⟩ = some (.int .i64 m.rail) ∧ w'.cell? ⟨w.heap.size + 1, 1, none⟩ = some (.bool m.last))
        (first
          | (go_keep; done)
          | exact ⟨(hx.cell (p := ⟨g, 4, none⟩) (by have := HZW.out; simp; omega)).trans s0, (hx.cell (p := ⟨w.heap.size + 1, 0, none⟩) (by have := HZW.out; simp; omega)).trans s1, (hx.cell (p := ⟨w.heap.size + 1, 1, none⟩) (by have := HZW.out; simp; omega)).trans s2⟩
          | exact ⟨(hy.cell (p := ⟨g, 4, none⟩) (by have := HZW.out; simp; omega)).trans s0, (hy.cell (p := ⟨w.heap.size + 1, 0, none⟩) (by have := HZW.out; simp; omega)).trans s1, (hy.cell (p := ⟨w.heap.size + 1, 1, none⟩) (by have := HZW.out; simp; omega)).trans s2⟩)
        ((first
          | (go_at_call 49; refine (number_any m _ hr0 hr1).mono ?_; rintro e w2 ⟨rfl, hb2⟩; rw [← HK.out]; have hxs := hb2.size; have hx : Below W0.heap.size W0 w2 := by first | exact (Below.refl _ _).drew.trans hb2 | exact (((Below.refl W0.heap.size W0).alloc (Nat.le_refl _) _).drew.trans (hb2.mono (by simp))))
          | (go_at_call 56; have hxz := hx.size; have q1 : w1.heap.size ≤ w2.heap.size := (by omega); have q2 := HN.out.below ((HBW.out.trans (hx.mono hzw)).alloc q1 (.cells (madeCells #[.bool false] M) 4)); have q3 := BRow.made w2 M; have q4 : w1.heap.size ≤ (w2.alloc (.cells (madeCells #[.bool false] M) 4)).heap.size := (by simp; omega); (with_reducible refine (costs_M w1.heap.size g w2.heap.size (keyE m) n (List.replicate M false) res p _ M HMM.out q2 q4 kl hrep q3 HS2.out).mono ?_); rintro e w3 ⟨⟨cb, rfl, hrow, hcb⟩, hb3⟩; have hcb' : W0.heap.size ≤ cb := (by simp at hcb; omega); have hy : Below W0.heap.size W0 w3 := (hx.alloc hxz _).trans (hb3.mono (by simp; omega)); clear q2 q3)
          | (go_at_call 56; have hxz := hx.size; have q1 : w1.heap.size ≤ w2.heap.size := (by omega); have q2 := HN.out.below (HBW.out.trans (hx.mono hzw)); have q3 := (BRow.made W0 M).below (B := W0.heap.size + 1) ((Below.refl _ _).drew.trans (hb2.mono (by simp))) (by omega); (with_reducible refine (costs_M w1.heap.size g W0.heap.size (keyE m) n (List.replicate M false) res p _ M HMM.out q2 q1 kl hrep q3 HS2.out).mono ?_); rintro e w3 ⟨⟨cb, rfl, hrow, hcb⟩, hb3⟩; have hcb' : W0.heap.size ≤ cb := (by omega); have hy : Below W0.heap.size W0 w3 := hx.trans (hb3.mono hxz); clear q2 q3)))
      all_goals
        have HY := Lib.hid hy; have HROW := Lib.hid hrow
        have hzy := hy.size
        have hlen := costsL_len HS2.out
        have HLEN := Lib.hid hlen
        clear hy hrow hx hb2 hb3 hmb s0 s1 s2 hlen
        have HR3 := Lib.hid (HR0.out.below HY.out (by have := HZW.out; omega))
        have HCB := Lib.hid (show w1.heap.size ≠ cb by have := HZW.out; omega)
        go_wp2
        go_loopw [42] (fun i wr => ∃ k : Nat, k ≤ M ∧ i = .int .i64 (k : Int) ∧ IRow wr w1.heap.size (fillRow res M k) ∧ CRow wr cb res ∧ Below w1.heap.size w1 wr) (fun i _ => M - (intOf i).toNat)
        case atStart => exact ⟨0, by omega, rfl, by have := HR3.out; simpa [fillRow] using this, HROW.out, HBW.out.trans (HY.out.mono hzw)⟩
        case round =>
          obtain ⟨k, hk, rfl, hr4, hc4, hb4⟩ := hrel
          have HR4 := Lib.hid hr4; have HC4 := Lib.hid hc4; have HB4 := Lib.hid hb4
          have hl1 := hr4.lt
          have hl2 := hc4.lt
          have hcne := HCB.out
          clear hr4 hc4 hb4
          by_cases hlt : k < M
          · obtain ⟨f0, f1⟩ := HC4.out.cell (i := k) (by have := HLEN.out; omega)
            have f2 := HR4.out.cell (i := k) (by rw [fillRow_len HLEN.out hk]; exact hlt)
            have f3 := HR4.out.frozen k
            obtain ⟨a1, ha1⟩ : ∃ a, (res[k]'(by have := HLEN.out; omega)).1 = a := ⟨_, rfl⟩
            obtain ⟨a2, ha2⟩ : ∃ a, (res[k]'(by have := HLEN.out; omega)).2 = a := ⟨_, rfl⟩
            rw [ha1] at f0
            rw [ha2] at f1
            have HA1 := Lib.hid ha1
            have k0 : (0 : Int) ≤ (k : Int) := by omega
            have k1 : (k : Int) < (M : Int) := by omega
            have hl3 : w1.heap.size < wr.heap.size + 1 := by omega
            have hl4 : cb < wr.heap.size + 1 := by omega
            clear ha1 ha2
            go_wp2
            go_roundw
            case rel => exact ⟨k + 1, by omega, by go_num, by rw [← fillRow_set HLEN.out hlt, HA1.out]; exact (HR4.out.set k a1).alloc _, (CRow.of (w := wr) HC4.out (Below.heap_setCell _ _ _ _ (Ne.symm HCB.out))).alloc _, (HB4.out.setCell (p := ⟨w1.heap.size, k, none⟩) (Nat.le_refl _) _).alloc (by have := HB4.out.size; simpa [World.setCell] using this) _⟩
            case measure => simp [intOf]; omega
          · obtain rfl : M = k := by omega
            have HF := Lib.hid (show IRow wr w1.heap.size (res.map (·.1)) by have := HR4.out; rwa [fillRow_all HLEN.out] at this)
            go_wp2
            go_ret2
            exact ⟨.inl ⟨HV.out, HR.out, w1.heap.size, by rw [HMM.out]; rfl, HF.out, by omega⟩, ((((Below.refl _ _).alloc (Nat.le_refl _) _).alloc (by simp) _).trans (HB.out.mono (by simp; omega))).trans (HB4.out.mono (by omega))⟩
end Go.Proofs.Ytcpanfpijljeaaa
namespace Go.Proofs.Ytcpanfpijljeaaa
set_option linter.unusedVariables false
set_option linter.unusedSimpArgs false

def exP : Pl := ⟨[⟨⟨0, 0⟩, 1, [⟨0, false⟩], 0⟩, ⟨⟨1000, 0⟩, 4, [⟨0, true⟩, ⟨1, false⟩, ⟨2, false⟩], 0⟩, ⟨⟨2000, 0⟩, 1, [⟨1, true⟩], 0⟩, ⟨⟨2000, 500⟩, 1, [⟨2, true⟩], 0⟩],
  [⟨0, 1, [], 8000, 0⟩, ⟨1, 2, [], 8000, 0⟩, ⟨1, 3, [⟨1600, 0⟩], 8000, 0⟩]⟩
theorem ex_sizes : sizesB exP = true := by decide
theorem ex_nodes : exP.nodes.all nodeB = true := by decide
theorem ex_rails : railsB exP = true := by decide +kernel
theorem ex_lens : lensOf exP = [1000, 1000, 1240] := by decide +kernel
theorem ex_ends : okEnds exP := by
  refine ⟨fun i hi e he => ?_, ?_, rfl⟩
  · have hi' : i < 4 := hi
    rcases (show i = 0 ∨ i = 1 ∨ i = 2 ∨ i = 3 by omega) with rfl | rfl | rfl | rfl <;> simp [exP] at he <;> (try rcases he with rfl | rfl | rfl) <;> (try subst he) <;> exact ⟨by decide, by decide, by decide⟩
  · simp [flatE, exP]
theorem ex_valid : Vld exP := ⟨ex_sizes, ex_nodes, ex_rails, ex_ends⟩
theorem ex_leave : (List.range 6).map (leaveL exP) = [[2, 4], [], [], [1], [], [1]] := by decide +kernel
theorem ex_bef4 : befL exP 6 4 = [0] := by decide +kernel
theorem ex_bef0 : befL exP 6 0 = [] := by decide +kernel
theorem ex_len2 : lenAt exP 2 = 1240 := by simp [lenAt, ex_lens]
theorem ex_len0 : lenAt exP 0 = 1000 := by simp [lenAt, ex_lens]
theorem next_sorted {p : Pl} {x : Nat} {l : List Int} (h : leaveL p x = l) (hs : l.Pairwise fun a b => decide (a ≤ b) = true) : nextL p x = l := by
  unfold nextL; rw [h]; exact List.mergeSort_of_pairwise hs
theorem ex_next0 : nextL exP 0 = [2, 4] := next_sorted (by decide +kernel) (by decide)
theorem ex_next5 : nextL exP 5 = [1] := next_sorted (by decide +kernel) (by decide)
theorem ex_fol04 : folB exP 0 4 = true := by simp [folB, ex_next0]
theorem ex_fol51 : folB exP 5 1 = true := by simp [folB, ex_next5]
theorem ex_kind : (atN exP (flip 0)).kind = 4 := by decide +kernel
theorem ex_at : nodeAtZ exP (flip 0 : Nat) = 1 := by decide +kernel
theorem ex_set : setZ exP 0 4 = 2 := by decide +kernel
theorem ex_cov : covL exP [5, 1] 700 1500 = [⟨2, 0, 540⟩, ⟨0, 740, 1000⟩] := by
  simp [covL, covTo, covOne, wlen, lenAt, ex_lens, List.range_succ, Int.min_def, Int.max_def]
end Go.Proofs.Ytcpanfpijljeaaa
/- Contract: Example: the plan of the examples in memory. -/
namespace Go.Proofs.Ytcpanfpijljeaaa
open Go.RowKit

theorem Sl.blk {α : Type} {C : α → List Value → Prop} {w : World} {B b size : Nat} {arr : Array Value} {t : TypeId} {l : List α} (h : w.heap[b]? = some (.cells arr t)) (hb : b < B)
    (hc : ∀ i x, l[i]? = some x → ∃ cs, C x cs ∧ ∀ j u, cs[j]? = some u → arr[i * size + j]? = some u) : Sl w B size C (some ⟨b, 0, none⟩) l := fun _ =>
  ⟨b, 0, rfl, hb, fun i x hx => by
    obtain ⟨cs, h1, h2⟩ := hc i x hx
    exact ⟨cs, h1, fun j u hu => by rw [cell_of_row _ _ _ _ _ _ h, Nat.zero_add]; exact h2 j u hu⟩⟩
theorem allocs_get : ∀ (os : List Obj) (w : World) (j : Nat) (o : Obj), os[j]? = some o → (os.foldl World.alloc w).heap[w.heap.size + j]? = some o ∧ w.heap.size + os.length = (os.foldl World.alloc w).heap.size
  | [], w, j, o, h => by simp at h
  | p :: os, w, 0, o, h => by
    obtain rfl : p = o := by simpa using h
    have key : ∀ (os : List Obj) (w : World) (k : Nat), k < w.heap.size → (os.foldl World.alloc w).heap[k]? = w.heap[k]? ∧ (os.foldl World.alloc w).heap.size = w.heap.size + os.length := fun os => by
      induction os with
      | nil => intro w k hk; exact ⟨rfl, rfl⟩
      | cons q os ih =>
        intro w k hk
        obtain ⟨h1, h2⟩ := ih (w.alloc q) k (by simp; omega)
        exact ⟨h1.trans (Below.heap_alloc w q k hk), by rw [List.foldl_cons, h2]; simp; omega⟩
    obtain ⟨h1, h2⟩ := key os (w.alloc p) w.heap.size (by simp)
    exact ⟨h1.trans (heap_alloc_new w p), by rw [List.foldl_cons, h2]; simp; omega⟩
  | p :: os, w, j + 1, o, h => by
    obtain ⟨h1, h2⟩ := allocs_get os (w.alloc p) j o (by simpa using h)
    rw [show (w.alloc p).heap.size = w.heap.size + 1 by simp] at h1 h2
    exact ⟨by rw [show w.heap.size + (j + 1) = w.heap.size + 1 + j by omega]; exact h1, by rw [List.foldl_cons, ← h2]; simp; omega⟩

def exO (N : Nat) : List Obj := [.cells #[.slice (some ⟨N + 1 + 1 + 1 + 1 + 1, 0, none⟩) 4 4, .slice (some ⟨N + 1 + 1 + 1 + 1 + 1 + 1 + 1, 0, none⟩) 3 3] 25, .cells #[.int .i64 0, .bool false] 89,
  .cells #[.int .i64 0, .bool true, .int .i64 1, .bool false, .int .i64 2, .bool false] 89, .cells #[.int .i64 1, .bool true] 89, .cells #[.int .i64 2, .bool true] 89,
  .cells #[.int .i64 0, .int .i64 0, .int .i64 1, .slice (some ⟨N + 1, 0, none⟩) 1 1, .int .i64 0, .int .i64 1000, .int .i64 0, .int .i64 4, .slice (some ⟨N + 1 + 1, 0, none⟩) 3 3, .int .i64 0,
    .int .i64 2000, .int .i64 0, .int .i64 1, .slice (some ⟨N + 1 + 1 + 1, 0, none⟩) 1 1, .int .i64 0, .int .i64 2000, .int .i64 500, .int .i64 1, .slice (some ⟨N + 1 + 1 + 1 + 1, 0, none⟩) 1 1, .int .i64 0] 63,
  .cells #[.int .i64 1600, .int .i64 0] 59,
  .cells #[.int .i64 0, .int .i64 1, .slice none 0 0, .int .i64 8000, .int .i64 0, .int .i64 1, .int .i64 2, .slice none 0 0, .int .i64 8000, .int .i64 0, .int .i64 1, .int .i64 3, .slice (some ⟨N + 1 + 1 + 1 + 1 + 1 + 1, 0, none⟩) 1 1, .int .i64 8000, .int .i64 0] 57]
theorem exO_plan (w : World) : PlAt ((exO w.heap.size).foldl World.alloc w) ((exO w.heap.size).foldl World.alloc w).heap.size (some ⟨w.heap.size + 1 + 1 + 1 + 1 + 1, 0, none⟩) 4 (some ⟨w.heap.size + 1 + 1 + 1 + 1 + 1 + 1 + 1, 0, none⟩) 3 exP := by
  have g := fun j o h => allocs_get (exO w.heap.size) w j o h
  have hz : w.heap.size + 8 = ((exO w.heap.size).foldl World.alloc w).heap.size := (g 0 _ rfl).2
  have h1 := (g 1 _ rfl).1; have h2 := (g 2 _ rfl).1; have h3 := (g 3 _ rfl).1; have h4 := (g 4 _ rfl).1
  have h5 := (g 5 _ rfl).1; have h6 := (g 6 _ rfl).1; have h7 := (g 7 _ rfl).1
  generalize (exO w.heap.size).foldl World.alloc w = W at *
  have e1 : Sl W W.heap.size 2 CE (some ⟨w.heap.size + 1, 0, none⟩) [⟨0, false⟩] := Sl.blk h1 (by omega) fun i x hx => by
    rcases i with _ | i
    · obtain rfl : _ = x := by simpa using hx
      exact ⟨_, rfl, fun j u hu => by rcases j with _ | _ | j <;> simp_all⟩
    · simp at hx
  have e2 : Sl W W.heap.size 2 CE (some ⟨w.heap.size + 1 + 1, 0, none⟩) [⟨0, true⟩, ⟨1, false⟩, ⟨2, false⟩] := Sl.blk h2 (by omega) fun i x hx => by
    rcases i with _ | _ | _ | i
    · obtain rfl : _ = x := by simpa using hx
      exact ⟨_, rfl, fun j u hu => by rcases j with _ | _ | j <;> simp_all⟩
    · obtain rfl : _ = x := by simpa using hx
      exact ⟨_, rfl, fun j u hu => by rcases j with _ | _ | j <;> simp_all⟩
    · obtain rfl : _ = x := by simpa using hx
      exact ⟨_, rfl, fun j u hu => by rcases j with _ | _ | j <;> simp_all⟩
    · simp at hx
  have e3 : Sl W W.heap.size 2 CE (some ⟨w.heap.size + 1 + 1 + 1, 0, none⟩) [⟨1, true⟩] := Sl.blk h3 (by omega) fun i x hx => by
    rcases i with _ | i
    · obtain rfl : _ = x := by simpa using hx
      exact ⟨_, rfl, fun j u hu => by rcases j with _ | _ | j <;> simp_all⟩
    · simp at hx
  have e4 : Sl W W.heap.size 2 CE (some ⟨w.heap.size + 1 + 1 + 1 + 1, 0, none⟩) [⟨2, true⟩] := Sl.blk h4 (by omega) fun i x hx => by
    rcases i with _ | i
    · obtain rfl : _ = x := by simpa using hx
      exact ⟨_, rfl, fun j u hu => by rcases j with _ | _ | j <;> simp_all⟩
    · simp at hx
  have e6 : Sl W W.heap.size 2 CS (some ⟨w.heap.size + 1 + 1 + 1 + 1 + 1 + 1, 0, none⟩) [⟨1600, 0⟩] := Sl.blk h6 (by omega) fun i x hx => by
    rcases i with _ | i
    · obtain rfl : _ = x := by simpa using hx
      exact ⟨_, rfl, fun j u hu => by rcases j with _ | _ | j <;> simp_all⟩
    · simp at hx
  refine ⟨Sl.blk h5 (by omega) fun i x hx => ?_, by decide, by omega, Sl.blk h7 (by omega) fun i x hx => ?_, by decide, by omega⟩
  · rcases i with _ | _ | _ | _ | i
    · obtain rfl : _ = x := by simpa [exP] using hx
      exact ⟨_, ⟨_, 1, rfl, e1, by simp, by omega⟩, fun j u hu => by rcases j with _ | _ | _ | _ | _ | j <;> simp_all⟩
    · obtain rfl : _ = x := by simpa [exP] using hx
      exact ⟨_, ⟨_, 3, rfl, e2, by simp, by omega⟩, fun j u hu => by rcases j with _ | _ | _ | _ | _ | j <;> simp_all⟩
    · obtain rfl : _ = x := by simpa [exP] using hx
      exact ⟨_, ⟨_, 1, rfl, e3, by simp, by omega⟩, fun j u hu => by rcases j with _ | _ | _ | _ | _ | j <;> simp_all⟩
    · obtain rfl : _ = x := by simpa [exP] using hx
      exact ⟨_, ⟨_, 1, rfl, e4, by simp, by omega⟩, fun j u hu => by rcases j with _ | _ | _ | _ | _ | j <;> simp_all⟩
    · simp [exP] at hx
  · rcases i with _ | _ | _ | i
    · obtain rfl : _ = x := by simpa [exP] using hx
      exact ⟨_, ⟨none, 0, rfl, Sl.nil, by simp, by omega⟩, fun j u hu => by rcases j with _ | _ | _ | _ | _ | j <;> simp_all⟩
    · obtain rfl : _ = x := by simpa [exP] using hx
      exact ⟨_, ⟨none, 0, rfl, Sl.nil, by simp, by omega⟩, fun j u hu => by rcases j with _ | _ | _ | _ | _ | j <;> simp_all⟩
    · obtain rfl : _ = x := by simpa [exP] using hx
      exact ⟨_, ⟨_, 1, rfl, e6, by simp, by omega⟩, fun j u hu => by rcases j with _ | _ | _ | _ | _ | j <;> simp_all⟩
    · simp [exP] at hx

def ExPost (w : World) (e : Ending) (w' : World) : Prop :=
  (∃ (A A2 : Option Addr), e = .returned (.agg #[.slice A 4 4, .slice A2 3 3]) ∧ PlAt w' w'.heap.size A 4 A2 3 exP) ∧ Below w.heap.size w w'
theorem exO_below (w : World) : Below w.heap.size w ((exO w.heap.size).foldl World.alloc w) := by
  simp only [exO, List.foldl_cons, List.foldl_nil]
  exact ((((((((Below.refl _ w).alloc (Nat.le_refl _) _).alloc (by simp) _).alloc (by simp; omega) _).alloc (by simp; omega) _).alloc (by simp; omega) _).alloc (by simp; omega) _).alloc (by simp; omega) _).alloc (by simp; omega) _
set_option maxRecDepth 100000 in
set_option maxHeartbeats 4000000 in
theorem Example_any (w : World) : Calls Try.prog 35 #[] w (ExPost w) := by
  have HP := Lib.hid (exO_plan w); have HB := Lib.hid (exO_below w)
  go_enter Try.func35, Try.ntmps35
  go_wp2
  exact bodyPost_ret (v := .agg #[.slice (some ⟨w.heap.size + 1 + 1 + 1 + 1 + 1, 0, none⟩) 4 4, .slice (some ⟨w.heap.size + 1 + 1 + 1 + 1 + 1 + 1 + 1, 0, none⟩) 3 3]) (by simp [results, Try.results35, go_sem]) rfl ⟨⟨_, _, rfl, HP.out⟩, HB.out⟩
end Go.Proofs.Ytcpanfpijljeaaa
namespace Go.Proofs.Ytcpanfpijljeaaa
set_option linter.unusedVariables false
set_option linter.unusedSimpArgs false
open Go.RowKit

def PlainPost (v : Value) (w : World) (e : Ending) (w' : World) : Prop := e = .returned v ∧ Below w.heap.size w w'
theorem Length_ex (A A2 : Option Addr) (w : World) (h : PlAt w w.heap.size A 4 A2 3 exP) : Calls Try.prog 12 #[.agg #[.slice A 4 4, .slice A2 3 3], .int .i64 2] w (PlainPost (.tuple #[.int .i64 1240, .int .i64 0]) w) := by
  refine (Length_any A A2 4 3 exP 2 w h).mono ?_
  rintro e w' ⟨⟨_, _, rfl⟩ | ⟨h1 | h1, _⟩, hb⟩
  · exact ⟨by rw [ex_len2], hb⟩
  · exact absurd ex_valid h1
  · exact absurd h1 (by decide)
def NextExPost (w : World) (e : Ending) (w' : World) : Prop := (∃ A c, e = .returned (.tuple #[.slice A 2 c, .int .i64 0]) ∧ Sl w' w'.heap.size 2 CE A [⟨1, false⟩, ⟨2, false⟩]) ∧ Below w.heap.size w w'
theorem Next_ex (A A2 : Option Addr) (w : World) (h : PlAt w w.heap.size A 4 A2 3 exP) : Calls Try.prog 19 #[.agg #[.slice A 4 4, .slice A2 3 3], .agg #[.int .i64 0, .bool false]] w (NextExPost w) := by
  refine (Next_any A A2 4 3 exP ⟨0, false⟩ w h).mono ?_
  rintro e w' ⟨⟨_, _, v, rfl, ho⟩ | ⟨h1 | h1, _⟩, hb⟩
  · rw [show (nextL exP (keyE ⟨0, false⟩)).map moveE = [⟨1, false⟩, ⟨2, false⟩] by rw [show keyE ⟨0, false⟩ = 0 from rfl, ex_next0]; rfl] at ho
    obtain ⟨A3, c3, rfl, _, _, _⟩ := ho.form
    exact ⟨⟨A3, c3, rfl, (ho.sl fE_len rfl).keep (fun _ _ h => h) fun _ _ => rfl⟩, hb⟩
  · exact absurd ex_valid h1
  · exact absurd h1 (by decide)
theorem Between_ex (A A2 : Option Addr) (w : World) (h : PlAt w w.heap.size A 4 A2 3 exP) : Calls Try.prog 21 #[.agg #[.slice A 4 4, .slice A2 3 3], .agg #[.int .i64 0, .bool false], .agg #[.int .i64 2, .bool false]] w (PlainPost (.tuple #[.agg #[.int .i64 1, .int .i64 2], .int .i64 0]) w) := by
  refine (Between_any A A2 4 3 exP ⟨0, false⟩ ⟨2, false⟩ w h).mono ?_
  rintro e w' ⟨⟨h1 | h1 | h1, _⟩ | ⟨_, _, _, ⟨h1, _⟩ | ⟨_, _, rfl⟩⟩, hb⟩
  · exact absurd ex_valid h1
  · exact absurd h1 (by decide)
  · exact absurd h1 (by decide)
  · exact absurd ⟨ex_fol04, ex_kind⟩ h1
  · exact ⟨by rw [show keyE ⟨0, false⟩ = 0 from rfl, show keyE ⟨2, false⟩ = 4 from rfl, ex_at, ex_set], hb⟩
theorem ex_way : wayOk exP [⟨2, true⟩, ⟨0, true⟩] := by
  refine ⟨by decide, by decide, fun j hj => ?_⟩
  rcases (show j = 0 ∨ j = 1 by simp at hj; omega) with rfl | rfl
  · exact ⟨by decide, fun h => absurd h (by omega)⟩
  · exact ⟨by decide, fun _ => ex_fol51⟩
def CovExPost (w : World) (e : Ending) (w' : World) : Prop := (∃ A c, e = .returned (.tuple #[.slice A 2 c, .int .i64 0]) ∧ Sl w' w'.heap.size 3 CC A [⟨2, 0, 540⟩, ⟨0, 740, 1000⟩]) ∧ Below w.heap.size w w'
theorem Covers_ex (A A2 Aw : Option Addr) (w : World) (h : PlAt w w.heap.size A 4 A2 3 exP) (hA : Sl w w.heap.size 2 CE Aw [⟨2, true⟩, ⟨0, true⟩]) :
    Calls Try.prog 36 #[.agg #[.slice A 4 4, .slice A2 3 3], .slice Aw 2 2, .int .i64 1500, .int .i64 800] w (CovExPost w) := by
  refine (Covers_any A A2 Aw 4 3 2 exP [⟨2, true⟩, ⟨0, true⟩] 1500 800 w h hA (by decide)).mono ?_
  rintro e w' ⟨⟨_, v, rfl, ho⟩ | ⟨h1, _⟩, hb⟩
  · rw [show covL exP ([⟨2, true⟩, ⟨0, true⟩].map endNo) (1500 - 800) 1500 = [⟨2, 0, 540⟩, ⟨0, 740, 1000⟩] from ex_cov] at ho
    obtain ⟨A3, c3, rfl, _, _, _⟩ := ho.form
    exact ⟨⟨A3, c3, rfl, (ho.sl fC_len rfl).keep (fun _ _ h => h) fun _ _ => rfl⟩, hb⟩
  · refine absurd ⟨ex_valid, ex_way, by decide, by decide, ?_⟩ h1
    simp [wlen, endNo, lenAt, ex_lens]
def exRes : List C2 := [(1240, 1), (-1, 0), (-1, 0), (-1, 0), (0, 0), (-1, 0)]
theorem ex_costs : costsL (lenAt exP) (befL exP 6) (List.replicate 6 false) 6 4 5 = some exRes := by decide +kernel
def DistExPost (w : World) (e : Ending) (w' : World) : Prop := (∃ A, e = .returned (.tuple #[.slice A 6 6, .int .i64 0]) ∧ Sl w' w'.heap.size 1 CI A [1240, -1, -1, -1, 0, -1]) ∧ Below w.heap.size w w'
theorem Distances_ex (A A2 : Option Addr) (w : World) (h : PlAt w w.heap.size A 4 A2 3 exP) : Calls Try.prog 28 #[.agg #[.slice A 4 4, .slice A2 3 3], .agg #[.int .i64 2, .bool false]] w (DistExPost w) := by
  refine (Distances_any A A2 4 3 5 exRes exP ⟨2, false⟩ w h fun _ _ => ex_costs).mono ?_
  rintro e w' ⟨⟨_, _, rb, rfl, hr, hb'⟩ | ⟨h1 | h1, _⟩, hb⟩
  · exact ⟨⟨_, rfl, (show IRow w' rb [1240, -1, -1, -1, 0, -1] from hr).sl.more (fun _ _ h => h) hr.lt⟩, hb⟩
  · exact absurd ex_valid h1
  · exact absurd h1 (by decide)
theorem same_yes {α : Type} {l : List α} {w w' : World} {e : Ending} (h : SamePost l l w e w') : e = .returned (.bool true) ∧ Below w.heap.size w w' := by
  obtain ⟨⟨b, rfl, hb⟩, h2⟩ := h
  rw [hb.2 rfl]
  exact ⟨rfl, h2⟩

/-- the plan of the examples at block K, in a world that is later -/
structure Kst (w wr : World) (K : Nat) (A A2 : Option Addr) : Prop where
  k0 : wr.cell? ⟨K, 0, none⟩ = some (.slice A 4 4)
  k1 : wr.cell? ⟨K, 1, none⟩ = some (.slice A2 3 3)
  pl : PlAt wr wr.heap.size A 4 A2 3 exP
  be : Below w.heap.size w wr
  lt : K < wr.heap.size
theorem Kst.next {w wr w' : World} {K : Nat} {A A2 : Option Addr} (h : Kst w wr K A A2) (hb : Below wr.heap.size wr w') : Kst w w' K A A2 :=
  ⟨(hb.cell (p := ⟨K, 0, none⟩) h.lt).trans h.k0, (hb.cell (p := ⟨K, 1, none⟩) h.lt).trans h.k1, (h.pl.below hb).more hb.size, h.be.trans (hb.mono h.be.size), Nat.lt_of_lt_of_le h.lt hb.size⟩
theorem Sl.next {α : Type} {w w' : World} {size : Nat} {C : α → List Value → Prop} {A : Option Addr} {l : List α} (h : Sl w w.heap.size size C A l) (hb : Below w.heap.size w w') : Sl w' w'.heap.size size C A l := (h.below hb).more (fun _ _ h => h) hb.size
theorem bel_alloc (w : World) (o : Obj) : Below w.heap.size w (w.alloc o) := (Below.refl _ w).alloc (Nat.le_refl _) o
end Go.Proofs.Ytcpanfpijljeaaa
/- Contract: known: the rows of the examples come out. -/
namespace Go.Proofs.Ytcpanfpijljeaaa
open Go.RowKit

theorem new_blk (W : World) (cs : Array Value) (t : TypeId) : (W.alloc (.cells cs t)).heap[W.heap.size]? = some (.cells cs t) := heap_alloc_new W _
theorem new_moves (W : World) (a b : E) : Sl (W.alloc (.cells #[.int .i64 a.rail, .bool a.last, .int .i64 b.rail, .bool b.last] 40)) (W.alloc (.cells #[.int .i64 a.rail, .bool a.last, .int .i64 b.rail, .bool b.last] 40)).heap.size 2 CE (some ⟨W.heap.size, 0, none⟩) [a, b] :=
  Sl.blk (new_blk W _ _) (by simp) fun i x hx => by
    rcases i with _ | _ | i
    · obtain rfl : _ = x := by simpa using hx
      exact ⟨_, rfl, fun j u hu => by rcases j with _ | _ | j <;> simp_all⟩
    · obtain rfl : _ = x := by simpa using hx
      exact ⟨_, rfl, fun j u hu => by rcases j with _ | _ | j <;> simp_all⟩
    · simp at hx
theorem new_covers (W : World) (a b : C3) : Sl (W.alloc (.cells #[.int .i64 a.rail, .int .i64 a.frm, .int .i64 a.to, .int .i64 b.rail, .int .i64 b.frm, .int .i64 b.to] 82)) (W.alloc (.cells #[.int .i64 a.rail, .int .i64 a.frm, .int .i64 a.to, .int .i64 b.rail, .int .i64 b.frm, .int .i64 b.to] 82)).heap.size 3 CC (some ⟨W.heap.size, 0, none⟩) [a, b] :=
  Sl.blk (new_blk W _ _) (by simp) fun i x hx => by
    rcases i with _ | _ | i
    · obtain rfl : _ = x := by simpa using hx
      exact ⟨_, rfl, fun j u hu => by rcases j with _ | _ | _ | j <;> simp_all⟩
    · obtain rfl : _ = x := by simpa using hx
      exact ⟨_, rfl, fun j u hu => by rcases j with _ | _ | _ | j <;> simp_all⟩
    · simp at hx
theorem new_ints (W : World) (l : List Int) : Sl (W.alloc (.cells (l.map (Value.int .i64)).toArray 3)) (W.alloc (.cells (l.map (Value.int .i64)).toArray 3)).heap.size 1 CI (some ⟨W.heap.size, 0, none⟩) l :=
  (show IRow (W.alloc (.cells (l.map (Value.int .i64)).toArray 3)) W.heap.size l from heap_alloc_new W _).sl.more (fun _ _ h => h) (by simp)

set_option maxRecDepth 100000 in
set_option maxHeartbeats 4000000 in
theorem known_any (w : World) : Calls Try.prog 10 #[] w (PlainPost (.bool true) w) := by
  go_enter Try.func10, Try.ntmps10
  go_wp2_with fail
  refine (Example_any _).mono ?_
  rintro e w1 ⟨⟨A, A2, rfl, hP⟩, hb⟩
  have H1 := Lib.hid (show Kst w (w1.alloc (.cells #[.slice A 4 4, .slice A2 3 3] 25)) w1.heap.size A A2 from
    ⟨cell_of_row _ _ 0 _ _ _ (new_blk _ _ _), cell_of_row _ _ 1 _ _ _ (new_blk _ _ _), hP.box _, hb.alloc hb.size _, by simp⟩)
  clear hP hb
  go_wp2_with fail
  refine (Length_ex A A2 _ H1.out.pl).mono ?_
  rintro e w2 ⟨rfl, hb2⟩
  have H2 := Lib.hid (H1.out.next hb2)
  clear hb2 H1
  obtain ⟨k0, k1, _, _, _⟩ := H2.out
  go_wp2_with fail
  refine (Next_ex A A2 _ H2.out.pl).mono ?_
  rintro e w3 ⟨⟨A3, c3, rfl, hs3⟩, hb3⟩
  have H3 := Lib.hid (H2.out.next hb3)
  have S3 := Lib.hid hs3
  clear hb3 H2 hs3 k0 k1
  obtain ⟨k0, k1, _, _, _⟩ := H3.out
  go_wp2_with fail
  refine (Between_ex A A2 _ H3.out.pl).mono ?_
  rintro e w4 ⟨rfl, hb4⟩
  have H4 := Lib.hid ((H3.out.next hb4).next (bel_alloc w4 (.cells #[.int .i64 1, .int .i64 2] 48)))
  have S4 := Lib.hid ((S3.out.next hb4).next (bel_alloc w4 (.cells #[.int .i64 1, .int .i64 2] 48)))
  have C4 := Lib.hid (new_blk w4 #[.int .i64 1, .int .i64 2] 48)
  clear hb4 H3 S3 k0 k1
  obtain ⟨W4, hW4⟩ : ∃ W, w4.alloc (.cells #[.int .i64 1, .int .i64 2] 48) = W := ⟨_, rfl⟩
  have hz4 : w4.heap.size < W4.heap.size := by rw [← hW4]; simp
  rw [hW4] at H4 S4 C4
  obtain ⟨k0, k1, _, _, _⟩ := H4.out
  have H5 := Lib.hid (H4.out.next (bel_alloc W4 (.cells #[.int .i64 2, .bool true, .int .i64 0, .bool true] 40)))
  have S5 := Lib.hid (S4.out.next (bel_alloc W4 (.cells #[.int .i64 2, .bool true, .int .i64 0, .bool true] 40)))
  have C5 := Lib.hid (((bel_alloc W4 (.cells #[.int .i64 2, .bool true, .int .i64 0, .bool true] 40)).block w4.heap.size hz4).trans C4.out)
  go_wp2_with fail
  refine (Covers_ex A A2 (some ⟨W4.heap.size, 0, none⟩) _ H5.out.pl (new_moves W4 ⟨2, true⟩ ⟨0, true⟩)).mono ?_
  rintro e w6 ⟨⟨A5, c5, rfl, hs6⟩, hb6⟩
  have H6 := Lib.hid (H5.out.next hb6)
  have S6 := Lib.hid (S5.out.next hb6)
  have C6 := Lib.hid ((hb6.block w4.heap.size (by simp; omega)).trans C5.out)
  have hz6 : w4.heap.size < w6.heap.size := by have := hb6.size; simp at this; omega
  have T6 := Lib.hid hs6
  clear hb6 H5 S5 C5 H4 S4 C4 hs6 k0 k1 hW4
  obtain ⟨k0, k1, _, _, _⟩ := H6.out
  go_wp2_with fail
  refine (Distances_ex A A2 _ H6.out.pl).mono ?_
  rintro e w7 ⟨⟨A6, rfl, hs7⟩, hb7⟩
  have H7 := Lib.hid (H6.out.next hb7)
  have S7 := Lib.hid (S6.out.next hb7)
  have T7 := Lib.hid (T6.out.next hb7)
  have C7 := Lib.hid ((hb7.block w4.heap.size hz6).trans C6.out)
  have hz7 : w4.heap.size < w7.heap.size := by have := hb7.size; omega
  have U7 := Lib.hid hs7
  clear hb7 H6 S6 C6 T6 hs7 k0 k1
  have HA := Lib.hid (bel_alloc w7 (.cells #[.int .i64 1, .bool false, .int .i64 2, .bool false] 40))
  go_wp2_with fail
  refine (sameMoves_any A3 (some ⟨w7.heap.size, 0, none⟩) [⟨1, false⟩, ⟨2, false⟩] [⟨1, false⟩, ⟨2, false⟩] c3 2 _ (S7.out.next HA.out) (new_moves w7 ⟨1, false⟩ ⟨2, false⟩) (by decide)).mono ?_
  intro e w8 hp8
  obtain ⟨rfl, hb8⟩ := same_yes hp8
  have HB8 := Lib.hid (HA.out.trans (hb8.mono HA.out.size))
  have T8 := Lib.hid (T7.out.next HB8.out)
  have U8 := Lib.hid (U7.out.next HB8.out)
  have hc8 := (HB8.out.block w4.heap.size hz7).trans C7.out
  have y0 : w8.cell? ⟨w4.heap.size, 0, none⟩ = some (.int .i64 1) := cell_of_row _ _ 0 _ _ _ hc8
  have y1 : w8.cell? ⟨w4.heap.size, 1, none⟩ = some (.int .i64 2) := cell_of_row _ _ 1 _ _ _ hc8
  have HC := Lib.hid (bel_alloc w8 (.cells #[.int .i64 2, .int .i64 0, .int .i64 540, .int .i64 0, .int .i64 740, .int .i64 1000] 82))
  clear hp8 hb8 hc8
  go_wp2_with fail
  refine (sameCovers_any A5 (some ⟨w8.heap.size, 0, none⟩) [⟨2, 0, 540⟩, ⟨0, 740, 1000⟩] [⟨2, 0, 540⟩, ⟨0, 740, 1000⟩] c5 2 _ (T8.out.next HC.out) (new_covers w8 ⟨2, 0, 540⟩ ⟨0, 740, 1000⟩) (by decide)).mono ?_
  intro e w9 hp9
  obtain ⟨rfl, hb9⟩ := same_yes hp9
  have HB9 := Lib.hid (HC.out.trans (hb9.mono HC.out.size))
  have U9 := Lib.hid (U8.out.next HB9.out)
  have HD := Lib.hid (bel_alloc w9 (.cells #[.int .i64 1240, .int .i64 (-1), .int .i64 (-1), .int .i64 (-1), .int .i64 0, .int .i64 (-1)] 3))
  clear hp9 hb9 y0 y1
  go_wp2_with fail
  refine (same_any A6 (some ⟨w9.heap.size, 0, none⟩) [1240, -1, -1, -1, 0, -1] [1240, -1, -1, -1, 0, -1] 6 6 _ (U9.out.next HD.out) (new_ints w9 [1240, -1, -1, -1, 0, -1]) (by decide)).mono ?_
  intro e w10 hp10
  obtain ⟨rfl, hb10⟩ := same_yes hp10
  have HE := Lib.hid (H7.out.be.trans ((((HB8.out.trans (HB9.out.mono HB8.out.size)).trans (HD.out.mono (Nat.le_trans HB8.out.size HB9.out.size))).trans (hb10.mono (Nat.le_trans (Nat.le_trans HB8.out.size HB9.out.size) HD.out.size))).mono H7.out.be.size))
  clear hp10 hb10
  go_wp2
  go_ret
  exact ⟨rfl, HE.out⟩
end Go.Proofs.Ytcpanfpijljeaaa
