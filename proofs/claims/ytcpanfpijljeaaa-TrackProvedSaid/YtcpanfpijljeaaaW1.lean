/- Contract: Distances: the distances to a move. -/
import Derived.Test.YtcpanfpijljeaaaR8
import Derived.Deep.RegionHeld3
namespace Go.Proofs.Ytcpanfpijljeaaa
set_option linter.unusedVariables false
set_option linter.unusedSimpArgs false
open Go.RowKit

theorem inf4 : (Try.prog.info? 4).map (fun i => (i.zero, i.size, i.bytes)) = some (some (.bool false), 1, 1) := by kernel_rfl
theorem inf3 : (Try.prog.info? 3).map (fun i => (i.zero, i.size, i.bytes)) = some (some (.int .i64 0), 1, 8) := by kernel_rfl
theorem BRow.made (w : World) (m : Nat) : BRow (w.alloc (.cells (madeCells #[.bool false] m) 4)) w.heap.size (List.replicate m false) := by
  unfold BRow
  rw [heap_alloc_new]
  congr 2
  apply Array.ext
  · simp [madeCells]
  · intro i h1 h2
    simp [madeCells, Nat.mod_one]
theorem BRow.below {w w' : World} {b B : Nat} {l : List Bool} (h : BRow w b l) (hb : Below B w w') (hB : b < B) : BRow w' b l := (hb.block b hB).trans h
theorem relax_len1 (cl : List Bool) (c : C2) (s : List C2 × List V3) (b : Int) : (relax cl c s b).1.length = s.1.length := by
  unfold relax; split <;> simp
theorem relaxes_len1 (cl : List Bool) (c : C2) : ∀ (L : List Int) (s : List C2 × List V3), (L.foldl (relax cl c) s).1.length = s.1.length := by
  intro L
  induction L with
  | nil => intro s; rfl
  | cons b L ih => intro s; rw [List.foldl_cons, ih, relax_len1]
theorem search_len {ln : Int → Int} {bef : Nat → List Int} {cl : List Bool} {res : List C2} : ∀ (n : Nat) (cs : List C2) (it : List V3), search ln bef cl n cs it = some res → res.length = cs.length := by
  intro n
  induction n with
  | zero => intro cs it h; simp [search] at h
  | succ n ih =>
    intro cs it h
    cases it with
    | nil => obtain rfl : cs = res := Option.some.inj h; rfl
    | cons x r =>
      rw [search] at h
      split at h
      · cases h
      · split at h
        · split at h
          · cases h
          · rw [ih _ _ h, relaxes_len1]
        · exact ih _ _ h
theorem costsL_len {ln : Int → Int} {bef : Nat → List Int} {cl : List Bool} {res : List C2} {M t n : Nat} (h : costsL ln bef cl M t n = some res) : res.length = M := by
  unfold costsL at h
  split at h
  · rw [← Option.some.inj h]; simp
  · rw [search_len _ _ _ h]; simp

theorem costs_M (B g kb to n : Nat) (cl : List Bool) (res : List C2) (p : Pl) (w : World) (M : Nat) (hM : 2 * p.rails.length = M) (h : Nw w B g p) (hB : B ≤ w.heap.size) (hto : to < M) (hcl : cl.length = M) (hk : BRow w kb cl)
    (hs : costsL (lenAt p) (befL p M) cl M to n = some res) :
    Calls Try.prog 56 #[.pointer (some ⟨g, 0, none⟩), .int .i64 (to : Int), .slice (some ⟨kb, 0, none⟩) M M] w (CostsPost M res w) := by
  subst hM
  exact costs_any B g kb to n cl res p w h hB hto hcl hk hs
def fillRow (l : List C2) (M k : Nat) : List Int := (l.take k).map (·.1) ++ List.replicate (M - k) 0
theorem fillRow_set {l : List C2} {M k : Nat} (hl : l.length = M) (h : k < M) : (fillRow l M k).set k (l[k]'(by omega)).1 = fillRow l M (k + 1) := by
  unfold fillRow
  rw [List.set_append_right _ _ (by simp; omega)]
  rw [List.take_succ_eq_append_getElem (by omega), List.map_append, List.append_assoc]
  congr 1
  simp only [List.length_map, List.length_take]
  rw [show k - min k l.length = 0 by omega, show M - k = (M - (k + 1)) + 1 by omega, List.replicate_succ]
  simp
theorem fillRow_len {l : List C2} {M k : Nat} (hl : l.length = M) (h : k ≤ M) : (fillRow l M k).length = M := by simp [fillRow]; omega
theorem fillRow_all {l : List C2} {M : Nat} (hl : l.length = M) : fillRow l M M = l.map (·.1) := by simp [fillRow, ← hl]

def DistPost (p : Pl) (m : E) (res : List C2) (w : World) (e : Ending) (w' : World) : Prop :=
  ((Vld p ∧ railIn p m.rail = true ∧ ∃ rb, e = .returned (.tuple #[.slice (some ⟨rb, 0, none⟩) (2 * p.rails.length) (2 * p.rails.length), .int .i64 0]) ∧ IRow w' rb (res.map (·.1)) ∧ w.heap.size ≤ rb) ∨ ((¬ Vld p ∨ railIn p m.rail = false) ∧ e = .returned (.tuple #[.slice none 0 0, .int .i64 2]))) ∧ Below w.heap.size w w'
set_option maxRecDepth 100000 in
set_option maxHeartbeats 4000000 in
theorem Distances_any (A0 A20 : Option Addr) (c0 c20 n : Nat) (res : List C2) (p : Pl) (m : E) (w : World) (hP : PlAt w w.heap.size A0 c0 A20 c20 p)
    (hs : Vld p → railIn p m.rail = true → costsL (lenAt p) (befL p (2 * p.rails.length)) (List.replicate (2 * p.rails.length) false) (2 * p.rails.length) (keyE m) n = some res) :
    Calls Try.prog 28 #[.agg #[.slice A0 p.nodes.length c0, .slice A20 p.rails.length c20], .agg #[.int .i64 m.rail, .bool m.last]] w (DistPost p m res w) := by
  have HP := Lib.hid ((hP.box (.cells #[.slice A0 p.nodes.length c0, .slice A20 p.rails.length c20] 25)).box (.cells #[.int .i64 m.rail, .bool m.last] 40)); clear hP
  have HS := Lib.hid hs; clear hs
  go_enter Try.func28, Try.ntmps28
  go_wp2_with fail
  refine (survey_any A0 A20 c0 c20 p _ HP.out).mono ?_
  rintro e w1 ⟨hb, ⟨hv, rfl⟩ | ⟨hv, g, rfl, hg, hN⟩⟩
  · have HV := Lib.hid hv; have HB := Lib.hid hb; clear hv hb
    go_wp2
    go_ret2
    exact ⟨.inr ⟨.inl HV.out, rfl⟩, (((Below.refl _ _).alloc (Nat.le_refl _) _).alloc (by simp) _).trans (HB.out.mono (by simp; omega))⟩
  · have HV := Lib.hid hv; have HB := Lib.hid hb; have HN := Lib.hid hN
    obtain ⟨hc2, hf2⟩ := bcell hb
    have hz1 := hb.size
    simp at hz1
    clear hv hb hN
    go_wp2_with fail
    refine (hasRail_any _ g p m.rail _ HN.out).mono ?_
    rintro e w2 ⟨rfl, rfl⟩
    cases hr : railIn p m.rail
    · have HR := Lib.hid hr; clear hr
      go_wp2
      go_ret2
      exact ⟨.inr ⟨.inr HR.out, rfl⟩, (((Below.refl _ _).alloc (Nat.le_refl _) _).alloc (by simp) _).trans (HB.out.mono (by simp; omega))⟩
    · have HR := Lib.hid hr
      have HSS := Lib.hid (HS.out HV.out hr)
      have hsz := HN.out.sizes
      have hr2 := of_decide_eq_true hr
      have hr0 := hr2.1
      have hr1 : m.rail ≤ 1000000 := by omega
      obtain ⟨kk, kl⟩ := key_lt hr
      have HK := Lib.hid kk
      clear hr hr2 kk
      obtain ⟨A, c, A2, c2, lb, sb, nb, bb, hN, h1, h2, h3, h4, h5, h6⟩ := HN.out.net
      obtain ⟨_, _, _, _, c4, _⟩ := hN.cell
      have hgB := HN.out.gB
      obtain ⟨M, hM⟩ : ∃ M, 2 * p.rails.length = M := ⟨_, rfl⟩
      rw [hM] at c4 kl
      have HMM := Lib.hid hM
      have hM8 : M ≤ 800 := by omega
      clear hM
      have y0 := hc2 (w.heap.size + 1) 0 (by simp)
      have y1 := hc2 (w.heap.size + 1) 1 (by simp)
      rw [show ((w.alloc (.cells #[.slice A0 p.nodes.length c0, .slice A20 p.rails.length c20] 25)).alloc (.cells #[.int .i64 m.rail, .bool m.last] 40)).cell? ⟨w.heap.size + 1, 0, none⟩ = some (.int .i64 m.rail) by simp] at y0
      rw [show ((w.alloc (.cells #[.slice A0 p.nodes.length c0, .slice A20 p.rails.length c20] 25)).alloc (.cells #[.int .i64 m.rail, .bool m.last] 40)).cell? ⟨w.heap.size + 1, 1, none⟩ = some (.bool m.last) by simp] at y1
      obtain ⟨i0, hi, hz0, hz1', hz2⟩ := info_parts inf3
      have hmk : ∀ W : World, (Instr.makeSlice 65 (.int .i64 (M : Int)) (.int .i64 (M : Int))).run Try.prog W = .ok (.slice (some ⟨W.heap.size, 0, none⟩) M M) (W.alloc (.cells (madeCells #[.int .i64 0] M) 3)) := fun W => by
        have := run_mk (P := Try.prog) 65 3 i0 _ 1 Try.underlying65 hi hz0 hz1' (M : Int) (M : Int) M M rfl rfl (by omega) (by rw [hz2]; omega) (by omega) W
        rw [this, Nat.mul_one]; rfl
      obtain ⟨i1, hi1, hy0, hy1, hy2⟩ := info_parts inf4
      have hmb : ∀ W : World, (Instr.makeSlice 70 (.int .i64 (M : Int)) (.int .i64 (M : Int))).run Try.prog W = .ok (.slice (some ⟨W.heap.size, 0, none⟩) M M) (W.alloc (.cells (madeCells #[.bool false] M) 4)) := fun W => by
        have := run_mk (P := Try.prog) 70 4 i1 _ 1 Try.underlying70 hi1 hy0 hy1 (M : Int) (M : Int) M M rfl rfl (by omega) (by rw [hy2]; omega) (by omega) W
        rw [this, Nat.mul_one]; rfl
      clear hN h3 h4 h5 h6 hc2 hf2
      go_wp2
      have HR0 := Lib.hid (IRow.made w1 M)
      obtain ⟨W0, hW0⟩ : ∃ W0, w1.alloc (.cells (madeCells #[.int .i64 0] M) 3) = W0 := ⟨_, rfl⟩
      have hzW : W0.heap.size = w1.heap.size + 1 := by rw [← hW0]; simp
      have HBW := Lib.hid (show Below w1.heap.size w1 W0 by rw [← hW0]; exact (Below.refl _ _).alloc (Nat.le_refl _) _)
      rw [hW0] at HR0 ⊢
      have s0 := (HBW.out.cell (p := ⟨g, 4, none⟩) (by simp; omega)).trans c4
      have s1 := (HBW.out.cell (p := ⟨w.heap.size + 1, 0, none⟩) (by simp; omega)).trans y0
      have s2 := (HBW.out.cell (p := ⟨w.heap.size + 1, 1, none⟩) (by simp; omega)).trans y1
      have HZW := Lib.hid hzW
      clear hW0 hmk c4 y0 y1 hzW
      have hzw : w1.heap.size ≤ W0.heap.size := by have := HZW.out; omega
      have hrep : (List.replicate M false).length = M := by simp
      have HS2 := Lib.hid (show costsL (lenAt p) (befL p M) (List.replicate M false) M (keyE m) n = some res by have := HSS.out; rwa [HMM.out] at this)
      go_region_held3 (fun w' => w'.cell? ⟨g, 4, none⟩ = some (.slice (some ⟨nb, 0, none⟩) M M) ∧ w'.cell? ⟨w.heap.size + 1, 0, none⟩ = some (.int .i64 m.rail) ∧ w'.cell? ⟨w.heap.size + 1, 1, none⟩ = some (.bool m.last))
        (first
          | (go_keep; done)
          | exact ⟨(hx.cell (p := ⟨g, 4, none⟩) (by have := HZW.out; simp; omega)).trans s0, (hx.cell (p := ⟨w.heap.size + 1, 0, none⟩) (by have := HZW.out; simp; omega)).trans s1, (hx.cell (p := ⟨w.heap.size + 1, 1, none⟩) (by have := HZW.out; simp; omega)).trans s2⟩
          | exact ⟨(hy.cell (p := ⟨g, 4, none⟩) (by have := HZW.out; simp; omega)).trans s0, (hy.cell (p := ⟨w.heap.size + 1, 0, none⟩) (by have := HZW.out; simp; omega)).trans s1, (hy.cell (p := ⟨w.heap.size + 1, 1, none⟩) (by have := HZW.out; simp; omega)).trans s2⟩)
        ((first
          | (go_at_call 49; refine (number_any m _ hr0 hr1).mono ?_; rintro e w2 ⟨rfl, hb2⟩; rw [← HK.out]; have hxs := hb2.size; have hx : Below W0.heap.size W0 w2 := by first | exact (Below.refl _ _).drew.trans hb2 | exact (((Below.refl W0.heap.size W0).alloc (Nat.le_refl _) _).drew.trans (hb2.mono (by simp))))
          | (go_at_call 56; have hxz := hx.size; have q1 : w1.heap.size ≤ w2.heap.size := (by omega); have q2 := HN.out.below ((HBW.out.trans (hx.mono hzw)).alloc q1 (.cells (madeCells #[.bool false] M) 4)); have q3 := BRow.made w2 M; have q4 : w1.heap.size ≤ (w2.alloc (.cells (madeCells #[.bool false] M) 4)).heap.size := (by simp; omega); (with_reducible refine (costs_M w1.heap.size g w2.heap.size (keyE m) n (List.replicate M false) res p _ M HMM.out q2 q4 kl hrep q3 HS2.out).mono ?_); rintro e w3 ⟨⟨cb, rfl, hrow, hcb⟩, hb3⟩; have hcb' : W0.heap.size ≤ cb := (by simp at hcb; omega); have hy : Below W0.heap.size W0 w3 := (hx.alloc hxz _).trans (hb3.mono (by simp; omega)); clear q2 q3)
          | (go_at_call 56; have hxz := hx.size; have q1 : w1.heap.size ≤ w2.heap.size := (by omega); have q2 := HN.out.below (HBW.out.trans (hx.mono hzw)); have q3 := (BRow.made W0 M).below (B := W0.heap.size + 1) ((Below.refl _ _).drew.trans (hb2.mono (by simp))) (by omega); (with_reducible refine (costs_M w1.heap.size g W0.heap.size (keyE m) n (List.replicate M false) res p _ M HMM.out q2 q1 kl hrep q3 HS2.out).mono ?_); rintro e w3 ⟨⟨cb, rfl, hrow, hcb⟩, hb3⟩; have hcb' : W0.heap.size ≤ cb := (by omega); have hy : Below W0.heap.size W0 w3 := hx.trans (hb3.mono hxz); clear q2 q3)))
      all_goals
        have HY := Lib.hid hy; have HROW := Lib.hid hrow
        have hzy := hy.size
        have hlen := costsL_len HS2.out
        have HLEN := Lib.hid hlen
        clear hy hrow hx hb2 hb3 hmb s0 s1 s2 hlen
        have HR3 := Lib.hid (HR0.out.below HY.out (by have := HZW.out; omega))
        have HCB := Lib.hid (show w1.heap.size ≠ cb by have := HZW.out; omega)
        go_wp2
        go_loopw [42] (fun i wr => ∃ k : Nat, k ≤ M ∧ i = .int .i64 (k : Int) ∧ IRow wr w1.heap.size (fillRow res M k) ∧ CRow wr cb res ∧ Below w1.heap.size w1 wr) (fun i _ => M - (intOf i).toNat)
        case atStart => exact ⟨0, by omega, rfl, by have := HR3.out; simpa [fillRow] using this, HROW.out, HBW.out.trans (HY.out.mono hzw)⟩
        case round =>
          obtain ⟨k, hk, rfl, hr4, hc4, hb4⟩ := hrel
          have HR4 := Lib.hid hr4; have HC4 := Lib.hid hc4; have HB4 := Lib.hid hb4
          have hl1 := hr4.lt
          have hl2 := hc4.lt
          have hcne := HCB.out
          clear hr4 hc4 hb4
          by_cases hlt : k < M
          · obtain ⟨f0, f1⟩ := HC4.out.cell (i := k) (by have := HLEN.out; omega)
            have f2 := HR4.out.cell (i := k) (by rw [fillRow_len HLEN.out hk]; exact hlt)
            have f3 := HR4.out.frozen k
            obtain ⟨a1, ha1⟩ : ∃ a, (res[k]'(by have := HLEN.out; omega)).1 = a := ⟨_, rfl⟩
            obtain ⟨a2, ha2⟩ : ∃ a, (res[k]'(by have := HLEN.out; omega)).2 = a := ⟨_, rfl⟩
            rw [ha1] at f0
            rw [ha2] at f1
            have HA1 := Lib.hid ha1
            have k0 : (0 : Int) ≤ (k : Int) := by omega
            have k1 : (k : Int) < (M : Int) := by omega
            have hl3 : w1.heap.size < wr.heap.size + 1 := by omega
            have hl4 : cb < wr.heap.size + 1 := by omega
            clear ha1 ha2
            go_wp2
            go_roundw
            case rel => exact ⟨k + 1, by omega, by go_num, by rw [← fillRow_set HLEN.out hlt, HA1.out]; exact (HR4.out.set k a1).alloc _, (CRow.of (w := wr) HC4.out (Below.heap_setCell _ _ _ _ (Ne.symm HCB.out))).alloc _, (HB4.out.setCell (p := ⟨w1.heap.size, k, none⟩) (Nat.le_refl _) _).alloc (by have := HB4.out.size; simpa [World.setCell] using this) _⟩
            case measure => simp [intOf]; omega
          · obtain rfl : M = k := by omega
            have HF := Lib.hid (show IRow wr w1.heap.size (res.map (·.1)) by have := HR4.out; rwa [fillRow_all HLEN.out] at this)
            go_wp2
            go_ret2
            exact ⟨.inl ⟨HV.out, HR.out, w1.heap.size, by rw [HMM.out]; rfl, HF.out, by omega⟩, ((((Below.refl _ _).alloc (Nat.le_refl _) _).alloc (by simp) _).trans (HB.out.mono (by simp; omega))).trans (HB4.out.mono (by omega))⟩
end Go.Proofs.Ytcpanfpijljeaaa
