/- Two moves, and their opposites: plain facts; contracts: Opposite, Move, fine, Next, Follows, Between as they are where the plan is valid. -/
import Derived.Test.YtcpanfpijljeaaaG3
import Derived.Test.YtcpanfpijljeaaaA1
import Derived.Test.YtcpanfpijljeaaaA2
namespace Go.Proofs.Ytcpanfpijljeaaa
set_option linter.unusedVariables false
set_option linter.unusedSimpArgs false
open Go.RowKit

theorem at_place {p : Pl} (h : okEnds p) {i s : Nat} (hi : i < p.nodes.length) (hs : s < p.nodes[i].ends.length) :
    nodeAtZ p (endNo p.nodes[i].ends[s]) = i ∧ slAt p (keyE p.nodes[i].ends[s]) = s ∧ 0 ≤ endNo p.nodes[i].ends[s] := by
  have hok := h.1 i hi _ (List.getElem_mem hs)
  have hb := endNo_bd hok
  refine ⟨by rw [nodeAtZ_end p _ hok.1, hok.2.2], ?_, hb.1⟩
  have hmem : (p.nodes[i].ends[s], s) ∈ allQ p := by
    unfold allQ
    refine List.mem_flatMap.2 ⟨p.nodes[i], List.getElem_mem hi, ?_⟩
    rw [List.mem_zipIdx_iff_getElem?]
    exact List.getElem?_eq_getElem hs
  have hl : keyE p.nodes[i].ends[s] < (fillS (2 * p.rails.length) (allQ p)).length := by rw [fillS_len]; unfold keyE; omega
  have := fillS_get (2 * p.rails.length) _ (allQ p) rfl (by have := keys_nodup h; rw [← allQ_fst, List.map_map] at this; exact this) _ hmem hl
  unfold slAt slotsOf
  rw [List.getElem?_eq_getElem hl]
  exact this
theorem flip_flip (m : Nat) : flip (flip m) = m := by unfold flip; split <;> split <;> omega
theorem thru_back {k nm : Int} {a s : Int} (hk : k ≠ 5) (h1 : 1 ≤ k) (h6 : k ≤ 6) (ha : 0 ≤ a) (ha2 : a < endsZ k) (hn : k = 6 → nm = 1 ∨ nm = 2) (h : s ∈ thru k nm a) : a ∈ thru k nm s := by
  rcases (show k = 1 ∨ k = 2 ∨ k = 3 ∨ k = 4 ∨ k = 6 by omega) with e | e | e | e | e <;> (subst e; simp only [endsZ, thru] at *)
  · simp at h
  · simp at h ⊢; omega
  · simp at h ha2 ⊢; omega
  · simp at ha2
    by_cases h0 : a = 0
    · simp [h0] at h
      rcases h with rfl | rfl <;> simp [h0]
    · simp [h0] at h
      subst h
      simp; omega
  · simp at ha2
    have hn' := hn trivial
    by_cases h0 : a = 0
    · simp [h0] at h
      subst h
      rcases hn' with e | e <;> simp [h0, e]
    · by_cases h9 : a = nm
      · have h10 : nm ≠ 0 := by omega
        simp [h9, h10] at h
        subst h
        simp [h9]
      · simp [h0, h9] at h
theorem thru_more {k nm a : Int} (h : 1 < (thru k nm a).length) : k = 4 := by
  unfold thru at h
  (repeat' split at h) <;> first | assumption | (simp at h)

/-- what lies at the end of a move, and what goes on from there -/
theorem leave_place {p : Pl} (hV : Vld p) {m n : Nat} (hm : m < 2 * p.rails.length) (hn : n < 2 * p.rails.length) :
    ∃ (i : Nat) (hi : i < p.nodes.length) (a : Nat), a < p.nodes[i].ends.length ∧ nodeAtZ p (flip m : Nat) = i ∧ slAt p (flip m) = a ∧ keyE (endAt p.nodes[i] a) = flip m ∧ atN p (flip m) = p.nodes[i] ∧
      (((n : Int) ∈ leaveL p m) ↔ (nodeAtZ p (n : Int) = i ∧ slAt p n ∈ thru p.nodes[i].kind p.nodes[i].normal (a : Int))) := by
  have hf := flip_lt hm
  obtain ⟨i, hi, a, ha, h1, h2, h3⟩ := slots_spec hV.ends hf
  have hfl : flip m < (slotsOf p).length := by rw [slots_len]; exact hf
  have hsl : slAt p (flip m) = a := by rw [← slAt_eq hfl]; exact h3 hfl
  have hnd : atN p (flip m) = p.nodes[i] := atN_eq h2 hi
  refine ⟨i, hi, a, ha, h2, hsl, ?_, hnd, ?_⟩
  · rw [endAt_nat ha]; exact h1
  · unfold leaveL
    rw [hnd, hsl]
    have hb := thru_lt (List.all_eq_true.1 hV.nodes _ (List.getElem_mem hi)) ha
    constructor
    · intro hx
      obtain ⟨s, hs, he⟩ := List.mem_map.1 hx
      obtain ⟨s0, s1⟩ := hb s hs
      obtain ⟨t, rfl⟩ := Int.eq_ofNat_of_zero_le s0
      have ht : t < p.nodes[i].ends.length := by omega
      rw [endAt_nat ht] at he
      obtain ⟨q1, q2, q3⟩ := at_place hV.ends hi ht
      have hk : keyE p.nodes[i].ends[t] = n := by unfold keyE; rw [he]; simp
      rw [he] at q1
      rw [hk] at q2
      exact ⟨q1, by rw [q2]; exact hs⟩
    · rintro ⟨q1, q2⟩
      obtain ⟨i', hi', k', hk', r1, r2, r3⟩ := slots_spec hV.ends hn
      have hnl : n < (slotsOf p).length := by rw [slots_len]; exact hn
      have hs2 : slAt p n = k' := by rw [← slAt_eq hnl]; exact r3 hnl
      obtain rfl : i' = i := by rw [r2] at q1; omega
      rw [hs2] at q2
      refine List.mem_map.2 ⟨(k' : Int), q2, ?_⟩
      rw [endAt_nat hk']
      have := (at_place hV.ends hi' hk').2.2
      omega
theorem follows_back {p : Pl} (hV : Vld p) {m n : Nat} (hm : m < 2 * p.rails.length) (hn : n < 2 * p.rails.length) (hk : (atN p (flip m)).kind ≠ 5) (h : folB p m n = true) :
    folB p (flip n) (flip m : Nat) = true ∧ nodeAtZ p (n : Int) = nodeAtZ p (flip m : Nat) := by
  rw [folB_iff] at h ⊢
  unfold nextL at h ⊢
  rw [List.mem_mergeSort] at h ⊢
  obtain ⟨i, hi, a, ha, h1, h2, h3, h4, h5⟩ := leave_place hV hm hn
  obtain ⟨q1, q2⟩ := h5.1 h
  rw [h4] at hk
  have hnf := flip_lt hn
  have hmf := flip_lt hm
  obtain ⟨i', hi', a', ha', g1, g2, g3, g4, g5⟩ := leave_place hV hnf hmf
  rw [flip_flip] at g1 g2
  obtain rfl : i' = i := by rw [g1] at q1; omega
  refine ⟨g5.2 ⟨h1, ?_⟩, by rw [q1, h1]⟩
  rw [h2]
  rw [g2] at q2
  have hB := nodeB_parts (List.all_eq_true.1 hV.nodes _ (List.getElem_mem hi'))
  refine thru_back hk hB.1 hB.2.1 (by omega) (by have := hB.2.2.1; omega) (fun h6 => ?_) q2
  have hnb := hB.2.2.2.1
  unfold normB at hnb
  rw [h6] at hnb
  simp at hnb
  omega
theorem next_more {p : Pl} {m : Nat} (h : 1 < (nextL p m).length) : (atN p (flip m)).kind = 4 := by
  unfold nextL at h
  rw [List.length_mergeSort] at h
  unfold leaveL at h
  rw [List.length_map] at h
  exact thru_more h
theorem set_back {p : Pl} {m n : Nat} : setZ p (flip n) (flip m) = setZ p m n := by
  unfold setZ
  rw [flip_flip]
  split <;> split <;> omega
/-- the opposite move -/
def opE (m : E) : E := ⟨m.rail, !m.last⟩
theorem key_op {m : E} (h : 0 ≤ m.rail) : keyE (opE m) = flip (keyE m) := by
  obtain ⟨r, l⟩ := m
  have h' : 0 ≤ r := h
  unfold keyE endNo opE flip
  cases l <;> simp <;> (split <;> omega)

set_option maxHeartbeats 1000000 in
theorem Opposite_any (r : Int) (b : Bool) (w : World) :
    Calls Try.prog 26 #[.agg #[.int .i64 r, .bool b]] w fun e w' => e = .returned (.agg #[.int .i64 r, .bool !b]) ∧ Below w.heap.size w w' := by
  go_enter Try.func26, Try.ntmps26
  go_wp2
  exact bodyPost_ret (v := .agg #[.int .i64 r, .bool !b]) (by simp [results, Try.results26, go_sem]) rfl ⟨rfl, (((Below.refl _ _).alloc (Nat.le_refl _) _).alloc (by simp) _)⟩

theorem railIn_in (p : Pl) (r : Int) : inB r 0 ((p.rails.length : Int) - 1) = railIn p r := by
  unfold inB railIn
  rw [Bool.eq_iff_iff]
  simp
  omega
set_option maxHeartbeats 1000000 in
theorem Move_any (A A2 : Option Addr) (c c2 : Nat) (p : Pl) (r : Int) (b : Bool) (w : World) (hP : PlAt w w.heap.size A c A2 c2 p) :
    Calls Try.prog 47 #[.agg #[.slice A p.nodes.length c, .slice A2 p.rails.length c2], .agg #[.int .i64 r, .bool b]] w fun e w' => e = .returned (.bool (railIn p r)) ∧ Below w.heap.size w w' := by
  have h1 := hP.rc; have h2 := hP.rm
  clear hP
  go_enter Try.func47, Try.ntmps47
  go_wp2_with fail
  refine (in_any _ _ _ _).mono ?_
  rintro e w1 ⟨rfl, rfl⟩
  rw [railIn_in]
  go_wp2
  go_ret
  exact ⟨rfl, (((Below.refl _ _).alloc (Nat.le_refl _) _).alloc (by simp) _)⟩

/-- a plan at block K, two moves behind it, in a world that is later -/
structure G3st (w wr : World) (K : Nat) (A : Option Addr) (c : Nat) (A2 : Option Addr) (c2 : Nat) (p : Pl) (m n : E) : Prop where
  k0 : wr.cell? ⟨K, 0, none⟩ = some (.slice A p.nodes.length c)
  k1 : wr.cell? ⟨K, 1, none⟩ = some (.slice A2 p.rails.length c2)
  m0 : wr.cell? ⟨K + 1, 0, none⟩ = some (.int .i64 m.rail)
  m1 : wr.cell? ⟨K + 1, 1, none⟩ = some (.bool m.last)
  n0 : wr.cell? ⟨K + 1 + 1, 0, none⟩ = some (.int .i64 n.rail)
  n1 : wr.cell? ⟨K + 1 + 1, 1, none⟩ = some (.bool n.last)
  pl : PlAt wr wr.heap.size A c A2 c2 p
  be : Below w.heap.size w wr
  lt : K + 1 + 1 < wr.heap.size
section
variable {w wr w' : World} {K c c2 : Nat} {A A2 : Option Addr} {p : Pl} {m n : E}
theorem G3st.next (h : G3st w wr K A c A2 c2 p m n) (hb : Below wr.heap.size wr w') : G3st w w' K A c A2 c2 p m n := by
  have hl := h.lt
  have hk : ∀ b i, b ≤ K + 1 + 1 → w'.cell? ⟨b, i, none⟩ = wr.cell? ⟨b, i, none⟩ := fun b i hb' => hb.cell (p := ⟨b, i, none⟩) (Nat.lt_of_le_of_lt hb' hl)
  exact ⟨(hk _ _ (by omega)).trans h.k0, (hk _ _ (by omega)).trans h.k1, (hk _ _ (by omega)).trans h.m0, (hk _ _ (by omega)).trans h.m1, (hk _ _ (by omega)).trans h.n0, (hk _ _ (by omega)).trans h.n1, (h.pl.below hb).more hb.size, h.be.trans (hb.mono h.be.size), Nat.lt_of_lt_of_le h.lt hb.size⟩
theorem G3st.start (m n : E) (h : PlAt w w.heap.size A c A2 c2 p) :
    G3st w (((w.alloc (.cells #[.slice A p.nodes.length c, .slice A2 p.rails.length c2] 25)).alloc (.cells #[.int .i64 m.rail, .bool m.last] 40)).alloc (.cells #[.int .i64 n.rail, .bool n.last] 40)) w.heap.size A c A2 c2 p m n := by
  have hz : ∀ i, (((w.alloc (.cells #[.slice A p.nodes.length c, .slice A2 p.rails.length c2] 25)).alloc (.cells #[.int .i64 m.rail, .bool m.last] 40)).alloc (.cells #[.int .i64 n.rail, .bool n.last] 40)).cell? ⟨w.heap.size, i, none⟩ = #[.slice A p.nodes.length c, .slice A2 p.rails.length c2][i]? := fun i =>
    cell_keep1 (cell_keep1 (cell_new1 w _ _ i) (by simp)) (by simp; omega)
  exact ⟨hz 0, hz 1, (box_cells3 w _ _ _ _ _ _ 0).1, (box_cells3 w _ _ _ _ _ _ 1).1, (box_cells3 w _ _ _ _ _ _ 0).2, (box_cells3 w _ _ _ _ _ _ 1).2, ((h.box _).box _).box _, (((Below.refl _ w).alloc (Nat.le_refl _) _).alloc (by simp) _).alloc (by simp; omega) _, by simp⟩
end

def fineB (p : Pl) (v : Bool) (m n : E) : Bool := ((smallB p && v) && railIn p m.rail) && railIn p n.rail
set_option maxHeartbeats 1000000 in
theorem fine_of (A A2 : Option Addr) (c c2 : Nat) (p : Pl) (m n : E) (w : World) (hP : PlAt w w.heap.size A c A2 c2 p) (v : Bool)
    (hV : ∀ w, PlAt w w.heap.size A c A2 c2 p → Calls Try.prog 11 #[.agg #[.slice A p.nodes.length c, .slice A2 p.rails.length c2]] w fun e w' => e = .returned (.bool v) ∧ Below w.heap.size w w') :
    Calls Try.prog 18 #[.agg #[.slice A p.nodes.length c, .slice A2 p.rails.length c2], .agg #[.int .i64 m.rail, .bool m.last], .agg #[.int .i64 n.rail, .bool n.last]] w fun e w' => e = .returned (.bool (fineB p v m n)) ∧ Below w.heap.size w w' := by
  have H1 := Lib.hid (G3st.start m n hP)
  have HV := Lib.hid hV
  clear hP hV
  obtain ⟨s, hs⟩ : ∃ s, smallB p = s := ⟨_, rfl⟩
  obtain ⟨a, ha⟩ : ∃ s, railIn p m.rail = s := ⟨_, rfl⟩
  obtain ⟨b, hb⟩ : ∃ s, railIn p n.rail = s := ⟨_, rfl⟩
  have HF := Lib.hid (show fineB p v m n = (((s && v) && a) && b) by simp only [fineB, hs, ha, hb])
  have HS := Lib.hid hs; have HA := Lib.hid ha; have HB := Lib.hid hb
  clear hs ha hb
  go_enter Try.func18, Try.ntmps18
  go_wp2_with fail
  refine (small_any A A2 c c2 p _ H1.out.pl).mono ?_
  rintro e w2 ⟨rfl, hb2⟩
  rw [HS.out]
  have H2 := Lib.hid (H1.out.next hb2)
  clear hb2 H1
  cases s
  · go_wp2
    go_ret
    exact ⟨by rw [HF.out]; rfl, H2.out.be⟩
  obtain ⟨k0, k1, m0, m1, n0, n1, _, _, _⟩ := H2.out
  go_wp2_with fail
  refine (HV.out _ H2.out.pl).mono ?_
  rintro e w3 ⟨rfl, hb3⟩
  have H3 := Lib.hid (H2.out.next hb3)
  clear hb3 H2 k0 k1 m0 m1 n0 n1
  cases v
  · go_wp2
    go_ret
    exact ⟨by rw [HF.out]; rfl, H3.out.be⟩
  obtain ⟨k0, k1, m0, m1, n0, n1, _, _, _⟩ := H3.out
  go_wp2_with fail
  refine (Move_any A A2 c c2 p _ _ _ H3.out.pl).mono ?_
  rintro e w4 ⟨rfl, hb4⟩
  rw [HA.out]
  have H4 := Lib.hid (H3.out.next hb4)
  clear hb4 H3 k0 k1 m0 m1 n0 n1
  cases a
  · go_wp2
    go_ret
    exact ⟨by rw [HF.out]; rfl, H4.out.be⟩
  obtain ⟨k0, k1, m0, m1, n0, n1, _, _, _⟩ := H4.out
  go_wp2_with fail
  refine (Move_any A A2 c c2 p _ _ _ H4.out.pl).mono ?_
  rintro e w5 ⟨rfl, hb5⟩
  rw [HB.out]
  have H5 := Lib.hid (H4.out.next hb5)
  clear hb5 H4 k0 k1 m0 m1 n0 n1
  go_wp2
  go_ret
  exact ⟨by rw [HF.out]; rfl, H5.out.be⟩

section
variable (A A2 : Option Addr) (c c2 : Nat) (p : Pl) (m n : E) (w : World)
theorem Next_in (hP : PlAt w w.heap.size A c A2 c2 p) (hv : Vld p) (hr : railIn p m.rail = true) :
    Calls Try.prog 19 #[.agg #[.slice A p.nodes.length c, .slice A2 p.rails.length c2], .agg #[.int .i64 m.rail, .bool m.last]] w fun e w' =>
      (∃ B d, e = .returned (.tuple #[.slice B (nextL p (keyE m)).length d, .int .i64 0]) ∧ (nextL p (keyE m)).length ≤ d ∧ Own w' w.heap.size 40 2 fE (.slice B (nextL p (keyE m)).length d) ((nextL p (keyE m)).map moveE)) ∧ Below w.heap.size w w' :=
  (Next_any A A2 c c2 p m w hP).mono fun e w' h => by
    obtain ⟨⟨_, _, v, rfl, ho⟩ | ⟨h1 | h1, _⟩, hb⟩ := h
    · obtain ⟨B, d, rfl, h1, _, _⟩ := ho.form
      rw [List.length_map] at h1 ho
      exact ⟨⟨B, d, by rw [List.length_map], h1, ho⟩, hb⟩
    · exact absurd hv h1
    · rw [hr] at h1; cases h1
theorem Follows_in (hP : PlAt w w.heap.size A c A2 c2 p) (hv : Vld p) (hr : railIn p m.rail = true) (hn : railIn p n.rail = true) :
    Calls Try.prog 20 #[.agg #[.slice A p.nodes.length c, .slice A2 p.rails.length c2], .agg #[.int .i64 m.rail, .bool m.last], .agg #[.int .i64 n.rail, .bool n.last]] w fun e w' =>
      e = .returned (.tuple #[.bool (folB p (keyE m) (endNo n)), .int .i64 0]) ∧ Below w.heap.size w w' :=
  (Follows_any A A2 c c2 p m n w hP).mono fun e w' h => by
    obtain ⟨⟨_, _, _, rfl⟩ | ⟨h1 | h1 | h1, _⟩, hb⟩ := h
    · exact ⟨rfl, hb⟩
    · exact absurd hv h1
    · rw [hr] at h1; cases h1
    · rw [hn] at h1; cases h1
/-- what Between answers, where the plan is valid -/
def btwV (p : Pl) (m n : E) : Value :=
  if folB p (keyE m) (endNo n) = true ∧ (atN p (flip (keyE m))).kind = 4 then .tuple #[.agg #[.int .i64 (nodeAtZ p (flip (keyE m) : Nat)), .int .i64 (setZ p (keyE m) (keyE n))], .int .i64 0] else .tuple #[.agg #[.int .i64 0, .int .i64 0], .int .i64 4]
theorem btwV_form (p : Pl) (m n : E) : ∃ X Y Er : Int, btwV p m n = .tuple #[.agg #[.int .i64 X, .int .i64 Y], .int .i64 Er] := by
  unfold btwV
  split
  · exact ⟨_, _, _, rfl⟩
  · exact ⟨_, _, _, rfl⟩
theorem Between_in (hP : PlAt w w.heap.size A c A2 c2 p) (hv : Vld p) (hr : railIn p m.rail = true) (hn : railIn p n.rail = true) :
    Calls Try.prog 21 #[.agg #[.slice A p.nodes.length c, .slice A2 p.rails.length c2], .agg #[.int .i64 m.rail, .bool m.last], .agg #[.int .i64 n.rail, .bool n.last]] w fun e w' =>
      e = .returned (btwV p m n) ∧ Below w.heap.size w w' :=
  (Between_any A A2 c c2 p m n w hP).mono fun e w' h => by
    obtain ⟨⟨h1 | h1 | h1, _⟩ | ⟨_, _, _, ⟨h1, rfl⟩ | ⟨h1, h2, rfl⟩⟩, hb⟩ := h
    · exact absurd hv h1
    · rw [hr] at h1; cases h1
    · rw [hn] at h1; cases h1
    · exact ⟨by unfold btwV; rw [if_neg h1], hb⟩
    · exact ⟨by unfold btwV; rw [if_pos ⟨h1, h2⟩], hb⟩
end

/-- a move's number, and its node -/
theorem key_in {p : Pl} {m : E} (h : railIn p m.rail = true) : 0 ≤ m.rail ∧ keyE m < 2 * p.rails.length ∧ endNo m = (keyE m : Nat) := by
  have h2 := of_decide_eq_true h
  obtain ⟨h3, h4⟩ := key_lt h
  exact ⟨h2.1, h4, h3.symm⟩
theorem op_in {p : Pl} {m : E} (h : railIn p m.rail = true) : keyE (opE m) = flip (keyE m) ∧ endNo (opE m) = (flip (keyE m) : Nat) := by
  have h1 := key_op (m := m) (key_in h).1
  have h2 := (key_in (p := p) (m := opE m) h).2.2
  exact ⟨h1, by rw [h2, h1]⟩
theorem fol_op {p : Pl} (hV : Vld p) {m n : E} (hm : railIn p m.rail = true) (hn : railIn p n.rail = true) (hk : (atN p (flip (keyE m))).kind ≠ 5) (h : folB p (keyE m) (endNo n) = true) :
    folB p (keyE (opE n)) (endNo (opE m)) = true ∧ btwV p (opE n) (opE m) = btwV p m n := by
  obtain ⟨_, m1, _⟩ := key_in hm
  obtain ⟨_, n1, n2⟩ := key_in hn
  rw [n2] at h
  obtain ⟨h1, h2⟩ := follows_back hV m1 n1 hk h
  have ha : atN p (flip (keyE (opE n))) = atN p (flip (keyE m)) := by
    rw [(op_in hn).1, flip_flip]
    unfold atN
    rw [h2]
  have hf : folB p (keyE (opE n)) (endNo (opE m)) = true := by rw [(op_in hn).1, (op_in hm).2]; exact h1
  refine ⟨hf, ?_⟩
  unfold btwV
  rw [ha, hf, show folB p (keyE m) (endNo n) = true by rw [n2]; exact h, (op_in hn).1, (op_in hm).1, flip_flip, h2, set_back]
theorem node_in {p : Pl} (hV : Vld p) {k : Nat} (hk : k < p.rails.length) (b : Bool) :
    ∃ i : Nat, ∃ hi : i < p.nodes.length, (if b = true then p.rails[k].frm else p.rails[k].to) = (i : Int) ∧ atN p (flip (keyE ⟨(k : Int), b⟩)) = p.nodes[i] := by
  have hr : railIn p (E.mk (k : Int) b).rail = true := by simp [railIn]; omega
  obtain ⟨_, m1, _⟩ := key_in hr
  obtain ⟨i, h1, h2⟩ := nodeAt_ix hV (flip_lt m1)
  refine ⟨i, h2, ?_, atN_eq h1 h2⟩
  rw [← h1]
  cases b
  · rw [show flip (keyE ⟨(k : Int), false⟩) = 2 * k + 1 by unfold keyE endNo flip; simp only [Bool.false_eq_true, if_false]; split <;> omega]
    simp only [Bool.false_eq_true, if_false]
    unfold nodeAtZ
    rw [if_pos (by omega), show ((2 * k + 1 : Nat) : Int) / 2 = k by omega]
    simp [hk]
  · rw [show flip (keyE ⟨(k : Int), true⟩) = 2 * k by unfold keyE endNo flip; simp only [if_true]; split <;> omega]
    simp only [if_true]
    unfold nodeAtZ
    rw [if_neg (by omega), show ((2 * k : Nat) : Int) / 2 = k by omega]
    simp [hk]
end Go.Proofs.Ytcpanfpijljeaaa
