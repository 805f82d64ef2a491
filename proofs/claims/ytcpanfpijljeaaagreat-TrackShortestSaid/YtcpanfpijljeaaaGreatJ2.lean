/- Words for plans and moves in later worlds; the specification: next moves. -/
import Derived.BigQuiet
import Derived.Deep.Cut
import Derived.Deep.CutRange
import Derived.Deep.DeepCutAuto
import Derived.Deep.LoopGhost
import Derived.Deep.QuietTactic
import Derived.Deep.RegionHeld3
import Derived.Lib.Hide
import Derived.Outline
import Derived.Test.YtcpanfpijljeaaaGreatA2
import Derived.Test.YtcpanfpijljeaaaGreatG3
import Derived.Test.YtcpanfpijljeaaaGreatMem
import Derived.Test.YtcpanfpijljeaaaGreatProg
import Derived.Test.YtcpanfpijljeaaaGreatS2
import Derived.WalkKit
namespace Go.Proofs.YtcpanfpijljeaaaGreat
set_option linter.unusedVariables false
set_option linter.unusedSimpArgs false
open Go.RowKit

def smallN (p : Pl) : Bool := !((decide (12 < p.nodes.length ∧ p.nodes.length ≤ 300) || decide (14 < p.rails.length ∧ p.rails.length ≤ 400)) || decide (400 < p.nodes.length) || decide (500 < p.rails.length))
def smallB (p : Pl) : Bool := smallN p && p.nodes.all (fun nd => decide (nd.ends.length ≤ 8)) && p.rails.all (fun r => decide (r.shape.length ≤ 40))

theorem smallB_no1 {p : Pl} (h : smallN p = false) : smallB p = false := by simp [smallB, h]
theorem all_no {α : Type} {l : List α} {f : α → Bool} {k : Nat} (hk : k < l.length) (h : f l[k] = false) : l.all f = false := by
  rw [Bool.eq_false_iff]; intro ha
  rw [List.all_eq_true] at ha
  have := ha l[k] (List.getElem_mem hk)
  simp [h] at this
theorem all_yes {α : Type} {l : List α} {f : α → Bool} (h : ∀ k (hk : k < l.length), f l[k] = true) : l.all f = true := by
  rw [List.all_eq_true]; intro x hx
  obtain ⟨k, hk, rfl⟩ := List.getElem_of_mem hx
  exact h k hk
theorem smallB_no2 {p : Pl} {k : Nat} (hk : k < p.nodes.length) (h : 8 < p.nodes[k].ends.length) : smallB p = false := by
  simp only [smallB]; rw [all_no hk (by simp; omega)]; simp
theorem smallB_no3 {p : Pl} {k : Nat} (hk : k < p.rails.length) (h : 40 < p.rails[k].shape.length) : smallB p = false := by
  simp only [smallB]; rw [all_no (l := p.rails) hk (by simp; omega)]; simp
theorem smallB_yes {p : Pl} (h : smallN p = true) (h2 : ∀ k (hk : k < p.nodes.length), p.nodes[k].ends.length ≤ 8) (h3 : ∀ k (hk : k < p.rails.length), p.rails[k].shape.length ≤ 40) : smallB p = true := by
  simp only [smallB, h, Bool.true_and]
  rw [all_yes (fun k hk => by simpa using h2 k hk), all_yes (fun k hk => by simpa using h3 k hk)]; rfl
theorem ret_boolA {a b : Bool} (h : a = b) : Ending.returned (.bool a) = .returned (.bool b) := by rw [h]

set_option maxHeartbeats 4000000 in
theorem small_any (A A2 : Option Addr) (c c2 : Nat) (p : Pl) (w : World) (hP : PlAt w w.heap.size A c A2 c2 p) :
    Calls Tryz.prog 8 #[.agg #[.slice A p.nodes.length c, .slice A2 p.rails.length c2]] w fun e w' => e = .returned (.bool (smallB p)) ∧ Below w.heap.size w w' := by
  have hnc := hP.nc; have hnm := hP.nm; have hrc := hP.rc; have hrm := hP.rm
  by_cases hs : smallN p = true
  · have hs' := hs
    simp only [smallN, Bool.not_eq_true', Bool.or_eq_false_iff, decide_eq_false_iff_not, not_and, Nat.not_lt, Nat.not_le] at hs'
    obtain ⟨⟨⟨q1, q2⟩, q3⟩, q4⟩ := hs'
    have HS := Lib.hid hs; clear hs
    have hQ1 : p.nodes.length ≤ 12 ∨ 300 < p.nodes.length := by omega
    have hQ2 : p.rails.length ≤ 14 ∨ 400 < p.rails.length := by omega
    clear q1 q2
    have d3 : decide (400 < p.nodes.length) = false := by simp; omega
    have d4 : decide (500 < p.rails.length) = false := by simp; omega
    rcases hQ1 with g1 | g1 <;> rcases hQ2 with g2 | g2
    all_goals
      go_enter Tryz.func8, Tryz.ntmps8
      go_wp2
      go_loop [3] (fun i => ∃ k : Nat, k ≤ p.nodes.length ∧ i = .int .i64 k ∧ ∀ j (hj : j < p.nodes.length), j < k → p.nodes[j].ends.length ≤ 8) (fun i => p.nodes.length - (intOf i).toNat)
      case atStart => exact ⟨0, Nat.zero_le _, rfl, fun j _ h => absurd h (by omega)⟩
      case round =>
        obtain ⟨k, hk, rfl, hall⟩ := hrel
        have HA := Lib.hid hall; clear hall
        by_cases hlt : k < p.nodes.length
        · obtain ⟨b, off, A', c', hA, hb, hE, hc1, hc2, k0, k1, k2, k3, k4⟩ := hP.node hlt
          subst hA
          go_wp2
          · have h8 : 8 < p.nodes[k].ends.length := by omega
            go_ret
            exact ⟨ret_boolA (smallB_no2 hlt h8).symm, (Below.refl _ _).alloc (Nat.le_refl _) _⟩
          · have h8 : p.nodes[k].ends.length ≤ 8 := by omega
            go_round
            case rel => exact ⟨k + 1, by omega, by go_num, fun j hj hjk => if h : j = k then by subst h; exact h8 else HA.out j hj (by omega)⟩
            case measure => simp [intOf]; omega
        · obtain rfl : k = p.nodes.length := by omega
          go_wp2
          go_loop [4] (fun i => ∃ k : Nat, k ≤ p.rails.length ∧ i = .int .i64 k ∧ ∀ j (hj : j < p.rails.length), j < k → p.rails[j].shape.length ≤ 40) (fun i => p.rails.length - (intOf i).toNat)
          case atStart => exact ⟨0, Nat.zero_le _, rfl, fun j _ h => absurd h (by omega)⟩
          case round =>
            obtain ⟨m, hk2, rfl, hall2⟩ := hrel
            have HA2 := Lib.hid hall2; clear hall2
            by_cases hlt2 : m < p.rails.length
            · obtain ⟨b, off, A', c', hA, hb, hE, hc1, hc2, k0, k1, k2, k3, k4⟩ := hP.rail hlt2
              subst hA
              go_wp2
              · have h8 : 40 < p.rails[m].shape.length := by omega
                go_ret
                exact ⟨ret_boolA (smallB_no3 hlt2 h8).symm, (Below.refl _ _).alloc (Nat.le_refl _) _⟩
              · have h8 : p.rails[m].shape.length ≤ 40 := by omega
                go_round
                case rel => exact ⟨m + 1, by omega, by go_num, fun j hj hjk => if h : j = m then by subst h; exact h8 else HA2.out j hj (by omega)⟩
                case measure => simp [intOf]; omega
            · obtain rfl : m = p.rails.length := by omega
              go_wp2
              go_ret
              exact ⟨ret_boolA (smallB_yes HS.out (fun j hj => HA.out j hj hj) (fun j hj => HA2.out j hj hj)).symm, (Below.refl _ _).alloc (Nat.le_refl _) _⟩
  · have hs2 : smallN p = false := by simpa using hs
    have hs' := hs2
    simp only [smallN, Bool.not_eq_false', Bool.or_eq_true, decide_eq_true_iff] at hs'
    have HS := Lib.hid (smallB_no1 hs2); clear hs hs2
    rcases hs' with ((⟨g1, g2⟩ | ⟨g1, g2⟩) | g1) | g1
    all_goals
      go_enter Tryz.func8, Tryz.ntmps8
      go_wp2
      all_goals
        go_ret
        exact ⟨ret_boolA HS.out.symm, (Below.refl _ _).alloc (Nat.le_refl _) _⟩
end Go.Proofs.YtcpanfpijljeaaaGreat

namespace Go.Proofs.YtcpanfpijljeaaaGreat
set_option linter.unusedVariables false
set_option linter.unusedSimpArgs false
open Go.RowKit

theorem at_place {p : Pl} (h : okEnds p) {i s : Nat} (hi : i < p.nodes.length) (hs : s < p.nodes[i].ends.length) :
    nodeAtZ p (endNo p.nodes[i].ends[s]) = i ∧ slAt p (keyE p.nodes[i].ends[s]) = s ∧ 0 ≤ endNo p.nodes[i].ends[s] := by
  have hok := h.1 i hi _ (List.getElem_mem hs)
  have hb := endNo_bd hok
  refine ⟨by rw [nodeAtZ_end p _ hok.1, hok.2.2], ?_, hb.1⟩
  have hmem : (p.nodes[i].ends[s], s) ∈ allQ p := by
    unfold allQ
    refine List.mem_flatMap.2 ⟨p.nodes[i], List.getElem_mem hi, ?_⟩
    rw [List.mem_zipIdx_iff_getElem?]
    exact List.getElem?_eq_getElem hs
  have hl : keyE p.nodes[i].ends[s] < (fillS (2 * p.rails.length) (allQ p)).length := by rw [fillS_len]; unfold keyE; omega
  have := fillS_get (2 * p.rails.length) _ (allQ p) rfl (by have := keys_nodup h; rw [← allQ_fst, List.map_map] at this; exact this) _ hmem hl
  unfold slAt slotsOf
  rw [List.getElem?_eq_getElem hl]
  exact this
theorem flip_flip (m : Nat) : flip (flip m) = m := by unfold flip; split <;> split <;> omega
theorem thru_back {k nm : Int} {a s : Int} (hk : k ≠ 5) (h1 : 1 ≤ k) (h6 : k ≤ 6) (ha : 0 ≤ a) (ha2 : a < endsZ k) (hn : k = 6 → nm = 1 ∨ nm = 2) (h : s ∈ thru k nm a) : a ∈ thru k nm s := by
  rcases (show k = 1 ∨ k = 2 ∨ k = 3 ∨ k = 4 ∨ k = 6 by omega) with e | e | e | e | e <;> (subst e; simp only [endsZ, thru] at *)
  · simp at h
  · simp at h ⊢; omega
  · simp at h ha2 ⊢; omega
  · simp at ha2
    by_cases h0 : a = 0
    · simp [h0] at h
      rcases h with rfl | rfl <;> simp [h0]
    · simp [h0] at h
      subst h
      simp; omega
  · simp at ha2
    have hn' := hn trivial
    by_cases h0 : a = 0
    · simp [h0] at h
      subst h
      rcases hn' with e | e <;> simp [h0, e]
    · by_cases h9 : a = nm
      · have h10 : nm ≠ 0 := by omega
        simp [h9, h10] at h
        subst h
        simp [h9]
      · simp [h0, h9] at h
theorem thru_more {k nm a : Int} (h : 1 < (thru k nm a).length) : k = 4 := by
  unfold thru at h
  (repeat' split at h) <;> first | assumption | (simp at h)

/-- what lies at the end of a move, and what goes on from there -/
theorem leave_place {p : Pl} (hV : Vld p) {m n : Nat} (hm : m < 2 * p.rails.length) (hn : n < 2 * p.rails.length) :
    ∃ (i : Nat) (hi : i < p.nodes.length) (a : Nat), a < p.nodes[i].ends.length ∧ nodeAtZ p (flip m : Nat) = i ∧ slAt p (flip m) = a ∧ keyE (endAt p.nodes[i] a) = flip m ∧ atN p (flip m) = p.nodes[i] ∧
      (((n : Int) ∈ leaveL p m) ↔ (nodeAtZ p (n : Int) = i ∧ slAt p n ∈ thru p.nodes[i].kind p.nodes[i].normal (a : Int))) := by
  have hf := flip_lt hm
  obtain ⟨i, hi, a, ha, h1, h2, h3⟩ := slots_spec hV.ends hf
  have hfl : flip m < (slotsOf p).length := by rw [slots_len]; exact hf
  have hsl : slAt p (flip m) = a := by rw [← slAt_eq hfl]; exact h3 hfl
  have hnd : atN p (flip m) = p.nodes[i] := atN_eq h2 hi
  refine ⟨i, hi, a, ha, h2, hsl, ?_, hnd, ?_⟩
  · rw [endAt_nat ha]; exact h1
  · unfold leaveL
    rw [hnd, hsl]
    have hb := thru_lt (List.all_eq_true.1 hV.nodes _ (List.getElem_mem hi)) ha
    constructor
    · intro hx
      obtain ⟨s, hs, he⟩ := List.mem_map.1 hx
      obtain ⟨s0, s1⟩ := hb s hs
      obtain ⟨t, rfl⟩ := Int.eq_ofNat_of_zero_le s0
      have ht : t < p.nodes[i].ends.length := by omega
      rw [endAt_nat ht] at he
      obtain ⟨q1, q2, q3⟩ := at_place hV.ends hi ht
      have hk : keyE p.nodes[i].ends[t] = n := by unfold keyE; rw [he]; simp
      rw [he] at q1
      rw [hk] at q2
      exact ⟨q1, by rw [q2]; exact hs⟩
    · rintro ⟨q1, q2⟩
      obtain ⟨i', hi', k', hk', r1, r2, r3⟩ := slots_spec hV.ends hn
      have hnl : n < (slotsOf p).length := by rw [slots_len]; exact hn
      have hs2 : slAt p n = k' := by rw [← slAt_eq hnl]; exact r3 hnl
      obtain rfl : i' = i := by rw [r2] at q1; omega
      rw [hs2] at q2
      refine List.mem_map.2 ⟨(k' : Int), q2, ?_⟩
      rw [endAt_nat hk']
      have := (at_place hV.ends hi' hk').2.2
      omega
theorem follows_back {p : Pl} (hV : Vld p) {m n : Nat} (hm : m < 2 * p.rails.length) (hn : n < 2 * p.rails.length) (hk : (atN p (flip m)).kind ≠ 5) (h : folB p m n = true) :
    folB p (flip n) (flip m : Nat) = true ∧ nodeAtZ p (n : Int) = nodeAtZ p (flip m : Nat) := by
  rw [folB_iff] at h ⊢
  unfold nextL at h ⊢
  rw [List.mem_mergeSort] at h ⊢
  obtain ⟨i, hi, a, ha, h1, h2, h3, h4, h5⟩ := leave_place hV hm hn
  obtain ⟨q1, q2⟩ := h5.1 h
  rw [h4] at hk
  have hnf := flip_lt hn
  have hmf := flip_lt hm
  obtain ⟨i', hi', a', ha', g1, g2, g3, g4, g5⟩ := leave_place hV hnf hmf
  rw [flip_flip] at g1 g2
  obtain rfl : i' = i := by rw [g1] at q1; omega
  refine ⟨g5.2 ⟨h1, ?_⟩, by rw [q1, h1]⟩
  rw [h2]
  rw [g2] at q2
  have hB := nodeB_parts (List.all_eq_true.1 hV.nodes _ (List.getElem_mem hi'))
  refine thru_back hk hB.1 hB.2.1 (by omega) (by have := hB.2.2.1; omega) (fun h6 => ?_) q2
  have hnb := hB.2.2.2.1
  unfold normB at hnb
  rw [h6] at hnb
  simp at hnb
  omega
theorem next_more {p : Pl} {m : Nat} (h : 1 < (nextL p m).length) : (atN p (flip m)).kind = 4 := by
  unfold nextL at h
  rw [List.length_mergeSort] at h
  unfold leaveL at h
  rw [List.length_map] at h
  exact thru_more h
theorem set_back {p : Pl} {m n : Nat} : setZ p (flip n) (flip m) = setZ p m n := by
  unfold setZ
  rw [flip_flip]
  split <;> split <;> omega
/-- the opposite move -/
def opE (m : E) : E := ⟨m.rail, !m.last⟩
theorem key_op {m : E} (h : 0 ≤ m.rail) : keyE (opE m) = flip (keyE m) := by
  obtain ⟨r, l⟩ := m
  have h' : 0 ≤ r := h
  unfold keyE endNo opE flip
  cases l <;> simp <;> (split <;> omega)

set_option maxHeartbeats 1000000 in
theorem Opposite_any (r : Int) (b : Bool) (w : World) :
    Calls Tryz.prog 70 #[.agg #[.int .i64 r, .bool b]] w fun e w' => e = .returned (.agg #[.int .i64 r, .bool !b]) ∧ Below w.heap.size w w' := by
  go_enter Tryz.func70, Tryz.ntmps70
  go_wp2
  exact bodyPost_ret (v := .agg #[.int .i64 r, .bool !b]) (by simp [results, Tryz.results70, go_sem]) rfl ⟨rfl, (((Below.refl _ _).alloc (Nat.le_refl _) _).alloc (by simp) _)⟩

theorem railIn_in (p : Pl) (r : Int) : inB r 0 ((p.rails.length : Int) - 1) = railIn p r := by
  unfold inB railIn
  rw [Bool.eq_iff_iff]
  simp
  omega
set_option maxHeartbeats 1000000 in
theorem Move_any (A A2 : Option Addr) (c c2 : Nat) (p : Pl) (r : Int) (b : Bool) (w : World) (hP : PlAt w w.heap.size A c A2 c2 p) :
    Calls Tryz.prog 10 #[.agg #[.slice A p.nodes.length c, .slice A2 p.rails.length c2], .agg #[.int .i64 r, .bool b]] w fun e w' => e = .returned (.bool (railIn p r)) ∧ Below w.heap.size w w' := by
  have h1 := hP.rc; have h2 := hP.rm
  clear hP
  go_enter Tryz.func10, Tryz.ntmps10
  go_wp2_with fail
  refine (in_any _ _ _ _).mono ?_
  rintro e w1 ⟨rfl, rfl⟩
  rw [railIn_in]
  go_wp2
  go_ret
  exact ⟨rfl, (((Below.refl _ _).alloc (Nat.le_refl _) _).alloc (by simp) _)⟩

/-- a plan at block K, two moves behind it, in a world that is later -/
structure G3st (w wr : World) (K : Nat) (A : Option Addr) (c : Nat) (A2 : Option Addr) (c2 : Nat) (p : Pl) (m n : E) : Prop where
  k0 : wr.cell? ⟨K, 0, none⟩ = some (.slice A p.nodes.length c)
  k1 : wr.cell? ⟨K, 1, none⟩ = some (.slice A2 p.rails.length c2)
  m0 : wr.cell? ⟨K + 1, 0, none⟩ = some (.int .i64 m.rail)
  m1 : wr.cell? ⟨K + 1, 1, none⟩ = some (.bool m.last)
  n0 : wr.cell? ⟨K + 1 + 1, 0, none⟩ = some (.int .i64 n.rail)
  n1 : wr.cell? ⟨K + 1 + 1, 1, none⟩ = some (.bool n.last)
  pl : PlAt wr wr.heap.size A c A2 c2 p
  be : Below w.heap.size w wr
  lt : K + 1 + 1 < wr.heap.size
section
variable {w wr w' : World} {K c c2 : Nat} {A A2 : Option Addr} {p : Pl} {m n : E}
theorem G3st.next (h : G3st w wr K A c A2 c2 p m n) (hb : Below wr.heap.size wr w') : G3st w w' K A c A2 c2 p m n := by
  have hl := h.lt
  have hk : ∀ b i, b ≤ K + 1 + 1 → w'.cell? ⟨b, i, none⟩ = wr.cell? ⟨b, i, none⟩ := fun b i hb' => hb.cell (p := ⟨b, i, none⟩) (Nat.lt_of_le_of_lt hb' hl)
  exact ⟨(hk _ _ (by omega)).trans h.k0, (hk _ _ (by omega)).trans h.k1, (hk _ _ (by omega)).trans h.m0, (hk _ _ (by omega)).trans h.m1, (hk _ _ (by omega)).trans h.n0, (hk _ _ (by omega)).trans h.n1, (h.pl.below hb).more hb.size, h.be.trans (hb.mono h.be.size), Nat.lt_of_lt_of_le h.lt hb.size⟩
theorem G3st.start (m n : E) (h : PlAt w w.heap.size A c A2 c2 p) :
    G3st w (((w.alloc (.cells #[.slice A p.nodes.length c, .slice A2 p.rails.length c2] 25)).alloc (.cells #[.int .i64 m.rail, .bool m.last] 27)).alloc (.cells #[.int .i64 n.rail, .bool n.last] 27)) w.heap.size A c A2 c2 p m n := by
  have hz : ∀ i, (((w.alloc (.cells #[.slice A p.nodes.length c, .slice A2 p.rails.length c2] 25)).alloc (.cells #[.int .i64 m.rail, .bool m.last] 27)).alloc (.cells #[.int .i64 n.rail, .bool n.last] 27)).cell? ⟨w.heap.size, i, none⟩ = #[.slice A p.nodes.length c, .slice A2 p.rails.length c2][i]? := fun i =>
    cell_keep1 (cell_keep1 (cell_new1 w _ _ i) (by simp)) (by simp; omega)
  exact ⟨hz 0, hz 1, (box_cells3 w _ _ _ _ _ _ 0).1, (box_cells3 w _ _ _ _ _ _ 1).1, (box_cells3 w _ _ _ _ _ _ 0).2, (box_cells3 w _ _ _ _ _ _ 1).2, ((h.box _).box _).box _, (((Below.refl _ w).alloc (Nat.le_refl _) _).alloc (by simp) _).alloc (by simp; omega) _, by simp⟩
end

def fineB (p : Pl) (v : Bool) (m n : E) : Bool := ((smallB p && v) && railIn p m.rail) && railIn p n.rail
set_option maxHeartbeats 1000000 in
theorem fine_of (A A2 : Option Addr) (c c2 : Nat) (p : Pl) (m n : E) (w : World) (hP : PlAt w w.heap.size A c A2 c2 p) (v : Bool)
    (hV : ∀ w, PlAt w w.heap.size A c A2 c2 p → Calls Tryz.prog 9 #[.agg #[.slice A p.nodes.length c, .slice A2 p.rails.length c2]] w fun e w' => e = .returned (.bool v) ∧ Below w.heap.size w w') :
    Calls Tryz.prog 30 #[.agg #[.slice A p.nodes.length c, .slice A2 p.rails.length c2], .agg #[.int .i64 m.rail, .bool m.last], .agg #[.int .i64 n.rail, .bool n.last]] w fun e w' => e = .returned (.bool (fineB p v m n)) ∧ Below w.heap.size w w' := by
  have H1 := Lib.hid (G3st.start m n hP)
  have HV := Lib.hid hV
  clear hP hV
  obtain ⟨s, hs⟩ : ∃ s, smallB p = s := ⟨_, rfl⟩
  obtain ⟨a, ha⟩ : ∃ s, railIn p m.rail = s := ⟨_, rfl⟩
  obtain ⟨b, hb⟩ : ∃ s, railIn p n.rail = s := ⟨_, rfl⟩
  have HF := Lib.hid (show fineB p v m n = (((s && v) && a) && b) by simp only [fineB, hs, ha, hb])
  have HS := Lib.hid hs; have HA := Lib.hid ha; have HB := Lib.hid hb
  clear hs ha hb
  go_enter Tryz.func30, Tryz.ntmps30
  go_wp2_with fail
  refine (small_any A A2 c c2 p _ H1.out.pl).mono ?_
  rintro e w2 ⟨rfl, hb2⟩
  rw [HS.out]
  have H2 := Lib.hid (H1.out.next hb2)
  clear hb2 H1
  cases s
  · go_wp2
    go_ret
    exact ⟨by rw [HF.out]; rfl, H2.out.be⟩
  obtain ⟨k0, k1, m0, m1, n0, n1, _, _, _⟩ := H2.out
  go_wp2_with fail
  refine (HV.out _ H2.out.pl).mono ?_
  rintro e w3 ⟨rfl, hb3⟩
  have H3 := Lib.hid (H2.out.next hb3)
  clear hb3 H2 k0 k1 m0 m1 n0 n1
  cases v
  · go_wp2
    go_ret
    exact ⟨by rw [HF.out]; rfl, H3.out.be⟩
  obtain ⟨k0, k1, m0, m1, n0, n1, _, _, _⟩ := H3.out
  go_wp2_with fail
  refine (Move_any A A2 c c2 p _ _ _ H3.out.pl).mono ?_
  rintro e w4 ⟨rfl, hb4⟩
  rw [HA.out]
  have H4 := Lib.hid (H3.out.next hb4)
  clear hb4 H3 k0 k1 m0 m1 n0 n1
  cases a
  · go_wp2
    go_ret
    exact ⟨by rw [HF.out]; rfl, H4.out.be⟩
  obtain ⟨k0, k1, m0, m1, n0, n1, _, _, _⟩ := H4.out
  go_wp2_with fail
  refine (Move_any A A2 c c2 p _ _ _ H4.out.pl).mono ?_
  rintro e w5 ⟨rfl, hb5⟩
  rw [HB.out]
  have H5 := Lib.hid (H4.out.next hb5)
  clear hb5 H4 k0 k1 m0 m1 n0 n1
  go_wp2
  go_ret
  exact ⟨by rw [HF.out]; rfl, H5.out.be⟩

section
variable (A A2 : Option Addr) (c c2 : Nat) (p : Pl) (m n : E) (w : World)
theorem Next_in (hP : PlAt w w.heap.size A c A2 c2 p) (hv : Vld p) (hr : railIn p m.rail = true) :
    Calls Tryz.prog 12 #[.agg #[.slice A p.nodes.length c, .slice A2 p.rails.length c2], .agg #[.int .i64 m.rail, .bool m.last]] w fun e w' =>
      (∃ B d, e = .returned (.tuple #[.slice B (nextL p (keyE m)).length d, .int .i64 0]) ∧ (nextL p (keyE m)).length ≤ d ∧ Own w' w.heap.size 27 2 fE (.slice B (nextL p (keyE m)).length d) ((nextL p (keyE m)).map moveE)) ∧ Below w.heap.size w w' :=
  (Next_any A A2 c c2 p m w hP).mono fun e w' h => by
    obtain ⟨⟨_, _, v, rfl, ho⟩ | ⟨h1 | h1, _⟩, hb⟩ := h
    · obtain ⟨B, d, rfl, h1, _, _⟩ := ho.form
      rw [List.length_map] at h1 ho
      exact ⟨⟨B, d, by rw [List.length_map], h1, ho⟩, hb⟩
    · exact absurd hv h1
    · rw [hr] at h1; cases h1
theorem Follows_in (hP : PlAt w w.heap.size A c A2 c2 p) (hv : Vld p) (hr : railIn p m.rail = true) (hn : railIn p n.rail = true) :
    Calls Tryz.prog 13 #[.agg #[.slice A p.nodes.length c, .slice A2 p.rails.length c2], .agg #[.int .i64 m.rail, .bool m.last], .agg #[.int .i64 n.rail, .bool n.last]] w fun e w' =>
      e = .returned (.tuple #[.bool (folB p (keyE m) (endNo n)), .int .i64 0]) ∧ Below w.heap.size w w' :=
  (Follows_any A A2 c c2 p m n w hP).mono fun e w' h => by
    obtain ⟨⟨_, _, _, rfl⟩ | ⟨h1 | h1 | h1, _⟩, hb⟩ := h
    · exact ⟨rfl, hb⟩
    · exact absurd hv h1
    · rw [hr] at h1; cases h1
    · rw [hn] at h1; cases h1
/-- what Between answers, where the plan is valid -/
def btwV (p : Pl) (m n : E) : Value :=
  if folB p (keyE m) (endNo n) = true ∧ (atN p (flip (keyE m))).kind = 4 then .tuple #[.agg #[.int .i64 (nodeAtZ p (flip (keyE m) : Nat)), .int .i64 (setZ p (keyE m) (keyE n))], .int .i64 0] else .tuple #[.agg #[.int .i64 0, .int .i64 0], .int .i64 4]
theorem btwV_form (p : Pl) (m n : E) : ∃ X Y Er : Int, btwV p m n = .tuple #[.agg #[.int .i64 X, .int .i64 Y], .int .i64 Er] := by
  unfold btwV
  split
  · exact ⟨_, _, _, rfl⟩
  · exact ⟨_, _, _, rfl⟩
theorem Between_in (hP : PlAt w w.heap.size A c A2 c2 p) (hv : Vld p) (hr : railIn p m.rail = true) (hn : railIn p n.rail = true) :
    Calls Tryz.prog 14 #[.agg #[.slice A p.nodes.length c, .slice A2 p.rails.length c2], .agg #[.int .i64 m.rail, .bool m.last], .agg #[.int .i64 n.rail, .bool n.last]] w fun e w' =>
      e = .returned (btwV p m n) ∧ Below w.heap.size w w' :=
  (Between_any A A2 c c2 p m n w hP).mono fun e w' h => by
    obtain ⟨⟨h1 | h1 | h1, _⟩ | ⟨_, _, _, ⟨h1, rfl⟩ | ⟨h1, h2, rfl⟩⟩, hb⟩ := h
    · exact absurd hv h1
    · rw [hr] at h1; cases h1
    · rw [hn] at h1; cases h1
    · exact ⟨by unfold btwV; rw [if_neg h1], hb⟩
    · exact ⟨by unfold btwV; rw [if_pos ⟨h1, h2⟩], hb⟩
end

/-- a move's number, and its node -/
theorem key_in {p : Pl} {m : E} (h : railIn p m.rail = true) : 0 ≤ m.rail ∧ keyE m < 2 * p.rails.length ∧ endNo m = (keyE m : Nat) := by
  have h2 := of_decide_eq_true h
  obtain ⟨h3, h4⟩ := key_lt h
  exact ⟨h2.1, h4, h3.symm⟩
theorem op_in {p : Pl} {m : E} (h : railIn p m.rail = true) : keyE (opE m) = flip (keyE m) ∧ endNo (opE m) = (flip (keyE m) : Nat) := by
  have h1 := key_op (m := m) (key_in h).1
  have h2 := (key_in (p := p) (m := opE m) h).2.2
  exact ⟨h1, by rw [h2, h1]⟩
theorem fol_op {p : Pl} (hV : Vld p) {m n : E} (hm : railIn p m.rail = true) (hn : railIn p n.rail = true) (hk : (atN p (flip (keyE m))).kind ≠ 5) (h : folB p (keyE m) (endNo n) = true) :
    folB p (keyE (opE n)) (endNo (opE m)) = true ∧ btwV p (opE n) (opE m) = btwV p m n := by
  obtain ⟨_, m1, _⟩ := key_in hm
  obtain ⟨_, n1, n2⟩ := key_in hn
  rw [n2] at h
  obtain ⟨h1, h2⟩ := follows_back hV m1 n1 hk h
  have ha : atN p (flip (keyE (opE n))) = atN p (flip (keyE m)) := by
    rw [(op_in hn).1, flip_flip]
    unfold atN
    rw [h2]
  have hf : folB p (keyE (opE n)) (endNo (opE m)) = true := by rw [(op_in hn).1, (op_in hm).2]; exact h1
  refine ⟨hf, ?_⟩
  unfold btwV
  rw [ha, hf, show folB p (keyE m) (endNo n) = true by rw [n2]; exact h, (op_in hn).1, (op_in hm).1, flip_flip, h2, set_back]
theorem node_in {p : Pl} (hV : Vld p) {k : Nat} (hk : k < p.rails.length) (b : Bool) :
    ∃ i : Nat, ∃ hi : i < p.nodes.length, (if b = true then p.rails[k].frm else p.rails[k].to) = (i : Int) ∧ atN p (flip (keyE ⟨(k : Int), b⟩)) = p.nodes[i] := by
  have hr : railIn p (E.mk (k : Int) b).rail = true := by simp [railIn]; omega
  obtain ⟨_, m1, _⟩ := key_in hr
  obtain ⟨i, h1, h2⟩ := nodeAt_ix hV (flip_lt m1)
  refine ⟨i, h2, ?_, atN_eq h1 h2⟩
  rw [← h1]
  cases b
  · rw [show flip (keyE ⟨(k : Int), false⟩) = 2 * k + 1 by unfold keyE endNo flip; simp only [Bool.false_eq_true, if_false]; split <;> omega]
    simp only [Bool.false_eq_true, if_false]
    unfold nodeAtZ
    rw [if_pos (by omega), show ((2 * k + 1 : Nat) : Int) / 2 = k by omega]
    simp [hk]
  · rw [show flip (keyE ⟨(k : Int), true⟩) = 2 * k by unfold keyE endNo flip; simp only [if_true]; split <;> omega]
    simp only [if_true]
    unfold nodeAtZ
    rw [if_neg (by omega), show ((2 * k : Nat) : Int) / 2 = k by omega]
    simp [hk]
end Go.Proofs.YtcpanfpijljeaaaGreat

namespace Go.Proofs.YtcpanfpijljeaaaGreat
set_option linter.unusedVariables false
set_option linter.unusedSimpArgs false
open Go.RowKit

set_option maxHeartbeats 1000000 in
theorem arrives_any (r : Int) (b : Bool) (w : World) :
    Calls Tryz.prog 89 #[.agg #[.int .i64 r, .bool b]] w fun e w' => e = .returned (.agg #[.int .i64 r, .bool !b]) ∧ Below w.heap.size w w' := by
  go_enter Tryz.func89, Tryz.ntmps89
  go_wp2
  exact bodyPost_ret (v := .agg #[.int .i64 r, .bool !b]) (by simp [results, Tryz.results89, go_sem]) rfl ⟨rfl, (((Below.refl _ _).alloc (Nat.le_refl _) _).alloc (by simp) _)⟩
set_option maxHeartbeats 1000000 in
theorem leaves_any (r : Int) (b : Bool) (w : World) :
    Calls Tryz.prog 91 #[.agg #[.int .i64 r, .bool b]] w fun e w' => e = .returned (.agg #[.int .i64 r, .bool b]) ∧ Below w.heap.size w w' := by
  go_enter Tryz.func91, Tryz.ntmps91
  go_wp2
  exact bodyPost_ret (v := .agg #[.int .i64 r, .bool b]) (by simp [results, Tryz.results91, go_sem]) rfl ⟨rfl, (((Below.refl _ _).alloc (Nat.le_refl _) _).alloc (by simp) _)⟩
set_option maxHeartbeats 1000000 in
theorem Of_any (x : Int) (w : World) (h0 : 0 ≤ x) (h1 : x ≤ 1000000) :
    Calls Tryz.prog 66 #[.int .i64 x] w fun e w' => e = .returned (.agg #[.int .i64 (moveE x).rail, .bool (moveE x).last]) ∧ Below w.heap.size w w' := by
  by_cases h : x % 2 = 1
  · have HD := Lib.hid (show moveE x = ⟨x / 2, true⟩ by simp [moveE, h])
    have h2 : (x % 2 == 1) = true := by simp [h]
    clear h
    go_enter Tryz.func66, Tryz.ntmps66
    go_wp2
    exact bodyPost_ret (v := .agg #[.int .i64 (x / 2), .bool true]) (by simp [results, Tryz.results66, go_sem]) rfl ⟨by rw [HD.out], ((Below.refl _ _).alloc (Nat.le_refl _) _)⟩
  · have HD := Lib.hid (show moveE x = ⟨x / 2, false⟩ by simp [moveE, h])
    have h2 : (x % 2 == 1) = false := by simp; omega
    clear h
    go_enter Tryz.func66, Tryz.ntmps66
    go_wp2
    exact bodyPost_ret (v := .agg #[.int .i64 (x / 2), .bool false]) (by simp [results, Tryz.results66, go_sem]) rfl ⟨by rw [HD.out], ((Below.refl _ _).alloc (Nat.le_refl _) _)⟩

/-- where an end first is -/
def IxIs (l : List E) (e : E) (r : Int) : Prop := (∃ s, ∃ h : s < l.length, r = (s : Int) ∧ l[s] = e) ∨ (r = -1 ∧ e ∉ l)
theorem not_mem_nextE {l : List E} {e : E} {k : Nat} (hk : k < l.length) (h : e ∉ l.take k) (hne : e ≠ l[k]) : e ∉ l.take (k + 1) := by
  rw [List.take_succ_eq_append_getElem hk]
  intro hm
  rcases List.mem_append.1 hm with hm | hm
  · exact h hm
  · exact hne (by simpa using hm)
set_option maxRecDepth 100000 in
set_option maxHeartbeats 2000000 in
theorem rindex_any (A : Option Addr) (l : List E) (c : Nat) (sx sy kd nm er : Int) (eb : Bool) (w : World) (hA : Sl w w.heap.size 2 CE A l) (hl : l.length ≤ 140737488351232) :
    Calls Tryz.prog 90 #[.agg #[.int .i64 sx, .int .i64 sy, .int .i64 kd, .slice A l.length c, .int .i64 nm], .agg #[.int .i64 er, .bool eb]] w fun e w' => (∃ i : Int, e = .returned (.int .i64 i) ∧ IxIs l ⟨er, eb⟩ i) ∧ Below w.heap.size w w' := by
  have HB0 := Lib.hid (((Below.refl w.heap.size w).alloc (Nat.le_refl _) (.cells #[.int .i64 sx, .int .i64 sy, .int .i64 kd, .slice A l.length c, .int .i64 nm] 86)).alloc (by simp) (.cells #[.int .i64 er, .bool eb] 96))
  obtain ⟨x0, x1⟩ : _ ∧ _ := ⟨cell_new1 (w.alloc (.cells #[.int .i64 sx, .int .i64 sy, .int .i64 kd, .slice A l.length c, .int .i64 nm] 86)) #[.int .i64 er, .bool eb] 96 0, cell_new1 (w.alloc (.cells #[.int .i64 sx, .int .i64 sy, .int .i64 kd, .slice A l.length c, .int .i64 nm] 86)) #[.int .i64 er, .bool eb] 96 1⟩
  rw [show (w.alloc (.cells #[.int .i64 sx, .int .i64 sy, .int .i64 kd, .slice A l.length c, .int .i64 nm] 86)).heap.size = w.heap.size + 1 by simp] at x0 x1
  have y3 := cell_keep1 (o := .cells #[.int .i64 er, .bool eb] 96) (cell_new1 w #[.int .i64 sx, .int .i64 sy, .int .i64 kd, .slice A l.length c, .int .i64 nm] 86 3) (by simp)
  have HX0 := Lib.hid x0; have HX1 := Lib.hid x1; have HY3 := Lib.hid y3
  have hz : ((w.alloc (.cells #[.int .i64 sx, .int .i64 sy, .int .i64 kd, .slice A l.length c, .int .i64 nm] 86)).alloc (.cells #[.int .i64 er, .bool eb] 96)).heap.size = w.heap.size + 1 + 1 := by simp
  have HZ := Lib.hid hz
  clear x0 x1 y3 hz
  go_enter Tryz.func90, Tryz.ntmps90
  go_wp2
  go_loopw [5] (fun i wr => ∃ k : Nat, k ≤ l.length ∧ i = .int .i64 k ∧ (⟨er, eb⟩ : E) ∉ l.take k ∧ Below (w.heap.size + 1 + 1) ((w.alloc (.cells #[.int .i64 sx, .int .i64 sy, .int .i64 kd, .slice A l.length c, .int .i64 nm] 86)).alloc (.cells #[.int .i64 er, .bool eb] 96)) wr) (fun i _ => l.length - (intOf i).toNat)
  case atStart => exact ⟨0, Nat.zero_le _, rfl, by simp, Below.refl _ _⟩
  case round =>
    obtain ⟨k, hk, rfl, hn, hb⟩ := hrel
    have HN := Lib.hid hn; clear hn
    have HB := Lib.hid (HB0.out.trans (hb.mono (by omega)))
    have x0 := (hb.cell (p := ⟨w.heap.size + 1, 0, none⟩) (by simp)).trans HX0.out
    have x1 := (hb.cell (p := ⟨w.heap.size + 1, 1, none⟩) (by simp)).trans HX1.out
    have y3 := (hb.cell (p := ⟨w.heap.size, 3, none⟩) (by show w.heap.size < w.heap.size + 1 + 1; omega)).trans HY3.out
    simp only [List.getElem?_toArray, List.getElem?_cons_zero, List.getElem?_cons_succ] at x0 x1 y3
    by_cases hlt : k < l.length
    · obtain ⟨b1, o1, e1, g1, q10, q11⟩ := end_at (hA.below HB.out) hlt
      obtain ⟨z0, z1, hx⟩ : ∃ x0 x1, l[k] = (⟨x0, x1⟩ : E) := ⟨l[k].rail, l[k].last, rfl⟩
      rw [hx] at q10 q11
      have HX := Lib.hid hx
      have HBW := Lib.hid hb
      subst e1
      clear hx hb
      by_cases h0 : z0 = er
      case neg =>
        have n1 : (z0 == er) = false := by simpa using h0
        have HM := Lib.hid (not_mem_nextE hlt HN.out (by rw [HX.out]; intro h; injection h with h h'; exact h0 h.symm))
        clear h0
        go_wp2
        go_quiet (fail)
        go_wp2
        go_roundw
        case rel => exact ⟨k + 1, by omega, by go_num, HM.out, bDrewN HBW.out _⟩
        case measure => simp [intOf]; omega
      subst h0
      by_cases h1 : z1 = eb
      case neg =>
        have n1 : (z1 == eb) = false := by simpa using h1
        have HM := Lib.hid (not_mem_nextE hlt HN.out (by rw [HX.out]; intro h; injection h with h h'; exact h1 h'.symm))
        clear h1
        go_wp2
        go_quiet (fail)
        go_wp2
        go_roundw
        case rel => exact ⟨k + 1, by omega, by go_num, HM.out, bDrewN HBW.out _⟩
        case measure => simp [intOf]; omega
      subst h1
      go_wp2
      go_quiet (fail)
      go_wp2
      go_ret
      exact ⟨⟨_, rfl, .inl ⟨k, hlt, rfl, HX.out⟩⟩, bDrewN HB.out _⟩
    · obtain rfl : k = l.length := by omega
      have HQ := Lib.hid (show (⟨er, eb⟩ : E) ∉ l by have := HN.out; rwa [List.take_length] at this)
      clear hb
      go_wp2
      go_ret
      exact ⟨⟨_, rfl, .inr ⟨rfl, HQ.out⟩⟩, HB.out⟩

/-- does a node let cars go from the end a to the end b? -/
def letsB (kd nm a b : Int) : Bool :=
  if kd = 2 then decide (a ≠ b) else if kd = 3 then decide (a ≠ b ∧ (a + b) % 2 = 0) else if kd = 4 then decide ((a = 0 ∧ 0 < b) ∨ (0 < a ∧ b = 0))
  else if kd = 5 then decide ((a = 0 ∧ b = nm) ∨ (0 < a ∧ b = 0)) else if kd = 6 then decide ((a = 0 ∧ b = nm) ∨ (a = nm ∧ b = 0)) else false
def LetsC (kd nm a b : Int) : Prop := ∀ (sx sy : Int) (E : Value) (w : World), Calls Tryz.prog 92 #[.agg #[.int .i64 sx, .int .i64 sy, .int .i64 kd, E, .int .i64 nm], .int .i64 a, .int .i64 b] w fun e w' => e = .returned (.bool (letsB kd nm a b)) ∧ Below w.heap.size w w'
set_option maxRecDepth 100000 in
set_option maxHeartbeats 2000000 in
theorem lets2 {nm a b : Int} : LetsC 2 nm a b := by
  intro sx sy E w
  by_cases hab : a = b
  · have qa1 : (a == b) = true := by simp [hab]
    have qa2 : (a != b) = false := by simp [hab]
    have HD := Lib.hid (show letsB 2 nm a b = false by simp [letsB, *] <;> omega)
    go_enter Tryz.func92, Tryz.ntmps92
    go_wp2
    go_ret
    exact ⟨by rw [HD.out]; rfl, (Below.refl _ _).alloc (Nat.le_refl _) _⟩
  · have qa1 : (a == b) = false := by simp [hab]
    have qa2 : (a != b) = true := by simp [hab]
    have HD := Lib.hid (show letsB 2 nm a b = true by simp [letsB, *] <;> omega)
    go_enter Tryz.func92, Tryz.ntmps92
    go_wp2
    go_ret
    exact ⟨by rw [HD.out]; rfl, (Below.refl _ _).alloc (Nat.le_refl _) _⟩
set_option maxRecDepth 100000 in
set_option maxHeartbeats 2000000 in
theorem lets3 {nm a b : Int} (a0 : 0 ≤ a) (a1 : a ≤ 1000) (b0 : 0 ≤ b) (b1 : b ≤ 1000) : LetsC 3 nm a b := by
  intro sx sy E w
  by_cases hab : a = b
  · have qa1 : (a == b) = true := by simp [hab]
    have qa2 : (a != b) = false := by simp [hab]
    have HD := Lib.hid (show letsB 3 nm a b = false by simp [letsB, *] <;> omega)
    go_enter Tryz.func92, Tryz.ntmps92
    go_wp2
    go_ret
    exact ⟨by rw [HD.out]; rfl, (Below.refl _ _).alloc (Nat.le_refl _) _⟩
  · have qa1 : (a == b) = false := by simp [hab]
    have qa2 : (a != b) = true := by simp [hab]
    by_cases hp : (a + b) % 2 = 0
    · have q3 : ((a + b) % 2 == 0) = true := by simp [hp]
      have HD := Lib.hid (show letsB 3 nm a b = true by simp [letsB, *] <;> omega)
      go_enter Tryz.func92, Tryz.ntmps92
      go_wp2
      go_ret
      exact ⟨by rw [HD.out]; rfl, (Below.refl _ _).alloc (Nat.le_refl _) _⟩
    · have q3 : ((a + b) % 2 == 0) = false := by simp; omega
      have HD := Lib.hid (show letsB 3 nm a b = false by simp [letsB, *] <;> omega)
      go_enter Tryz.func92, Tryz.ntmps92
      go_wp2
      go_ret
      exact ⟨by rw [HD.out]; rfl, (Below.refl _ _).alloc (Nat.le_refl _) _⟩
set_option maxRecDepth 100000 in
set_option maxHeartbeats 2000000 in
theorem lets4 {nm a b : Int} (a0 : 0 ≤ a) (b0 : 0 ≤ b) : LetsC 4 nm a b := by
  intro sx sy E w
  rcases Int.lt_or_eq_of_le a0 with ha | rfl
  · have ra : decide (0 < a) = true := by simpa using ha
    have ra1 : (a == 0) = false := by simp; omega
    have ra2 : ¬ a = 0 := by omega
    rcases Int.lt_or_eq_of_le b0 with hb | rfl
    · have rb : decide (0 < b) = true := by simpa using hb
      have rb1 : (b == 0) = false := by simp; omega
      have rb2 : ¬ b = 0 := by omega
      have HD := Lib.hid (show letsB 4 nm a b = false by simp [letsB, *] <;> omega)
      go_enter Tryz.func92, Tryz.ntmps92
      go_wp2
      go_ret
      exact ⟨by rw [HD.out]; rfl, (Below.refl _ _).alloc (Nat.le_refl _) _⟩
    · skip
      have HD := Lib.hid (show letsB 4 nm a 0 = true by simp [letsB, *] <;> omega)
      go_enter Tryz.func92, Tryz.ntmps92
      go_wp2
      go_ret
      exact ⟨by rw [HD.out]; rfl, (Below.refl _ _).alloc (Nat.le_refl _) _⟩
  · skip
    rcases Int.lt_or_eq_of_le b0 with hb | rfl
    · have rb : decide (0 < b) = true := by simpa using hb
      have rb1 : (b == 0) = false := by simp; omega
      have rb2 : ¬ b = 0 := by omega
      have HD := Lib.hid (show letsB 4 nm 0 b = true by simp [letsB, *] <;> omega)
      go_enter Tryz.func92, Tryz.ntmps92
      go_wp2
      go_ret
      exact ⟨by rw [HD.out]; rfl, (Below.refl _ _).alloc (Nat.le_refl _) _⟩
    · skip
      have HD := Lib.hid (show letsB 4 nm 0 0 = false by simp [letsB, *] <;> omega)
      go_enter Tryz.func92, Tryz.ntmps92
      go_wp2
      go_ret
      exact ⟨by rw [HD.out]; rfl, (Below.refl _ _).alloc (Nat.le_refl _) _⟩
set_option maxRecDepth 100000 in
set_option maxHeartbeats 2000000 in
theorem lets5 {nm a b : Int} (a0 : 0 ≤ a) (b0 : 0 ≤ b) : LetsC 5 nm a b := by
  intro sx sy E w
  rcases Int.lt_or_eq_of_le a0 with ha | rfl
  · have ra : decide (0 < a) = true := by simpa using ha
    have ra1 : (a == 0) = false := by simp; omega
    have ra2 : ¬ a = 0 := by omega
    rcases Int.lt_or_eq_of_le b0 with hb | rfl
    · have rb : decide (0 < b) = true := by simpa using hb
      have rb1 : (b == 0) = false := by simp; omega
      have rb2 : ¬ b = 0 := by omega
      have HD := Lib.hid (show letsB 5 nm a b = false by simp [letsB, *] <;> omega)
      go_enter Tryz.func92, Tryz.ntmps92
      go_wp2
      go_ret
      exact ⟨by rw [HD.out]; rfl, (Below.refl _ _).alloc (Nat.le_refl _) _⟩
    · skip
      have HD := Lib.hid (show letsB 5 nm a 0 = true by simp [letsB, *] <;> omega)
      go_enter Tryz.func92, Tryz.ntmps92
      go_wp2
      go_ret
      exact ⟨by rw [HD.out]; rfl, (Below.refl _ _).alloc (Nat.le_refl _) _⟩
  · skip
    by_cases hbnm : b = nm
    · have qb1 : (b == nm) = true := by simp [hbnm]
      have qb2 : (b != nm) = false := by simp [hbnm]
      have HD := Lib.hid (show letsB 5 nm 0 b = true by simp [letsB, *] <;> omega)
      go_enter Tryz.func92, Tryz.ntmps92
      go_wp2
      go_ret
      exact ⟨by rw [HD.out]; rfl, (Below.refl _ _).alloc (Nat.le_refl _) _⟩
    · have qb1 : (b == nm) = false := by simp [hbnm]
      have qb2 : (b != nm) = true := by simp [hbnm]
      have HD := Lib.hid (show letsB 5 nm 0 b = false by simp [letsB, *] <;> omega)
      go_enter Tryz.func92, Tryz.ntmps92
      go_wp2
      go_ret
      exact ⟨by rw [HD.out]; rfl, (Below.refl _ _).alloc (Nat.le_refl _) _⟩
set_option maxRecDepth 100000 in
set_option maxHeartbeats 2000000 in
theorem lets6 {nm a b : Int} (a0 : 0 ≤ a) (b0 : 0 ≤ b) : LetsC 6 nm a b := by
  intro sx sy E w
  rcases Int.lt_or_eq_of_le a0 with ha | rfl
  · have ra : decide (0 < a) = true := by simpa using ha
    have ra1 : (a == 0) = false := by simp; omega
    have ra2 : ¬ a = 0 := by omega
    by_cases hanm : a = nm
    · have qa1 : (a == nm) = true := by simp [hanm]
      have qa2 : (a != nm) = false := by simp [hanm]
      rcases Int.lt_or_eq_of_le b0 with hb | rfl
      · have rb : decide (0 < b) = true := by simpa using hb
        have rb1 : (b == 0) = false := by simp; omega
        have rb2 : ¬ b = 0 := by omega
        have HD := Lib.hid (show letsB 6 nm a b = false by simp [letsB, *] <;> omega)
        go_enter Tryz.func92, Tryz.ntmps92
        go_wp2
        go_ret
        exact ⟨by rw [HD.out]; rfl, (Below.refl _ _).alloc (Nat.le_refl _) _⟩
      · skip
        have HD := Lib.hid (show letsB 6 nm a 0 = true by simp [letsB, *] <;> omega)
        go_enter Tryz.func92, Tryz.ntmps92
        go_wp2
        go_ret
        exact ⟨by rw [HD.out]; rfl, (Below.refl _ _).alloc (Nat.le_refl _) _⟩
    · have qa1 : (a == nm) = false := by simp [hanm]
      have qa2 : (a != nm) = true := by simp [hanm]
      have HD := Lib.hid (show letsB 6 nm a b = false by simp [letsB, *] <;> omega)
      go_enter Tryz.func92, Tryz.ntmps92
      go_wp2
      go_ret
      exact ⟨by rw [HD.out]; rfl, (Below.refl _ _).alloc (Nat.le_refl _) _⟩
  · skip
    by_cases hbnm : b = nm
    · have qb1 : (b == nm) = true := by simp [hbnm]
      have qb2 : (b != nm) = false := by simp [hbnm]
      have HD := Lib.hid (show letsB 6 nm 0 b = true by simp [letsB, *] <;> omega)
      go_enter Tryz.func92, Tryz.ntmps92
      go_wp2
      go_ret
      exact ⟨by rw [HD.out]; rfl, (Below.refl _ _).alloc (Nat.le_refl _) _⟩
    · have qb1 : (b == nm) = false := by simp [hbnm]
      have qb2 : (b != nm) = true := by simp [hbnm]
      by_cases hanm : 0 = nm
      · have qa1 : (0 == nm) = true := by simp [hanm]
        have qa2 : (0 != nm) = false := by simp [hanm]
        rcases Int.lt_or_eq_of_le b0 with hb | rfl
        · have rb : decide (0 < b) = true := by simpa using hb
          have rb1 : (b == 0) = false := by simp; omega
          have rb2 : ¬ b = 0 := by omega
          have HD := Lib.hid (show letsB 6 nm 0 b = false by simp [letsB, *] <;> omega)
          go_enter Tryz.func92, Tryz.ntmps92
          go_wp2
          go_ret
          exact ⟨by rw [HD.out]; rfl, (Below.refl _ _).alloc (Nat.le_refl _) _⟩
        · skip
          exact absurd hanm hbnm
      · have qa1 : (0 == nm) = false := by simp [hanm]
        have qa2 : (0 != nm) = true := by simp [hanm]
        have HD := Lib.hid (show letsB 6 nm 0 b = false by simp [letsB, *] <;> omega)
        go_enter Tryz.func92, Tryz.ntmps92
        go_wp2
        go_ret
        exact ⟨by rw [HD.out]; rfl, (Below.refl _ _).alloc (Nat.le_refl _) _⟩
set_option maxRecDepth 100000 in
set_option maxHeartbeats 2000000 in
theorem lets_no {kd nm a b : Int} (h : kd < 2 ∨ 6 < kd) : LetsC kd nm a b := by
  intro sx sy E w
  have q2 : (kd == 2) = false := by simp; omega
  have q3 : (kd == 3) = false := by simp; omega
  have q4 : (kd == 4) = false := by simp; omega
  have q5 : (kd == 5) = false := by simp; omega
  have q6 : (kd == 6) = false := by simp; omega
  have HD := Lib.hid (show letsB kd nm a b = false by unfold letsB; rw [if_neg (by omega), if_neg (by omega), if_neg (by omega), if_neg (by omega), if_neg (by omega)])
  clear h
  go_enter Tryz.func92, Tryz.ntmps92
  go_wp2
  go_ret
  exact ⟨by rw [HD.out]; rfl, (Below.refl _ _).alloc (Nat.le_refl _) _⟩
theorem lets_any {kd nm a b : Int} (a0 : 0 ≤ a) (a1 : a ≤ 1000) (b0 : 0 ≤ b) (b1 : b ≤ 1000) : LetsC kd nm a b := by
  rcases (show kd = 2 ∨ kd = 3 ∨ kd = 4 ∨ kd = 5 ∨ kd = 6 ∨ (kd < 2 ∨ 6 < kd) by omega) with rfl | rfl | rfl | rfl | rfl | h
  · exact lets2
  · exact lets3 a0 a1 b0 b1
  · exact lets4 a0 b0
  · exact lets5 a0 b0
  · exact lets6 a0 b0
  · exact lets_no h

/-- what a node lets go, it is among what goes through -/
theorem lets_thru {kd nm a b : Int} (h1 : 1 ≤ kd) (h6 : kd ≤ 6) (hn : kd = 5 ∨ kd = 6 → nm = 1 ∨ nm = 2) (a0 : 0 ≤ a) (ha : a < endsZ kd) (b0 : 0 ≤ b) (hb : b < endsZ kd) : letsB kd nm a b = decide (b ∈ thru kd nm a) := by
  rw [Bool.eq_iff_iff]
  rcases (show kd = 1 ∨ kd = 2 ∨ kd = 3 ∨ kd = 4 ∨ kd = 5 ∨ kd = 6 by omega) with e | e | e | e | e | e <;> (subst e; simp only [endsZ, thru, letsB] at *; simp at *)
  · omega
  · omega
  · split <;> simp <;> omega
  · split <;> simp <;> omega
  · split
    · simp; omega
    · split <;> simp <;> omega

theorem ix_at {p : Pl} (h : okEnds p) {i : Nat} (hi : i < p.nodes.length) {e : E} (hr : railIn p e.rail = true) {r : Int} (hx : IxIs p.nodes[i].ends e r) :
    r = if nodeAtZ p (endNo e) = i then slAt p (keyE e) else -1 := by
  obtain ⟨e0, e1, e2⟩ := key_in hr
  rcases hx with ⟨s, hs, rfl, hl⟩ | ⟨rfl, hn⟩
  · obtain ⟨q1, q2, _⟩ := at_place h hi hs
    rw [hl] at q1 q2
    rw [if_pos q1, q2]
  · rw [if_neg]
    intro hq
    obtain ⟨i', hi', a, ha, h1, h2, h3⟩ := slots_spec h e1
    rw [e2, h2] at hq
    obtain rfl : i' = i := by omega
    have h4 := endNo_inj (h.1 i' hi' _ (List.getElem_mem ha)).1 e0 h1
    exact hn (h4 ▸ List.getElem_mem ha)

/-- the specification's answer, as it goes by the node -/
theorem fol_ref {p : Pl} (hV : Vld p) {m n : E} (hm : railIn p m.rail = true) (hn : railIn p n.rail = true) :
    ∃ i : Nat, ∃ hi : i < p.nodes.length, ∃ a : Nat, a ≤ 3 ∧ nodeAtZ p (endNo (opE m)) = i ∧ slAt p (keyE (opE m)) = a ∧ atN p (flip (keyE m)) = p.nodes[i] ∧
      ((nodeAtZ p (endNo n) = i ∧ ∃ b : Nat, b ≤ 3 ∧ slAt p (keyE n) = b ∧ folB p (keyE m) (endNo n) = letsB p.nodes[i].kind p.nodes[i].normal a b) ∨ (nodeAtZ p (endNo n) ≠ i ∧ folB p (keyE m) (endNo n) = false)) := by
  obtain ⟨_, m1, m2⟩ := key_in hm
  obtain ⟨_, n1, n2⟩ := key_in hn
  obtain ⟨i, hi, a, ha, h1, h2, h3, h4, h5⟩ := leave_place hV m1 n1
  have hB := nodeB_parts (List.all_eq_true.1 hV.nodes _ (List.getElem_mem hi))
  have hE3 : endsZ p.nodes[i].kind ≤ 4 := by unfold endsZ; (repeat' split) <;> omega
  have hle := hB.2.2.1
  have hf : folB p (keyE m) (endNo n) = true ↔ ((keyE n : Nat) : Int) ∈ leaveL p (keyE m) := by
    rw [folB_iff, n2]; unfold nextL; rw [List.mem_mergeSort]
  refine ⟨i, hi, a, by omega, by rw [(op_in hm).2]; exact h1, by rw [(op_in hm).1]; exact h2, h4, ?_⟩
  by_cases hq : nodeAtZ p (endNo n) = i
  · refine .inl ⟨hq, ?_⟩
    obtain ⟨i', hi', k', hk', r1, r2, r3⟩ := slots_spec hV.ends n1
    have hnl : keyE n < (slotsOf p).length := by rw [slots_len]; exact n1
    have hs2 : slAt p (keyE n) = k' := by rw [← slAt_eq hnl]; exact r3 hnl
    obtain rfl : i' = i := by rw [n2, r2] at hq; omega
    refine ⟨k', by omega, hs2, ?_⟩
    have hnb := hB.2.2.2.1
    have hl := lets_thru (kd := p.nodes[i'].kind) (nm := p.nodes[i'].normal) (a := (a : Int)) (b := (k' : Int)) hB.1 hB.2.1 (fun h6 => by
      unfold normB at hnb
      rcases h6 with h6 | h6 <;> (rw [h6] at hnb; simp at hnb; omega)) (by omega) (by omega) (by omega) (by omega)
    rw [hl, Bool.eq_iff_iff, hf, h5, ← n2, hs2]
    simp [hq]
  · refine .inr ⟨hq, ?_⟩
    rw [Bool.eq_false_iff, Ne, hf, h5, ← n2]
    exact fun h => hq h.1

set_option maxRecDepth 100000 in
set_option maxHeartbeats 4000000 in
theorem rFollows_any (A A2 : Option Addr) (c c2 : Nat) (p : Pl) (m n : E) (w : World) (hP : PlAt w w.heap.size A c A2 c2 p) (hv : Vld p) (hm : railIn p m.rail = true) (hn : railIn p n.rail = true) :
    Calls Tryz.prog 63 #[.agg #[.slice A p.nodes.length c, .slice A2 p.rails.length c2], .agg #[.int .i64 m.rail, .bool m.last], .agg #[.int .i64 n.rail, .bool n.last]] w fun e w' => e = .returned (.bool (folB p (keyE m) (endNo n))) ∧ Below w.heap.size w w' := by
  obtain ⟨i, hi, a, ha3, hnd, hsl, hat, hfo⟩ := fol_ref hv hm hn
  have hm0 := (key_in hm).1
  have hm1 : m.rail < p.rails.length := (of_decide_eq_true hm).2
  have HC43 := Lib.hid (show ∀ w, PlAt w w.heap.size A c A2 c2 p → Calls Tryz.prog 45 #[.agg #[.slice A p.nodes.length c, .slice A2 p.rails.length c2], .agg #[.int .i64 m.rail, .bool !m.last]] w fun e w' => e = .returned (.int .i64 (i : Int)) ∧ Below w.heap.size w w' from fun w hP => by
    have := at_any A A2 c c2 p (opE m) w hP hm0 hm1
    rw [show atZ p (opE m) = (i : Int) by rw [← hnd]; exact (nodeAtZ_end p (opE m) hm0).symm] at this
    exact this)
  obtain ⟨bZ, hbZ⟩ : ∃ x, (if nodeAtZ p (endNo n) = i then slAt p (keyE n) else -1) = x := ⟨_, rfl⟩
  have HC53a := Lib.hid (show ∀ (AN : Option Addr) (cN : Nat) (w : World), Sl w w.heap.size 2 CE AN p.nodes[i].ends → p.nodes[i].ends.length ≤ 140737488351232 → Calls Tryz.prog 90 #[.agg #[.int .i64 p.nodes[i].spot.x, .int .i64 p.nodes[i].spot.y, .int .i64 p.nodes[i].kind, .slice AN p.nodes[i].ends.length cN, .int .i64 p.nodes[i].normal], .agg #[.int .i64 m.rail, .bool !m.last]] w fun e w' => e = .returned (.int .i64 (a : Int)) ∧ Below w.heap.size w w' from fun AN cN w hS hl =>
    (rindex_any AN p.nodes[i].ends cN p.nodes[i].spot.x p.nodes[i].spot.y p.nodes[i].kind p.nodes[i].normal m.rail (!m.last) w hS hl).mono fun e w' ⟨⟨r, h1, h2⟩, h3⟩ => by
      have h4 := ix_at hv.ends hi (e := opE m) hm h2
      rw [if_pos hnd, hsl] at h4
      exact ⟨by rw [h1, h4], h3⟩)
  have HC53b := Lib.hid (show ∀ (AN : Option Addr) (cN : Nat) (w : World), Sl w w.heap.size 2 CE AN p.nodes[i].ends → p.nodes[i].ends.length ≤ 140737488351232 → Calls Tryz.prog 90 #[.agg #[.int .i64 p.nodes[i].spot.x, .int .i64 p.nodes[i].spot.y, .int .i64 p.nodes[i].kind, .slice AN p.nodes[i].ends.length cN, .int .i64 p.nodes[i].normal], .agg #[.int .i64 n.rail, .bool n.last]] w fun e w' => e = .returned (.int .i64 bZ) ∧ Below w.heap.size w w' from fun AN cN w hS hl =>
    (rindex_any AN p.nodes[i].ends cN p.nodes[i].spot.x p.nodes[i].spot.y p.nodes[i].kind p.nodes[i].normal n.rail n.last w hS hl).mono fun e w' ⟨⟨r, h1, h2⟩, h3⟩ => by
      have h4 := ix_at hv.ends hi (e := n) hn h2
      rw [hbZ] at h4
      exact ⟨by rw [h1, h4], h3⟩)
  have HB := Lib.hid (show (∃ b : Nat, b ≤ 3 ∧ bZ = b ∧ folB p (keyE m) (endNo n) = letsB p.nodes[i].kind p.nodes[i].normal a b) ∨ (bZ = -1 ∧ folB p (keyE m) (endNo n) = false) by
    rcases hfo with ⟨q1, b, q2, q3, q4⟩ | ⟨q1, q2⟩
    · exact .inl ⟨b, q2, by rw [← hbZ, if_pos q1, q3], q4⟩
    · exact .inr ⟨by rw [← hbZ, if_neg q1], q2⟩)
  have H1 := Lib.hid (G3st.start m n hP)
  have HI := Lib.hid hi
  obtain ⟨fo, hfo2⟩ : ∃ x, folB p (keyE m) (endNo n) = x := ⟨_, rfl⟩
  rw [hfo2] at HB ⊢
  clear hP hv hm hn hnd hsl hat hfo hm0 hm1 hbZ hfo2
  go_enter Tryz.func63, Tryz.ntmps63
  go_upto_region 1 with (fail)
  obtain ⟨k0, k1, m0, m1, n0, n1, _, _, hz2⟩ := H1.out
  generalize (((w.alloc (.cells #[.slice A p.nodes.length c, .slice A2 p.rails.length c2] 25)).alloc (.cells #[.int .i64 m.rail, .bool m.last] 27)).alloc (.cells #[.int .i64 n.rail, .bool n.last] 27)) = w4 at *
  have hz1 : w.heap.size + 1 < w4.heap.size := by omega
  have hz0 : w.heap.size < w4.heap.size := by omega
  go_cut [7] (fun s7 wx => s7 = .int .i64 (i : Int) ∧ G3st w wx w.heap.size A c A2 c2 p m n)
  case first =>
    have hbq : Below w4.heap.size w4 w4.drew := (Below.refl _ _).drew
    first
      | (go_region_held3 (fun w' => w'.cell? ⟨w.heap.size, 0, none⟩ = some (.slice A p.nodes.length c) ∧ w'.cell? ⟨w.heap.size, 1, none⟩ = some (.slice A2 p.rails.length c2) ∧ w'.cell? ⟨w.heap.size + 1, 0, none⟩ = some (.int .i64 m.rail) ∧ w'.cell? ⟨w.heap.size + 1, 1, none⟩ = some (.bool m.last))
          (exact ⟨(hbq.cell (p := ⟨w.heap.size, 0, none⟩) hz0).trans k0, (hbq.cell (p := ⟨w.heap.size, 1, none⟩) hz0).trans k1, (hbq.cell (p := ⟨w.heap.size + 1, 0, none⟩) hz1).trans m0, (hbq.cell (p := ⟨w.heap.size + 1, 1, none⟩) hz1).trans m1⟩)
          ((first
            | (go_at_call 89; refine (arrives_any _ _ _).mono ?_; rintro e w5 ⟨rfl, hb5⟩; replace hbq := hbq.trans (hb5.mono hbq.size))
            | (go_at_call 45; refine (HC43.out _ ((H1.out.pl.below hbq).more hbq.size)).mono ?_; rintro e w6 ⟨rfl, hb6⟩; replace hbq := hbq.trans (hb6.mono hbq.size)))))
      | fail "held3"
    all_goals
      go_wp2_with fail
      go_meet
      exact ⟨rfl, H1.out.next hbq⟩
  case rest =>
  obtain ⟨rfl, h5⟩ := hcut
  have H5 := Lib.hid h5
  clear h5 H1 k0 k1 m0 m1 n0 n1 hz0 hz1 hz2 HC43
  obtain ⟨k0, k1, _, _, _, _, hpl, _, hz2⟩ := H5.out
  have hil := HI.out
  obtain ⟨bN, oN, AN, cN, rfl, hbN, hE, hE1, hE2, z0, z1, z2, z3, z4⟩ := hpl.node hil
  have hnc := hpl.nc; have hnm := hpl.nm
  have HE := Lib.hid hE
  have j2 : (0 : Int) ≤ (i : Int) := by omega
  have j3 : (i : Int) < (p.nodes.length : Int) := by omega
  clear hpl hE
  go_upto_region 3 with (fail)
  have H8 := Lib.hid (H5.out.next ((Below.refl _ wc).alloc (Nat.le_refl _) (.cells #[.int .i64 p.nodes[i].spot.x, .int .i64 p.nodes[i].spot.y, .int .i64 p.nodes[i].kind, .slice AN p.nodes[i].ends.length cN, .int .i64 p.nodes[i].normal] 86)))
  have hyy := fun j => cell_new1 wc #[.int .i64 p.nodes[i].spot.x, .int .i64 p.nodes[i].spot.y, .int .i64 p.nodes[i].kind, .slice AN p.nodes[i].ends.length cN, .int .i64 p.nodes[i].normal] 86 j
  have y0 := hyy 0; have y1 := hyy 1; have y2 := hyy 2; have y3 := hyy 3; have y4 := hyy 4
  simp only [List.getElem?_toArray, List.getElem?_cons_zero, List.getElem?_cons_succ] at y0 y1 y2 y3 y4
  have HE8 := Lib.hid ((HE.out.below ((Below.refl _ wc).alloc (Nat.le_refl _) (.cells #[.int .i64 p.nodes[i].spot.x, .int .i64 p.nodes[i].spot.y, .int .i64 p.nodes[i].kind, .slice AN p.nodes[i].ends.length cN, .int .i64 p.nodes[i].normal] 86))).more (fun _ _ h => h) (by simp : wc.heap.size ≤ (wc.alloc (.cells #[.int .i64 p.nodes[i].spot.x, .int .i64 p.nodes[i].spot.y, .int .i64 p.nodes[i].kind, .slice AN p.nodes[i].ends.length cN, .int .i64 p.nodes[i].normal] 86)).heap.size))
  have hz8 : wc.heap.size < (wc.alloc (.cells #[.int .i64 p.nodes[i].spot.x, .int .i64 p.nodes[i].spot.y, .int .i64 p.nodes[i].kind, .slice AN p.nodes[i].ends.length cN, .int .i64 p.nodes[i].normal] 86)).heap.size := by simp
  clear hyy H5 HE k0 k1 z0 z1 z2 z3 z4 hbN hz2
  have hl8 : p.nodes[i].ends.length ≤ 140737488351232 := by omega
  obtain ⟨_, _, m0, m1, n0, n1, _, _, hz2⟩ := H8.out
  generalize wc.alloc (.cells #[.int .i64 p.nodes[i].spot.x, .int .i64 p.nodes[i].spot.y, .int .i64 p.nodes[i].kind, .slice AN p.nodes[i].ends.length cN, .int .i64 p.nodes[i].normal] 86) = w8 at *
  generalize wc.heap.size = K8 at *
  have hz1 : w.heap.size + 1 < w8.heap.size := by omega
  go_cut [9, 10] (fun s9 s10 wx => s9 = .int .i64 (a : Int) ∧ s10 = .int .i64 bZ ∧ Below w8.heap.size w8 wx)
  case first =>
    have hbq : Below w8.heap.size w8 w8.drew := (Below.refl _ _).drew
    first
      | (go_region_held3 (fun w' => w'.cell? ⟨K8, 0, none⟩ = some (.int .i64 p.nodes[i].spot.x) ∧ w'.cell? ⟨K8, 1, none⟩ = some (.int .i64 p.nodes[i].spot.y) ∧ w'.cell? ⟨K8, 2, none⟩ = some (.int .i64 p.nodes[i].kind) ∧ w'.cell? ⟨K8, 3, none⟩ = some (.slice AN p.nodes[i].ends.length cN) ∧ w'.cell? ⟨K8, 4, none⟩ = some (.int .i64 p.nodes[i].normal) ∧ w'.cell? ⟨w.heap.size + 1, 0, none⟩ = some (.int .i64 m.rail) ∧ w'.cell? ⟨w.heap.size + 1, 1, none⟩ = some (.bool m.last) ∧ w'.cell? ⟨w.heap.size + 1 + 1, 0, none⟩ = some (.int .i64 n.rail) ∧ w'.cell? ⟨w.heap.size + 1 + 1, 1, none⟩ = some (.bool n.last))
          (exact ⟨(hbq.cell (p := ⟨K8, 0, none⟩) hz8).trans y0, (hbq.cell (p := ⟨K8, 1, none⟩) hz8).trans y1, (hbq.cell (p := ⟨K8, 2, none⟩) hz8).trans y2, (hbq.cell (p := ⟨K8, 3, none⟩) hz8).trans y3, (hbq.cell (p := ⟨K8, 4, none⟩) hz8).trans y4, (hbq.cell (p := ⟨w.heap.size + 1, 0, none⟩) hz1).trans m0, (hbq.cell (p := ⟨w.heap.size + 1, 1, none⟩) hz1).trans m1, (hbq.cell (p := ⟨w.heap.size + 1 + 1, 0, none⟩) hz2).trans n0, (hbq.cell (p := ⟨w.heap.size + 1 + 1, 1, none⟩) hz2).trans n1⟩)
          ((first
            | (go_at_call 89; refine (arrives_any _ _ _).mono ?_; rintro e w5 ⟨rfl, hb5⟩; replace hbq := hbq.trans (hb5.mono hbq.size))
            | (go_at_call 91; refine (leaves_any _ _ _).mono ?_; rintro e w5 ⟨rfl, hb5⟩; replace hbq := hbq.trans (hb5.mono hbq.size))
            | (go_at_call 90; have hS8 := (HE8.out.below hbq).more (fun _ _ h => h) hbq.size; (with_reducible refine (HC53a.out _ _ _ hS8 hl8).mono ?_); rintro e w6 ⟨rfl, hb6⟩; replace hbq := hbq.trans (hb6.mono hbq.size))
            | (go_at_call 90; have hS8 := (HE8.out.below hbq).more (fun _ _ h => h) hbq.size; (with_reducible refine (HC53b.out _ _ _ hS8 hl8).mono ?_); rintro e w6 ⟨rfl, hb6⟩; replace hbq := hbq.trans (hb6.mono hbq.size)))))
      | fail "held3"
    all_goals
      go_wp2_with fail
      go_meet
      exact ⟨rfl, rfl, hbq⟩
  case rest =>
  obtain ⟨rfl, rfl, hbq⟩ := hcut
  have v0 := (hbq.cell (p := ⟨K8, 0, none⟩) hz8).trans y0
  have v1 := (hbq.cell (p := ⟨K8, 1, none⟩) hz8).trans y1
  have v2 := (hbq.cell (p := ⟨K8, 2, none⟩) hz8).trans y2
  have v3 := (hbq.cell (p := ⟨K8, 3, none⟩) hz8).trans y3
  have v4 := (hbq.cell (p := ⟨K8, 4, none⟩) hz8).trans y4
  have HBE := Lib.hid (H8.out.be.trans (hbq.mono H8.out.be.size))
  clear y0 y1 y2 y3 y4 hbq m0 m1 n0 n1 HC53a HC53b HE8
  have d0 : decide (0 ≤ (a : Int)) = true := by simp
  have d1 : (0 : Int) ≤ (a : Int) := by omega
  rcases HB.out with ⟨b, hb3, rfl, hfo⟩ | ⟨rfl, rfl⟩
  · have HF := Lib.hid hfo
    have d2 : decide (0 ≤ (b : Int)) = true := by simp
    have d3 : (0 : Int) ≤ (b : Int) := by omega
    clear hfo
    go_wp2_with fail
    refine (lets_any (kd := p.nodes[i].kind) (nm := p.nodes[i].normal) (a := (a : Int)) (b := (b : Int)) (by omega) (by omega) (by omega) (by omega) _ _ _ _).mono ?_
    rintro e w9 ⟨rfl, hb9⟩
    rw [← HF.out]
    have HB9 := Lib.hid (HBE.out.trans (hb9.mono HBE.out.size))
    clear hb9
    go_wp2
    go_ret
    exact ⟨rfl, HB9.out⟩
  · go_wp2
    go_ret
    exact ⟨rfl, HBE.out⟩
end Go.Proofs.YtcpanfpijljeaaaGreat

namespace Go.Proofs.YtcpanfpijljeaaaGreat
set_option linter.unusedVariables false
set_option linter.unusedSimpArgs false
open Go.RowKit

theorem set2z {w : World} {K : Nat} {a b x y : Value} (e0 : w.cell? ⟨K, 0, none⟩ = some a) (e1 : w.cell? ⟨K, 1, none⟩ = some b) :
    ((w.setCell ⟨K, 0, none⟩ x).setCell ⟨K, 1, none⟩ y).cell? ⟨K, 0, none⟩ = some x ∧ ((w.setCell ⟨K, 0, none⟩ x).setCell ⟨K, 1, none⟩ y).cell? ⟨K, 1, none⟩ = some y :=
  ⟨by simp [go_sem, e0], by simp [go_sem, e1]⟩
theorem far2 {w : World} {K : Nat} {x y : Value} {a : Addr} {v : Option Value} (h : w.cell? a = v) (hne : K ≠ a.block) : ((w.setCell ⟨K, 0, none⟩ x).setCell ⟨K, 1, none⟩ y).cell? a = v :=
  ((World.cell?_setCell_far _ _ _ _ hne).trans (World.cell?_setCell_far _ _ _ _ hne)).trans h
theorem set_ref {p : Pl} (hV : Vld p) {m n : E} (hm : railIn p m.rail = true) (hn : railIn p n.rail = true) (hf : folB p (keyE m) (endNo n) = true) :
    ∃ i : Nat, ∃ hi : i < p.nodes.length, ∃ a b : Nat, a ≤ 3 ∧ b ≤ 3 ∧ nodeAtZ p (endNo (opE m)) = i ∧ slAt p (keyE (opE m)) = a ∧ nodeAtZ p (endNo n) = i ∧ slAt p (keyE n) = b ∧
      settingV p (keyE m) (keyE n) = if p.nodes[i].kind = 4 then .tuple #[.agg #[.int .i64 (i : Int), .int .i64 (max (a : Int) (b : Int))], .bool true] else .tuple #[.agg #[.int .i64 0, .int .i64 0], .bool false] := by
  obtain ⟨i, hi, a, ha, h1, h2, h3, ⟨h4, b, hb, h5, _⟩ | ⟨_, h4⟩⟩ := fol_ref hV hm hn
  · refine ⟨i, hi, a, b, ha, hb, h1, h2, h4, h5, ?_⟩
    have h6 : nodeAtZ p ((flip (keyE m) : Nat) : Int) = i := by rw [← (op_in hm).2]; exact h1
    rw [(op_in hm).1] at h2
    unfold settingV setZ
    rw [h3, h6, h2, h5, show (if (b : Int) > (a : Int) then (b : Int) else (a : Int)) = max (a : Int) (b : Int) by rw [Int.max_def]; split <;> split <;> omega]
  · rw [hf] at h4; cases h4

set_option maxRecDepth 100000 in
set_option maxHeartbeats 4000000 in
theorem rBetween_any (A A2 : Option Addr) (c c2 : Nat) (p : Pl) (m n : E) (w : World) (hP : PlAt w w.heap.size A c A2 c2 p) (hv : Vld p) (hm : railIn p m.rail = true) (hn : railIn p n.rail = true) (hf : folB p (keyE m) (endNo n) = true) :
    Calls Tryz.prog 64 #[.agg #[.slice A p.nodes.length c, .slice A2 p.rails.length c2], .agg #[.int .i64 m.rail, .bool m.last], .agg #[.int .i64 n.rail, .bool n.last]] w fun e w' => e = .returned (settingV p (keyE m) (keyE n)) ∧ Below w.heap.size w w' := by
  obtain ⟨i, hi, a, b, ha3, hb3, hnd, hsl, hnd2, hsl2, hset⟩ := set_ref hv hm hn hf
  have hm0 := (key_in hm).1
  have hm1 : m.rail < p.rails.length := (of_decide_eq_true hm).2
  have HC43 := Lib.hid (show ∀ w, PlAt w w.heap.size A c A2 c2 p → Calls Tryz.prog 45 #[.agg #[.slice A p.nodes.length c, .slice A2 p.rails.length c2], .agg #[.int .i64 m.rail, .bool !m.last]] w fun e w' => e = .returned (.int .i64 (i : Int)) ∧ Below w.heap.size w w' from fun w hP => by
    have := at_any A A2 c c2 p (opE m) w hP hm0 hm1
    rw [show atZ p (opE m) = (i : Int) by rw [← hnd]; exact (nodeAtZ_end p (opE m) hm0).symm] at this
    exact this)
  have HC53a := Lib.hid (show ∀ (AN : Option Addr) (cN : Nat) (w : World), Sl w w.heap.size 2 CE AN p.nodes[i].ends → p.nodes[i].ends.length ≤ 140737488351232 → Calls Tryz.prog 90 #[.agg #[.int .i64 p.nodes[i].spot.x, .int .i64 p.nodes[i].spot.y, .int .i64 p.nodes[i].kind, .slice AN p.nodes[i].ends.length cN, .int .i64 p.nodes[i].normal], .agg #[.int .i64 m.rail, .bool !m.last]] w fun e w' => e = .returned (.int .i64 (a : Int)) ∧ Below w.heap.size w w' from fun AN cN w hS hl =>
    (rindex_any AN p.nodes[i].ends cN p.nodes[i].spot.x p.nodes[i].spot.y p.nodes[i].kind p.nodes[i].normal m.rail (!m.last) w hS hl).mono fun e w' ⟨⟨r, h1, h2⟩, h3⟩ => by
      have h4 := ix_at hv.ends hi (e := opE m) hm h2
      rw [if_pos hnd, hsl] at h4
      exact ⟨by rw [h1, h4], h3⟩)
  have HC53b := Lib.hid (show ∀ (AN : Option Addr) (cN : Nat) (w : World), Sl w w.heap.size 2 CE AN p.nodes[i].ends → p.nodes[i].ends.length ≤ 140737488351232 → Calls Tryz.prog 90 #[.agg #[.int .i64 p.nodes[i].spot.x, .int .i64 p.nodes[i].spot.y, .int .i64 p.nodes[i].kind, .slice AN p.nodes[i].ends.length cN, .int .i64 p.nodes[i].normal], .agg #[.int .i64 n.rail, .bool n.last]] w fun e w' => e = .returned (.int .i64 (b : Int)) ∧ Below w.heap.size w w' from fun AN cN w hS hl =>
    (rindex_any AN p.nodes[i].ends cN p.nodes[i].spot.x p.nodes[i].spot.y p.nodes[i].kind p.nodes[i].normal n.rail n.last w hS hl).mono fun e w' ⟨⟨r, h1, h2⟩, h3⟩ => by
      have h4 := ix_at hv.ends hi (e := n) hn h2
      rw [if_pos hnd2, hsl2] at h4
      exact ⟨by rw [h1, h4], h3⟩)
  have H1 := Lib.hid ((G3st.start m n hP).next ((Below.refl _ _).alloc (Nat.le_refl _) (.cells #[.int .i64 0, .int .i64 0] 38)))
  have HI := Lib.hid hi
  have HK4 := Lib.hid hset
  clear hP hv hm hn hnd hsl hnd2 hsl2 hm0 hm1 hset hf
  go_enter Tryz.func64, Tryz.ntmps64
  go_upto_region 1 with (fail)
  obtain ⟨k0, k1, m0, m1, n0, n1, _, _, hz2⟩ := H1.out
  have hr := fun j => box_cells4 w #[.slice A p.nodes.length c, .slice A2 p.rails.length c2] #[.int .i64 m.rail, .bool m.last] #[.int .i64 n.rail, .bool n.last] #[.int .i64 0, .int .i64 0] 25 27 27 38 j
  have r0 := (hr 0).2.2.1; have r1 := (hr 1).2.2.1; have f0 := (hr 0).2.2.2; have f1 := (hr 1).2.2.2
  simp only [List.getElem?_toArray, List.getElem?_cons_zero, List.getElem?_cons_succ] at r0 r1
  have hz3 : w.heap.size + 1 + 1 + 1 < ((((w.alloc (.cells #[.slice A p.nodes.length c, .slice A2 p.rails.length c2] 25)).alloc (.cells #[.int .i64 m.rail, .bool m.last] 27)).alloc (.cells #[.int .i64 n.rail, .bool n.last] 27)).alloc (.cells #[.int .i64 0, .int .i64 0] 38)).heap.size := by simp
  clear hr
  generalize ((((w.alloc (.cells #[.slice A p.nodes.length c, .slice A2 p.rails.length c2] 25)).alloc (.cells #[.int .i64 m.rail, .bool m.last] 27)).alloc (.cells #[.int .i64 n.rail, .bool n.last] 27)).alloc (.cells #[.int .i64 0, .int .i64 0] 38)) = w4 at *
  have hz1 : w.heap.size + 1 < w4.heap.size := by omega
  have hz0 : w.heap.size < w4.heap.size := by omega
  go_cut [8] (fun s7 wx => s7 = .int .i64 (i : Int) ∧ Below w4.heap.size w4 wx)
  case first =>
    have hbq : Below w4.heap.size w4 w4.drew := (Below.refl _ _).drew
    first
      | (go_region_held3 (fun w' => w'.cell? ⟨w.heap.size, 0, none⟩ = some (.slice A p.nodes.length c) ∧ w'.cell? ⟨w.heap.size, 1, none⟩ = some (.slice A2 p.rails.length c2) ∧ w'.cell? ⟨w.heap.size + 1, 0, none⟩ = some (.int .i64 m.rail) ∧ w'.cell? ⟨w.heap.size + 1, 1, none⟩ = some (.bool m.last))
          (exact ⟨(hbq.cell (p := ⟨w.heap.size, 0, none⟩) hz0).trans k0, (hbq.cell (p := ⟨w.heap.size, 1, none⟩) hz0).trans k1, (hbq.cell (p := ⟨w.heap.size + 1, 0, none⟩) hz1).trans m0, (hbq.cell (p := ⟨w.heap.size + 1, 1, none⟩) hz1).trans m1⟩)
          ((first
            | (go_at_call 89; refine (arrives_any _ _ _).mono ?_; rintro e w5 ⟨rfl, hb5⟩; replace hbq := hbq.trans (hb5.mono hbq.size))
            | (go_at_call 45; refine (HC43.out _ ((H1.out.pl.below hbq).more hbq.size)).mono ?_; rintro e w6 ⟨rfl, hb6⟩; replace hbq := hbq.trans (hb6.mono hbq.size)))))
      | fail "held3"
    all_goals
      go_wp2_with fail
      go_meet
      exact ⟨rfl, hbq⟩
  case rest =>
  obtain ⟨rfl, hbq⟩ := hcut
  have H5 := Lib.hid (H1.out.next hbq)
  have HR := Lib.hid (show wc.cell? ⟨w.heap.size + 1 + 1 + 1, 0, none⟩ = some (.int .i64 0) ∧ wc.cell? ⟨w.heap.size + 1 + 1 + 1, 1, none⟩ = some (.int .i64 0) ∧ wc.frozen? ⟨w.heap.size + 1 + 1 + 1, 0, none⟩ = false ∧ wc.frozen? ⟨w.heap.size + 1 + 1 + 1, 1, none⟩ = false ∧ w.heap.size + 1 + 1 + 1 < wc.heap.size from
    ⟨(hbq.cell (p := ⟨w.heap.size + 1 + 1 + 1, 0, none⟩) hz3).trans r0, (hbq.cell (p := ⟨w.heap.size + 1 + 1 + 1, 1, none⟩) hz3).trans r1, (hbq.frozen (p := ⟨w.heap.size + 1 + 1 + 1, 0, none⟩) hz3).trans f0, (hbq.frozen (p := ⟨w.heap.size + 1 + 1 + 1, 1, none⟩) hz3).trans f1, Nat.lt_of_lt_of_le hz3 hbq.size⟩)
  clear hbq H1 k0 k1 m0 m1 n0 n1 hz0 hz1 hz2 hz3 r0 r1 f0 f1 HC43
  obtain ⟨k0, k1, _, _, _, _, hpl, _, hz2⟩ := H5.out
  have hil := HI.out
  obtain ⟨bN, oN, AN, cN, rfl, hbN, hE, hE1, hE2, z0, z1, z2, z3, z4⟩ := hpl.node hil
  have hnc := hpl.nc; have hnm := hpl.nm
  have HE := Lib.hid hE
  have j2 : (0 : Int) ≤ (i : Int) := by omega
  have j3 : (i : Int) < (p.nodes.length : Int) := by omega
  clear hpl hE
  go_upto_region 3 with (fail)
  obtain ⟨r0, r1, f0, f1, hz3⟩ := HR.out
  have hc8 := fun b o hb => (((Below.refl wc.heap.size wc).alloc (Nat.le_refl _) (.cells #[.int .i64 p.nodes[i].spot.x, .int .i64 p.nodes[i].spot.y, .int .i64 p.nodes[i].kind, .slice AN p.nodes[i].ends.length cN, .int .i64 p.nodes[i].normal] 86)).cell (p := ⟨b, o, none⟩) hb)
  have hf8 := fun b o hb => (((Below.refl wc.heap.size wc).alloc (Nat.le_refl _) (.cells #[.int .i64 p.nodes[i].spot.x, .int .i64 p.nodes[i].spot.y, .int .i64 p.nodes[i].kind, .slice AN p.nodes[i].ends.length cN, .int .i64 p.nodes[i].normal] 86)).frozen (p := ⟨b, o, none⟩) hb)
  replace r0 := (hc8 _ 0 hz3).trans r0; replace r1 := (hc8 _ 1 hz3).trans r1; replace f0 := (hf8 _ 0 hz3).trans f0; replace f1 := (hf8 _ 1 hz3).trans f1
  clear hc8 hf8
  have H8 := Lib.hid (H5.out.next ((Below.refl _ wc).alloc (Nat.le_refl _) (.cells #[.int .i64 p.nodes[i].spot.x, .int .i64 p.nodes[i].spot.y, .int .i64 p.nodes[i].kind, .slice AN p.nodes[i].ends.length cN, .int .i64 p.nodes[i].normal] 86)))
  have hyy := fun j => cell_new1 wc #[.int .i64 p.nodes[i].spot.x, .int .i64 p.nodes[i].spot.y, .int .i64 p.nodes[i].kind, .slice AN p.nodes[i].ends.length cN, .int .i64 p.nodes[i].normal] 86 j
  have y0 := hyy 0; have y1 := hyy 1; have y2 := hyy 2; have y3 := hyy 3; have y4 := hyy 4
  simp only [List.getElem?_toArray, List.getElem?_cons_zero, List.getElem?_cons_succ] at y0 y1 y2 y3 y4
  have HE8 := Lib.hid ((HE.out.below ((Below.refl _ wc).alloc (Nat.le_refl _) (.cells #[.int .i64 p.nodes[i].spot.x, .int .i64 p.nodes[i].spot.y, .int .i64 p.nodes[i].kind, .slice AN p.nodes[i].ends.length cN, .int .i64 p.nodes[i].normal] 86))).more (fun _ _ h => h) (by simp : wc.heap.size ≤ (wc.alloc (.cells #[.int .i64 p.nodes[i].spot.x, .int .i64 p.nodes[i].spot.y, .int .i64 p.nodes[i].kind, .slice AN p.nodes[i].ends.length cN, .int .i64 p.nodes[i].normal] 86)).heap.size))
  have hz8 : wc.heap.size < (wc.alloc (.cells #[.int .i64 p.nodes[i].spot.x, .int .i64 p.nodes[i].spot.y, .int .i64 p.nodes[i].kind, .slice AN p.nodes[i].ends.length cN, .int .i64 p.nodes[i].normal] 86)).heap.size := by simp
  have hz38 := Nat.lt_trans hz3 hz8
  have hk8 : w.heap.size + 1 + 1 + 1 ≠ wc.heap.size := Nat.ne_of_lt hz3
  clear hyy H5 HE HR hz3 k0 k1 z0 z1 z2 z3 z4 hbN hz2
  have hl8 : p.nodes[i].ends.length ≤ 140737488351232 := by omega
  obtain ⟨_, _, m0, m1, n0, n1, _, _, hz2⟩ := H8.out
  generalize wc.alloc (.cells #[.int .i64 p.nodes[i].spot.x, .int .i64 p.nodes[i].spot.y, .int .i64 p.nodes[i].kind, .slice AN p.nodes[i].ends.length cN, .int .i64 p.nodes[i].normal] 86) = w8 at *
  generalize wc.heap.size = K8 at *
  have hz1 : w.heap.size + 1 < w8.heap.size := by omega
  by_cases h4 : p.nodes[i].kind = 4
  · have e1 : (p.nodes[i].kind != 4) = false := by simp [h4]
    have e2 : (!(p.nodes[i].kind == 4)) = false := by simp [h4]
    have HS := Lib.hid (HK4.out.trans (if_pos h4))
    clear h4
    go_upto_region 5 with (fail)
    clear e1 e2
    go_cut [7] (fun s7 wx => s7 = .bool true ∧ wx.cell? ⟨w.heap.size + 1 + 1 + 1, 0, none⟩ = some (.int .i64 (i : Int)) ∧ wx.cell? ⟨w.heap.size + 1 + 1 + 1, 1, none⟩ = some (.int .i64 (max (a : Int) (b : Int))) ∧ Below w.heap.size w wx)
    case first =>
      have hbq : Below w8.heap.size w8 w8.drew := (Below.refl _ _).drew
      have hk1 : w.heap.size + 1 + 1 + 1 ≠ w.heap.size + 1 := by omega
      have hk2 : w.heap.size + 1 + 1 + 1 ≠ w.heap.size + 1 + 1 := by omega
      (go_region_held3 (fun w' => w'.cell? ⟨K8, 0, none⟩ = some (.int .i64 p.nodes[i].spot.x) ∧ w'.cell? ⟨K8, 1, none⟩ = some (.int .i64 p.nodes[i].spot.y) ∧ w'.cell? ⟨K8, 2, none⟩ = some (.int .i64 p.nodes[i].kind) ∧ w'.cell? ⟨K8, 3, none⟩ = some (.slice AN p.nodes[i].ends.length cN) ∧ w'.cell? ⟨K8, 4, none⟩ = some (.int .i64 p.nodes[i].normal) ∧ w'.cell? ⟨w.heap.size + 1, 0, none⟩ = some (.int .i64 m.rail) ∧ w'.cell? ⟨w.heap.size + 1, 1, none⟩ = some (.bool m.last) ∧ w'.cell? ⟨w.heap.size + 1 + 1, 0, none⟩ = some (.int .i64 n.rail) ∧ w'.cell? ⟨w.heap.size + 1 + 1, 1, none⟩ = some (.bool n.last))
            (first
              | exact ⟨(hbq.cell (p := ⟨K8, 0, none⟩) hz8).trans y0, (hbq.cell (p := ⟨K8, 1, none⟩) hz8).trans y1, (hbq.cell (p := ⟨K8, 2, none⟩) hz8).trans y2, (hbq.cell (p := ⟨K8, 3, none⟩) hz8).trans y3, (hbq.cell (p := ⟨K8, 4, none⟩) hz8).trans y4, (hbq.cell (p := ⟨w.heap.size + 1, 0, none⟩) hz1).trans m0, (hbq.cell (p := ⟨w.heap.size + 1, 1, none⟩) hz1).trans m1, (hbq.cell (p := ⟨w.heap.size + 1 + 1, 0, none⟩) hz2).trans n0, (hbq.cell (p := ⟨w.heap.size + 1 + 1, 1, none⟩) hz2).trans n1⟩
              | exact ⟨far2 ((hbq.cell (p := ⟨K8, 0, none⟩) hz8).trans y0) hk8, far2 ((hbq.cell (p := ⟨K8, 1, none⟩) hz8).trans y1) hk8, far2 ((hbq.cell (p := ⟨K8, 2, none⟩) hz8).trans y2) hk8, far2 ((hbq.cell (p := ⟨K8, 3, none⟩) hz8).trans y3) hk8, far2 ((hbq.cell (p := ⟨K8, 4, none⟩) hz8).trans y4) hk8, far2 ((hbq.cell (p := ⟨w.heap.size + 1, 0, none⟩) hz1).trans m0) hk1, far2 ((hbq.cell (p := ⟨w.heap.size + 1, 1, none⟩) hz1).trans m1) hk1, far2 ((hbq.cell (p := ⟨w.heap.size + 1 + 1, 0, none⟩) hz2).trans n0) hk2, far2 ((hbq.cell (p := ⟨w.heap.size + 1 + 1, 1, none⟩) hz2).trans n1) hk2⟩)
            ((first
              | (go_at_call 89; refine (arrives_any _ _ _).mono ?_; rintro e w5 ⟨rfl, hb5⟩; replace hbq := hbq.trans (hb5.mono hbq.size); have e0 := (hbq.cell (p := ⟨w.heap.size + 1 + 1 + 1, 0, none⟩) hz38).trans r0; have e1 := (hbq.cell (p := ⟨w.heap.size + 1 + 1 + 1, 1, none⟩) hz38).trans r1; have e2 := (hbq.frozen (p := ⟨w.heap.size + 1 + 1 + 1, 0, none⟩) hz38).trans f0; have e3 := (hbq.frozen (p := ⟨w.heap.size + 1 + 1 + 1, 1, none⟩) hz38).trans f1)
              | (go_at_call 91; refine (leaves_any _ _ _).mono ?_; rintro e w5 ⟨rfl, hb5⟩; replace hbq := hbq.trans (hb5.mono hbq.size); have e0 := (hbq.cell (p := ⟨w.heap.size + 1 + 1 + 1, 0, none⟩) hz38).trans r0; have e1 := (hbq.cell (p := ⟨w.heap.size + 1 + 1 + 1, 1, none⟩) hz38).trans r1; have e2 := (hbq.frozen (p := ⟨w.heap.size + 1 + 1 + 1, 0, none⟩) hz38).trans f0; have e3 := (hbq.frozen (p := ⟨w.heap.size + 1 + 1 + 1, 1, none⟩) hz38).trans f1)
              | (go_at_call 90; have hS8 := (HE8.out.below hbq).more (fun _ _ h => h) hbq.size; (with_reducible refine (HC53a.out _ _ _ hS8 hl8).mono ?_); rintro e w6 ⟨rfl, hb6⟩; replace hbq := hbq.trans (hb6.mono hbq.size); have e0 := (hbq.cell (p := ⟨w.heap.size + 1 + 1 + 1, 0, none⟩) hz38).trans r0; have e1 := (hbq.cell (p := ⟨w.heap.size + 1 + 1 + 1, 1, none⟩) hz38).trans r1; have e2 := (hbq.frozen (p := ⟨w.heap.size + 1 + 1 + 1, 0, none⟩) hz38).trans f0; have e3 := (hbq.frozen (p := ⟨w.heap.size + 1 + 1 + 1, 1, none⟩) hz38).trans f1)
              | (go_at_call 90; have hS8 := (HE8.out.below hbq).more (fun _ _ h => h) hbq.size; (with_reducible refine (HC53b.out _ _ _ hS8 hl8).mono ?_); rintro e w6 ⟨rfl, hb6⟩; replace hbq := hbq.trans (hb6.mono hbq.size); have e0 := (hbq.cell (p := ⟨w.heap.size + 1 + 1 + 1, 0, none⟩) hz38).trans r0; have e1 := (hbq.cell (p := ⟨w.heap.size + 1 + 1 + 1, 1, none⟩) hz38).trans r1; have e2 := (hbq.frozen (p := ⟨w.heap.size + 1 + 1 + 1, 0, none⟩) hz38).trans f0; have e3 := (hbq.frozen (p := ⟨w.heap.size + 1 + 1 + 1, 1, none⟩) hz38).trans f1))))
      all_goals
        go_wp2_with fail
        go_meet
        exact ⟨rfl, (set2z e0 e1).1, (set2z e0 e1).2, ((H8.out.be.trans (hbq.mono H8.out.be.size)).setCell (by simp; omega) _).setCell (by simp; omega) _⟩
    case rest =>
    obtain ⟨rfl, c0, c1, hbe⟩ := hcut
    have HB := Lib.hid hbe
    clear hbe
    go_wp2
    exact bodyPost_ret (v := .tuple #[.agg #[.int .i64 (i : Int), .int .i64 (max (a : Int) (b : Int))], .bool true]) (by simp [results, Tryz.results64, go_sem, c0, c1]) rfl ⟨by rw [HS.out], HB.out⟩
  · have e1 : (p.nodes[i].kind != 4) = true := by simp [h4]
    have e2 : (!(p.nodes[i].kind == 4)) = true := by simp [h4]
    have HS := Lib.hid (HK4.out.trans (if_neg h4))
    have HB := Lib.hid H8.out.be
    clear h4
    go_wp2
    exact bodyPost_ret (v := .tuple #[.agg #[.int .i64 0, .int .i64 0], .bool false]) (by simp [results, Tryz.results64, go_sem, r0, r1]) rfl ⟨by rw [HS.out], (HB.out.setCell (by simp; omega) _).setCell (by simp; omega) _⟩

theorem asc_ext : ∀ {l m : List Int}, l.Pairwise (· < ·) → m.Pairwise (· < ·) → (∀ x, x ∈ l ↔ x ∈ m) → l = m
  | [], [], _, _, _ => rfl
  | [], y :: m, _, _, h => by have := (h y).2 (by simp); simp at this
  | x :: l, [], _, _, h => by have := (h x).1 (by simp); simp at this
  | x :: l, y :: m, hl, hm, h => by
    obtain ⟨l1, l2⟩ := List.pairwise_cons.1 hl
    obtain ⟨m1, m2⟩ := List.pairwise_cons.1 hm
    have hxy : x = y := by
      rcases List.mem_cons.1 ((h x).1 (by simp)) with e | e
      · exact e
      · rcases List.mem_cons.1 ((h y).2 (by simp)) with e' | e'
        · exact e'.symm
        · have := m1 x e; have := l1 y e'; omega
    subst hxy
    rw [asc_ext l2 m2 fun z => by
      constructor
      · intro hz
        rcases List.mem_cons.1 ((h z).1 (List.mem_cons_of_mem _ hz)) with e | e
        · have := l1 z hz; omega
        · exact e
      · intro hz
        rcases List.mem_cons.1 ((h z).2 (List.mem_cons_of_mem _ hz)) with e | e
        · have := m1 z hz; omega
        · exact e]
theorem thru_nodup (k nm a : Int) : (thru k nm a).Pairwise (· ≠ ·) := by
  unfold thru
  (repeat' split) <;> simp
theorem leaveL_nodup {p : Pl} (hV : Vld p) {m : Nat} (hm : m < 2 * p.rails.length) : (leaveL p m).Pairwise (· ≠ ·) := by
  have hx := flip_lt hm
  obtain ⟨i, hi, k, hk, h1, h2, h3⟩ := slots_spec hV.ends hx
  have hxl : flip m < (slotsOf p).length := by rw [slots_len]; exact hx
  rw [leaveL_eq (m := m) h2 hi rfl hxl (h3 hxl), List.pairwise_map]
  have hLb := thru_lt (List.all_eq_true.1 hV.nodes _ (List.getElem_mem hi)) hk
  refine (thru_nodup _ _ _).imp_of_mem fun {a b} ha hb hne he => ?_
  obtain ⟨a0, a1⟩ := hLb a ha
  obtain ⟨b0, b1⟩ := hLb b hb
  obtain ⟨s, rfl⟩ := Int.eq_ofNat_of_zero_le a0
  obtain ⟨t, rfl⟩ := Int.eq_ofNat_of_zero_le b0
  have hs : s < p.nodes[i].ends.length := by omega
  have ht : t < p.nodes[i].ends.length := by omega
  rw [endAt_nat hs, endAt_nat ht] at he
  have q1 := (at_place hV.ends hi hs).2.1
  have q2 := (at_place hV.ends hi ht).2.1
  unfold keyE at q1 q2
  rw [he] at q1
  rw [q1] at q2
  exact hne q2
theorem nextL_asc {p : Pl} (hV : Vld p) {m : Nat} (hm : m < 2 * p.rails.length) : (nextL p m).Pairwise (· < ·) := by
  have h1 : (nextL p m).Pairwise (fun a b => decide (a ≤ b) = true) := by
    unfold nextL
    exact List.pairwise_mergeSort (le := fun x y => decide (x ≤ y)) (fun a b c h1 h2 => by simp at *; omega) (fun a b => by simp; omega) _
  have h2 : (nextL p m).Pairwise (· ≠ ·) := by
    unfold nextL
    exact ((List.mergeSort_perm _ _).pairwise_iff (fun h => Ne.symm h)).2 (leaveL_nodup hV hm)
  refine (h1.and h2).imp fun {a b} h => ?_
  obtain ⟨h3, h4⟩ := h
  simp at h3
  omega
/-- the moves below k that follow -/
def fltr (p : Pl) (m k : Nat) : List Int := ((List.range k).filter fun x : Nat => folB p m (x : Int)).map fun x : Nat => (x : Int)
theorem fltr_all {p : Pl} (hV : Vld p) {m : Nat} (hm : m < 2 * p.rails.length) : fltr p m (2 * p.rails.length) = nextL p m := by
  refine asc_ext ?_ (nextL_asc hV hm) fun x => ?_
  · unfold fltr
    rw [List.pairwise_map]
    exact (List.pairwise_lt_range.filter _).imp fun h => by omega
  · unfold fltr
    simp only [List.mem_map, List.mem_filter, List.mem_range]
    constructor
    · rintro ⟨y, ⟨h1, h2⟩, rfl⟩
      exact (folB_iff _ _ _).1 h2
    · intro hx
      obtain ⟨h1, h2⟩ := nextL_bd hV hm x hx
      exact ⟨x.toNat, ⟨by omega, by rw [show ((x.toNat : Nat) : Int) = x by omega]; exact (folB_iff _ _ _).2 hx⟩, by omega⟩
theorem fltr_yes {p : Pl} {m k : Nat} (h : folB p m (k : Int) = true) : fltr p m (k + 1) = fltr p m k ++ [(k : Int)] := by
  unfold fltr; rw [List.range_succ, List.filter_append, List.map_append]; simp [h]
theorem fltr_no {p : Pl} {m k : Nat} (h : folB p m (k : Int) = false) : fltr p m (k + 1) = fltr p m k := by
  unfold fltr; rw [List.range_succ, List.filter_append, List.map_append]; simp [h]
theorem fltr_len (p : Pl) (m k : Nat) : (fltr p m k).length ≤ k := by
  unfold fltr; rw [List.length_map]; exact Nat.le_trans (List.length_filter_le _ _) (by simp)
theorem endNo_move {x : Int} : endNo (moveE x) = x := by
  unfold endNo moveE
  by_cases h : x % 2 = 1
  · simp [h]; omega
  · simp [h]; omega

set_option maxRecDepth 100000 in
set_option maxHeartbeats 4000000 in
theorem rNext_any (A A2 : Option Addr) (c c2 : Nat) (p : Pl) (m : E) (w : World) (hP : PlAt w w.heap.size A c A2 c2 p) (hv : Vld p) (hm : railIn p m.rail = true) :
    Calls Tryz.prog 65 #[.agg #[.slice A p.nodes.length c, .slice A2 p.rails.length c2], .agg #[.int .i64 m.rail, .bool m.last]] w fun e w' => (∃ v, e = .returned v ∧ Own w' w.heap.size 27 2 fE v ((nextL p (keyE m)).map moveE)) ∧ Below w.heap.size w w' := by
  obtain ⟨i0, hi, hz0, hz1, hz2⟩ := info_parts info27
  have hsz := of_decide_eq_true hv.sizes
  have hR : p.rails.length ≤ 400 := by omega
  have hrc := hP.rc; have hrm := hP.rm
  obtain ⟨km, hkm⟩ : ∃ x, keyE m = x := ⟨_, rfl⟩
  have HFA := Lib.hid (show fltr p km (2 * p.rails.length) = nextL p (keyE m) by rw [← hkm]; exact fltr_all hv (key_in hm).2.1)
  have HC := Lib.hid (show ∀ (k : Nat), k < 2 * p.rails.length → ∀ w, PlAt w w.heap.size A c A2 c2 p → Calls Tryz.prog 63 #[.agg #[.slice A p.nodes.length c, .slice A2 p.rails.length c2], .agg #[.int .i64 m.rail, .bool m.last], .agg #[.int .i64 (moveE (k : Int)).rail, .bool (moveE (k : Int)).last]] w fun e w' => e = .returned (.bool (folB p km (k : Int))) ∧ Below w.heap.size w w' from fun k hk w hP => by
    have := rFollows_any A A2 c c2 p m (moveE (k : Int)) w hP hv hm (show decide (0 ≤ (k : Int) / 2 ∧ (k : Int) / 2 < p.rails.length) = true from decide_eq_true (by omega))
    rw [endNo_move, hkm] at this; exact this)
  have hb0 : Below w.heap.size w ((w.alloc (.cells #[.slice A p.nodes.length c, .slice A2 p.rails.length c2] 25)).alloc (.cells #[.int .i64 m.rail, .bool m.last] 27)) := ((Below.refl _ w).alloc (Nat.le_refl _) _).alloc (by simp) _
  have HP1 := Lib.hid ((hP.box (.cells #[.slice A p.nodes.length c, .slice A2 p.rails.length c2] 25)).box (.cells #[.int .i64 m.rail, .bool m.last] 27))
  have HX := Lib.hid (show ∀ j : Nat, ((w.alloc (.cells #[.slice A p.nodes.length c, .slice A2 p.rails.length c2] 25)).alloc (.cells #[.int .i64 m.rail, .bool m.last] 27)).cell? ⟨w.heap.size, j, none⟩ = #[.slice A p.nodes.length c, .slice A2 p.rails.length c2][j]? ∧ ((w.alloc (.cells #[.slice A p.nodes.length c, .slice A2 p.rails.length c2] 25)).alloc (.cells #[.int .i64 m.rail, .bool m.last] 27)).cell? ⟨w.heap.size + 1, j, none⟩ = #[.int .i64 m.rail, .bool m.last][j]? from fun j => by
    have h1 := cell_keep1 (o := .cells #[.int .i64 m.rail, .bool m.last] 27) (cell_new1 w #[.slice A p.nodes.length c, .slice A2 p.rails.length c2] 25 j) (by simp)
    have h2 := cell_new1 (w.alloc (.cells #[.slice A p.nodes.length c, .slice A2 p.rails.length c2] 25)) #[.int .i64 m.rail, .bool m.last] 27 j
    rw [show (w.alloc (.cells #[.slice A p.nodes.length c, .slice A2 p.rails.length c2] 25)).heap.size = w.heap.size + 1 by simp] at h2
    exact ⟨h1, h2⟩)
  have hz3 : ((w.alloc (.cells #[.slice A p.nodes.length c, .slice A2 p.rails.length c2] 25)).alloc (.cells #[.int .i64 m.rail, .bool m.last] 27)).heap.size = w.heap.size + 1 + 1 := by simp
  have HB0 := Lib.hid hb0
  clear hP hv hm hsz hb0 hkm
  go_enter Tryz.func65, Tryz.ntmps65
  go_wp2
  generalize ((w.alloc (.cells #[.slice A p.nodes.length c, .slice A2 p.rails.length c2] 25)).alloc (.cells #[.int .i64 m.rail, .bool m.last] 27)) = W1 at *
  go_loopw [5, 6] (fun v i wr => ∃ k : Nat, k ≤ 2 * p.rails.length ∧ i = .int .i64 k ∧ Own wr W1.heap.size 27 2 fE v ((fltr p km k).map moveE) ∧ Below W1.heap.size W1 wr) (fun _ i _ => 2 * p.rails.length - (intOf i).toNat)
  case atStart => exact ⟨0, Nat.zero_le _, rfl, Own.nil _ _ _ _ _, Below.refl _ _⟩
  case round =>
    obtain ⟨k, hk, rfl, ho, hb⟩ := hrel
    have hzw := hb.size
    have ha0 : w.heap.size < W1.heap.size := by omega
    have ha1 : w.heap.size + 1 < W1.heap.size := by omega
    have k0 := (hb.cell (p := ⟨w.heap.size, 0, none⟩) ha0).trans (HX.out 0).1
    have k1 := (hb.cell (p := ⟨w.heap.size, 1, none⟩) ha0).trans (HX.out 1).1
    have m0 := (hb.cell (p := ⟨w.heap.size + 1, 0, none⟩) ha1).trans (HX.out 0).2
    have m1 := (hb.cell (p := ⟨w.heap.size + 1, 1, none⟩) ha1).trans (HX.out 1).2
    simp only [List.getElem?_toArray, List.getElem?_cons_zero, List.getElem?_cons_succ] at k0 k1 m0 m1
    have HO := Lib.hid ho; have HB := Lib.hid hb
    have HPw := Lib.hid ((HP1.out.below hb).more hzw)
    clear ho hb
    have hr0 : w.heap.size < wr.heap.size := by omega
    have hr1 : w.heap.size + 1 < wr.heap.size := by omega
    by_cases hlt : k < 2 * p.rails.length
    · have hlt2 : (k : Int) < 2 * (p.rails.length : Int) := by omega
      have hk0 : (0 : Int) ≤ (k : Int) := by omega
      have hk1 : (k : Int) ≤ 1000000 := by omega
      have HCk := Lib.hid (HC.out k hlt)
      go_upto_region 5 with (fail)
      go_cut [19] from 7 to 24 (fun s19 wx => s19 = .bool (folB p km (k : Int)) ∧ Below wr.heap.size wr wx)
      case first =>
        have hbq : Below wr.heap.size wr wr.drew := (Below.refl _ _).drew
        (go_region_held3 (fun w' => w'.cell? ⟨w.heap.size, 0, none⟩ = some (.slice A p.nodes.length c) ∧ w'.cell? ⟨w.heap.size, 1, none⟩ = some (.slice A2 p.rails.length c2) ∧ w'.cell? ⟨w.heap.size + 1, 0, none⟩ = some (.int .i64 m.rail) ∧ w'.cell? ⟨w.heap.size + 1, 1, none⟩ = some (.bool m.last))
            (exact ⟨(hbq.cell (p := ⟨w.heap.size, 0, none⟩) hr0).trans k0, (hbq.cell (p := ⟨w.heap.size, 1, none⟩) hr0).trans k1, (hbq.cell (p := ⟨w.heap.size + 1, 0, none⟩) hr1).trans m0, (hbq.cell (p := ⟨w.heap.size + 1, 1, none⟩) hr1).trans m1⟩)
            ((first
              | (go_at_call 66; refine (Of_any (k : Int) _ hk0 hk1).mono ?_; rintro e w5 ⟨rfl, hb5⟩; replace hbq := hbq.trans (hb5.mono hbq.size))
              | (go_at_call 63; have hpw := (HPw.out.below hbq).more hbq.size; (with_reducible refine (HCk.out _ hpw).mono ?_); rintro e w6 ⟨rfl, hb6⟩; replace hbq := hbq.trans (hb6.mono hbq.size)))))
        all_goals
          go_wp2_with fail
          go_meet
          exact ⟨rfl, hbq⟩
      case rest =>
      obtain ⟨rfl, hbq⟩ := hcut
      have hzc := hbq.size
      have HO2 := Lib.hid (HO.out.below hbq (Nat.le_refl _))
      have HB2 := Lib.hid (HB.out.trans (hbq.mono hzw))
      clear hbq HO HB HPw k0 k1 m0 m1 hr0 hr1
      cases hf : folB p km (k : Int)
      · have HN := Lib.hid (fltr_no hf)
        clear hf
        go_wp2
        go_roundw
        case rel => exact ⟨k + 1, by omega, by go_num, by rw [HN.out]; exact HO2.out, HB2.out⟩
        case measure => simp [intOf]; omega
      · have HY := Lib.hid (show (fltr p km (k + 1)).map moveE = (fltr p km k).map moveE ++ [moveE (k : Int)] by rw [fltr_yes hf, List.map_append]; rfl)
        have hlen : (fltr p km k).length ≤ k := fltr_len p km k
        clear hf
        go_wp2_with fail
        refine (Of_any (k : Int) _ hk0 hk1).mono ?_
        rintro e w1 ⟨rfl, hb1⟩
        have hz1' := hb1.size
        have HO1 := Lib.hid (HO2.out.below hb1 (Nat.le_refl _))
        have HB1 := Lib.hid (HB2.out.trans (hb1.mono (by omega)))
        clear hb1
        go_wp2_with (at_builtin; go_must (refine wpList_app _ rfl (.tmp 20) (.tmp 23) _ rfl W1.heap.size 27 i0 _ 2 16 Tryz.underlying31 hi hz0 hz1 hz2 rfl (by omega) fE_len fE_one u5 _ rfl (HO1.out.alloc _) _ _ [moveE (k : Int)] 1 rfl (Sl.new _ _ (moveE (k : Int)) _ rfl) (by simp [maxLen]; omega) (by simp; omega) (by simp; omega) (fun _ => .inr ⟨_, rfl⟩) ?_); intro v2 w2 o2 gr2 at2 ne2)
        go_roundw
        case rel => exact ⟨k + 1, by omega, by go_num, by rw [HY.out]; exact o2, (HB1.out.alloc (by omega) _).grown gr2 (by simp; omega) (fun k hk => (HO1.out.lt k hk).1)⟩
        case measure => simp [intOf]; omega
    · obtain rfl : k = 2 * p.rails.length := by omega
      have HQ := Lib.hid (show Own wr W1.heap.size 27 2 fE u5 ((nextL p (keyE m)).map moveE) by rw [← HFA.out]; exact HO.out)
      have hge : ¬ ((2 * p.rails.length : Nat) : Int) < 2 * (p.rails.length : Int) := by omega
      go_wp2
      go_ret
      exact ⟨⟨_, rfl, HQ.out.lower (by omega)⟩, HB0.out.trans (HB.out.mono (by omega))⟩
end Go.Proofs.YtcpanfpijljeaaaGreat
