/- Plain: which moves follow a move. -/
import Derived.Test.YtekambdnmaompaaGreatJC
import Derived.Test.YtekambdnmaompaaGreatC5
import Derived.Test.YtekambdnmaompaaGreatD1
namespace Go.Proofs.YtekambdnmaompaaGreat
set_option linter.unusedVariables false
set_option linter.unusedSimpArgs false

/-- what the code finds valid -/
structure Vld (p : Pl) : Prop where
  sizes : sizesB p = true
  nodes : p.nodes.all nodeB = true
  rails : railsB p = true
  ends : okEnds p

def keyE (e : E) : Nat := (endNo e).toNat
theorem keys_nodup {p : Pl} (h : okEnds p) : ((flatE p).map keyE).Nodup := by
  have hv : ∀ e ∈ flatE p, 0 ≤ e.rail := by
    intro e he
    obtain ⟨nd, hnd, he⟩ := List.mem_flatMap.1 he
    obtain ⟨i, hi, rfl⟩ := List.getElem_of_mem hnd
    exact (h.1 i hi e he).1
  have hn := h.2.1
  unfold List.Nodup at *
  rw [List.pairwise_map]
  exact hn.imp_of_mem fun {a b} ha hb hab he => hab (endNo_inj (hv a ha) (hv b hb) he)
theorem key_all {p : Pl} (h : okEnds p) {x : Nat} (hx : x < 2 * p.rails.length) : ∃ e ∈ flatE p, keyE e = x := by
  have hk := keys_nodup h
  by_cases hm : x ∈ (flatE p).map keyE
  · obtain ⟨e, he, hh⟩ := List.mem_map.1 hm
    exact ⟨e, he, hh⟩
  · exfalso
    have h1 : (x :: (flatE p).map keyE).Nodup := List.nodup_cons.2 ⟨hm, hk⟩
    have h2 : (x :: (flatE p).map keyE) ⊆ List.range (2 * p.rails.length) := by
      intro y hy
      rw [List.mem_range]
      rcases List.mem_cons.1 hy with rfl | hy
      · exact hx
      · obtain ⟨e, he, rfl⟩ := List.mem_map.1 hy
        obtain ⟨nd, hnd, he⟩ := List.mem_flatMap.1 he
        obtain ⟨i, hi, rfl⟩ := List.getElem_of_mem hnd
        have := endNo_bd (h.1 i hi e he)
        unfold keyE; omega
    have := h1.length_le_of_subset h2
    simp only [List.length_cons, List.length_map, List.length_range, h.2.2] at this
    omega

theorem fillS_get (m2 : Nat) : ∀ (n : Nat) (q : List (E × Nat)), q.length = n → (q.map fun x => keyE x.1).Nodup → ∀ x ∈ q, ∀ (hl : keyE x.1 < (fillS m2 q).length), (fillS m2 q)[keyE x.1] = (x.2 : Int) := by
  intro n
  induction n with
  | zero => intro q hq _ x hx; rw [List.eq_nil_of_length_eq_zero hq] at hx; cases hx
  | succ n ih =>
    intro q hq hn x hx hl
    rcases List.eq_nil_or_concat q with rfl | ⟨r, y, rfl⟩
    · cases hx
    · simp only [List.concat_eq_append] at *
      simp only [fillS_snoc, List.getElem_set]
      rw [List.map_append, List.nodup_append] at hn
      rcases List.mem_append.1 hx with hx | hx
      · have hne : keyE y.1 ≠ keyE x.1 := fun e => hn.2.2 (keyE x.1) (List.mem_map.2 ⟨x, hx, rfl⟩) (keyE y.1) (by simp) e.symm
        rw [if_neg (show ¬ (endNo y.1).toNat = keyE x.1 from hne)]
        exact ih r (by simp at hq; exact hq) hn.1 x hx (by rw [fillS_len] at hl ⊢; exact hl)
      · obtain rfl : x = y := by simpa using hx
        rw [if_pos (show (endNo x.1).toNat = keyE x.1 from rfl)]
theorem allQ_fst (p : Pl) : (allQ p).map (·.1) = flatE p := by rw [← befQ_all, befQ_fst, befE_all]
theorem slots_len (p : Pl) : (slotsOf p).length = 2 * p.rails.length := fillS_len _ _
/-- each end has its node and its place there -/
theorem slots_spec {p : Pl} (h : okEnds p) {x : Nat} (hx : x < 2 * p.rails.length) :
    ∃ (i : Nat) (hi : i < p.nodes.length) (k : Nat) (hk : k < p.nodes[i].ends.length), (endNo p.nodes[i].ends[k]).toNat = x ∧ nodeAtZ p (x : Int) = i ∧ ∀ (hl : x < (slotsOf p).length), (slotsOf p)[x] = (k : Int) := by
  obtain ⟨e, he, rfl⟩ := key_all h hx
  rw [← allQ_fst] at he
  obtain ⟨q, hq, rfl⟩ := List.mem_map.1 he
  have hq' := hq
  obtain ⟨nd, hnd, hz⟩ := List.mem_flatMap.1 hq
  obtain ⟨i, hi, rfl⟩ := List.getElem_of_mem hnd
  rw [List.mem_zipIdx_iff_getElem?] at hz
  obtain ⟨hk, he⟩ := List.getElem?_eq_some_iff.1 hz
  have hok := h.1 i hi q.1 (by rw [← he]; exact List.getElem_mem hk)
  refine ⟨i, hi, q.2, hk, by rw [he]; rfl, ?_, fun hl => ?_⟩
  · have h0 := endNo_bd hok
    rw [show ((keyE q.1 : Nat) : Int) = endNo q.1 by unfold keyE; omega, nodeAtZ_end p _ hok.1, hok.2.2]
  · refine fillS_get (2 * p.rails.length) _ (allQ p) rfl ?_ q hq' hl
    have := keys_nodup h
    rw [← allQ_fst, List.map_map] at this
    exact this

/-- the end at the other side of a rail -/
def flip (m : Nat) : Nat := if m % 2 = 0 then m + 1 else m - 1
theorem flip_lt {m n : Nat} (h : m < 2 * n) : flip m < 2 * n := by unfold flip; split <;> omega
def N0 : N := ⟨⟨0, 0⟩, 0, [], 0⟩
def E0 : E := ⟨0, false⟩
def atN (p : Pl) (x : Nat) : N := (p.nodes[(nodeAtZ p (x : Int)).toNat]?).getD N0
def slAt (p : Pl) (x : Nat) : Int := ((slotsOf p)[x]?).getD 0
def endAt (nd : N) (s : Int) : E := (nd.ends[s.toNat]?).getD E0
/-- the moves that follow the move m, as the node gives them -/
def leaveL (p : Pl) (m : Nat) : List Int := (thru (atN p (flip m)).kind (atN p (flip m)).normal (slAt p (flip m))).map fun s => endNo (endAt (atN p (flip m)) s)

theorem nodeB_parts {nd : N} (h : nodeB nd = true) : 1 ≤ nd.kind ∧ nd.kind ≤ 6 ∧ (nd.ends.length : Int) = endsZ nd.kind ∧ normB nd = true ∧ spotB nd.spot = true := by
  simp only [nodeB, kindB, Bool.and_eq_true, decide_eq_true_eq] at h
  obtain ⟨h0, ⟨h1, h2⟩, h3⟩ := h
  unfold endsZ at h1
  refine ⟨?_, ?_, h2, h3, h0⟩ <;> (repeat' split at h1) <;> omega
theorem ends_le4 {p : Pl} (h : p.nodes.all nodeB = true) : ∀ j (hj : j < p.nodes.length), p.nodes[j].ends.length ≤ 4 := by
  intro j hj
  rw [List.all_eq_true] at h
  have := (nodeB_parts (h _ (List.getElem_mem hj))).2.2.1
  unfold endsZ at this
  (repeat' split at this) <;> omega
theorem spots_ok {p : Pl} (h : p.nodes.all nodeB = true) : ∀ j (hj : j < p.nodes.length), spotB p.nodes[j].spot = true := by
  intro j hj
  rw [List.all_eq_true] at h
  exact (nodeB_parts (h _ (List.getElem_mem hj))).2.2.2.2
/-- where a car can go on, there is an end -/
theorem thru_lt {nd : N} (h : nodeB nd = true) {a : Nat} (ha : a < nd.ends.length) : ∀ s ∈ thru nd.kind nd.normal (a : Int), 0 ≤ s ∧ s < nd.ends.length := by
  obtain ⟨h1, h6, h2, h3, _⟩ := nodeB_parts h
  intro s hs
  unfold normB at h3
  rcases (show nd.kind = 1 ∨ nd.kind = 2 ∨ nd.kind = 3 ∨ nd.kind = 4 ∨ nd.kind = 5 ∨ nd.kind = 6 by omega) with e | e | e | e | e | e <;>
    (rw [e] at h2 h3 hs; simp only [endsZ, thru] at h2 hs)
  · simp at hs
  · simp at hs h2; omega
  · simp at hs h2; omega
  · simp at h2
    by_cases h0 : a = 0
    · simp [h0] at hs; omega
    · simp [h0] at hs; omega
  · simp at h2 h3
    by_cases h0 : a = 0
    · simp [h0] at hs; omega
    · simp [h0] at hs; omega
  · simp at h2 h3
    by_cases h0 : a = 0
    · simp [h0] at hs; omega
    · by_cases h9 : (a : Int) = nd.normal
      · have h10 : nd.normal ≠ 0 := by omega
        simp [h0, h9, h10] at hs; omega
      · simp [h0, h9] at hs
theorem thru_le2 (k nm a : Int) : (thru k nm a).length ≤ 2 := by
  unfold thru
  (repeat' split) <;> simp
end Go.Proofs.YtekambdnmaompaaGreat
