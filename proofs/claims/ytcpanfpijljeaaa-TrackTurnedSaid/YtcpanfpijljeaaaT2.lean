/- Plain: a pile gives back what is least; the search for costs ends, and a way is not shorter than what it finds. Contracts: the specification's Number and Way; WayLength. -/
import Derived.Test.YtcpanfpijljeaaaQ7
import Derived.Test.YtcpanfpijljeaaaZ3
import Derived.Test.YtcpanfpijljeaaaG5
import Derived.Deep.RegionHeld3
namespace Go.Proofs.Ytcpanfpijljeaaa
set_option linter.unusedVariables false
set_option linter.unusedSimpArgs false

def atV (l : List V3) (k : Nat) : V3 := (l[k]?).getD ⟨0, 0, 0⟩
def ltP (a b : V3) : Prop := a.l < b.l ∨ (a.l = b.l ∧ a.m < b.m)
def leP (a b : V3) : Prop := a.l < b.l ∨ (a.l = b.l ∧ a.m ≤ b.m)
theorem ltV_iff (a b : V3) : ltV a b = true ↔ ltP a b := by
  unfold ltV cmpV cmpI ltP
  rw [decide_eq_true_iff]
  repeat' split
  all_goals omega
theorem leP_of_not {a b : V3} (h : ¬ ltP a b) : leP b a := by unfold ltP leP at *; omega
theorem leP_of {a b : V3} (h : ltP a b) : leP a b := by unfold ltP leP at *; omega
theorem leP_refl (a : V3) : leP a a := by unfold leP; omega
theorem leP_trans {a b c : V3} (h : leP a b) (h2 : leP b c) : leP a c := by unfold leP at *; omega
theorem atV_get {l : List V3} {k : Nat} (h : k < l.length) : atV l k = l[k] := by simp [atV, h]
theorem ltAt_iff {l : List V3} {i j : Nat} (hi : i < l.length) (hj : j < l.length) : ltAt l i j = true ↔ ltP (atV l i) (atV l j) := by
  rw [ltAt_at hi hj, ltV_iff, atV_get hi, atV_get hj]
theorem swap_at {l : List V3} {i j k : Nat} (hi : i < l.length) (hj : j < l.length) (hk : k < l.length) : atV (swapL l i j) k = if k = j then atV l i else if k = i then atV l j else atV l k := by
  rw [atV_get (by rw [swapL_len]; exact hk)]
  simp only [swapL_at hi hj, List.getElem_set, atV_get hi, atV_get hj, atV_get hk]
  by_cases h1 : k = j
  · subst h1; simp
  · by_cases h2 : k = i
    · subst h2; rw [if_neg (Ne.symm h1), if_neg h1, if_pos rfl]
    · rw [if_neg (Ne.symm h1), if_neg (Ne.symm h2), if_neg h1, if_neg h2]
theorem swap_perm {l : List V3} {i j : Nat} (hi : i < l.length) (hj : j < l.length) : (swapL l i j).Perm l := by
  rw [swapL_at hi hj]
  exact List.set_set_perm hi hj

def Heap (l : List V3) : Prop := ∀ k, 0 < k → k < l.length → leP (atV l ((k - 1) / 2)) (atV l k)
def UpI (l : List V3) (i : Nat) : Prop := (∀ k, 0 < k → k < l.length → k ≠ i → leP (atV l ((k - 1) / 2)) (atV l k)) ∧ ∀ k, 0 < k → k < l.length → (k - 1) / 2 = i → 0 < i → leP (atV l ((i - 1) / 2)) (atV l k)
theorem up_heap : ∀ (n : Nat) (l : List V3) (i : Nat), i ≤ n → i < l.length → UpI l i → Heap (upF n l i) ∧ (upF n l i).Perm l := by
  intro n
  induction n with
  | zero =>
    intro l i h1 h2 h
    exact ⟨fun k h0 hk => h.1 k h0 hk (by omega), List.Perm.refl _⟩
  | succ n ih =>
    intro l i h1 h2 h
    rw [upF]
    split
    · rename_i hc
      obtain ⟨h0, hlt⟩ := hc
      have hq : (i - 1) / 2 < l.length := by omega
      rw [ltAt_iff h2 hq] at hlt
      have hle := leP_of hlt
      have key : UpI (swapL l i ((i - 1) / 2)) ((i - 1) / 2) := by
        constructor
        · intro k k0 kl kne
          rw [swapL_len] at kl
          rw [swap_at h2 hq (by omega), swap_at h2 hq kl, if_neg kne]
          by_cases e1 : k = i
          · subst e1; rw [if_pos rfl, if_pos rfl]; exact hle
          · rw [if_neg e1]
            by_cases e2 : (k - 1) / 2 = (i - 1) / 2
            · rw [if_pos e2]
              have := h.1 k k0 kl e1
              rw [e2] at this
              exact leP_trans hle this
            · rw [if_neg e2]
              by_cases e3 : (k - 1) / 2 = i
              · rw [if_pos e3]; exact h.2 k k0 kl e3 h0
              · rw [if_neg e3]; exact h.1 k k0 kl e1
        · intro k k0 kl ke q0
          rw [swapL_len] at kl
          rw [swap_at h2 hq (by omega), swap_at h2 hq kl, if_neg (show ¬ ((i - 1) / 2 - 1) / 2 = (i - 1) / 2 by omega), if_neg (show ¬ ((i - 1) / 2 - 1) / 2 = i by omega), if_neg (show ¬ k = (i - 1) / 2 by omega)]
          have hqq := h.1 ((i - 1) / 2) q0 hq (by omega)
          by_cases e1 : k = i
          · rw [if_pos e1]; exact hqq
          · rw [if_neg e1]
            have := h.1 k k0 kl e1
            rw [ke] at this
            exact leP_trans hqq this
      obtain ⟨a, b⟩ := ih _ _ (by omega) (by rw [swapL_len]; exact hq) key
      exact ⟨a, b.trans (swap_perm h2 hq)⟩
    · rename_i hc
      refine ⟨fun k k0 kl => ?_, List.Perm.refl _⟩
      by_cases e : k = i
      · subst e
        refine leP_of_not fun hl => hc ⟨k0, ?_⟩
        rw [ltAt_iff h2 (by omega)]
        exact hl
      · exact h.1 k k0 kl e
theorem put_heap {l : List V3} (x : V3) (h : Heap l) : Heap (putL l x) ∧ (putL l x).Perm (x :: l) := by
  have hz : l.length < (l ++ [x]).length := by simp
  have e : ∀ k, k < l.length → atV (l ++ [x]) k = atV l k := fun k hk => by
    rw [atV_get (by simp; omega), atV_get hk, List.getElem_append_left hk]
  obtain ⟨a, b⟩ := up_heap l.length (l ++ [x]) l.length (Nat.le_refl _) hz ⟨fun k k0 kl kn => by
    have kl' : k < l.length := by simp at kl; omega
    rw [e _ (by omega), e _ kl']; exact h k k0 kl', fun k k0 kl ke i0 => by simp at kl; omega⟩
  exact ⟨a, b.trans (List.perm_append_comm (l₁ := l) (l₂ := [x]))⟩

def DnI (l : List V3) (i : Nat) : Prop := (∀ k, 0 < k → k < l.length → (k - 1) / 2 ≠ i → leP (atV l ((k - 1) / 2)) (atV l k)) ∧ ∀ k, 0 < k → k < l.length → (k - 1) / 2 = i → 0 < i → leP (atV l ((i - 1) / 2)) (atV l k)
theorem child_least {l : List V3} {i k : Nat} (h : 2 * i + 1 < l.length) (k0 : 0 < k) (kl : k < l.length) (ke : (k - 1) / 2 = i) : leP (atV l (childL l i)) (atV l k) := by
  unfold childL
  split
  · rename_i hc
    have h2 := (ltAt_iff hc.1 h).1 hc.2
    rcases (show k = 2 * i + 1 ∨ k = 2 * i + 2 by omega) with rfl | rfl
    · exact leP_of h2
    · exact leP_refl _
  · rename_i hc
    rcases (show k = 2 * i + 1 ∨ k = 2 * i + 2 by omega) with rfl | rfl
    · exact leP_refl _
    · exact leP_of_not fun hl => hc ⟨kl, (ltAt_iff kl h).2 hl⟩
theorem child_of {l : List V3} {i : Nat} : (childL l i - 1) / 2 = i ∧ 0 < childL l i := by
  unfold childL; split <;> omega
theorem dn_heap : ∀ (n : Nat) (l : List V3) (i : Nat), l.length ≤ n + i → DnI l i → Heap (downF n l i) ∧ (downF n l i).Perm l := by
  intro n
  induction n with
  | zero =>
    intro l i h1 h
    exact ⟨fun k h0 hk => h.1 k h0 hk (by have hk2 : k < l.length := hk; omega), List.Perm.refl _⟩
  | succ n ih =>
    intro l i h1 h
    rw [downF]
    split
    · rename_i hc
      obtain ⟨h0, hlt⟩ := hc
      have hq := childL_lt h0
      have hco := child_of (l := l) (i := i)
      have hi : i < l.length := by omega
      rw [ltAt_iff hq.1 hi] at hlt
      have hle := leP_of hlt
      have hlst : ∀ k, 0 < k → k < l.length → (k - 1) / 2 = i → leP (atV l (childL l i)) (atV l k) := fun k a b e => child_least h0 a b e
      generalize childL l i = c at *
      have key : DnI (swapL l i c) c := by
        constructor
        · intro k k0 kl kne
          rw [swapL_len] at kl
          rw [swap_at hi hq.1 (by omega), swap_at hi hq.1 kl, if_neg kne]
          by_cases e1 : (k - 1) / 2 = i
          · rw [if_pos e1]
            by_cases e2 : k = c
            · rw [if_pos e2]; exact hle
            · rw [if_neg e2, if_neg (show ¬ k = i by omega)]; exact hlst k k0 kl e1
          · rw [if_neg e1]
            by_cases e2 : k = i
            · rw [if_neg (show ¬ k = c by omega), if_pos e2]
              rw [e2]
              exact h.2 c hco.2 hq.1 hco.1 (by omega)
            · rw [if_neg (show ¬ k = c by omega), if_neg e2]
              exact h.1 k k0 kl e1
        · intro k k0 kl ke c0
          rw [swapL_len] at kl
          rw [hco.1, swap_at hi hq.1 hi, swap_at hi hq.1 kl, if_neg (show ¬ i = c by omega), if_pos rfl, if_neg (show ¬ k = c by omega), if_neg (show ¬ k = i by omega)]
          have := h.1 k k0 kl (by omega)
          rw [ke] at this
          exact this
      obtain ⟨a, b⟩ := ih _ _ (by rw [swapL_len]; omega) key
      exact ⟨a, b.trans (swap_perm hi hq.1)⟩
    · rename_i hc
      refine ⟨fun k k0 kl => ?_, List.Perm.refl _⟩
      by_cases e : (k - 1) / 2 = i
      · have h0 : 2 * i + 1 < l.length := by omega
        have hq := childL_lt h0
        have h3 := child_least h0 k0 kl e
        rw [e]
        refine leP_trans (leP_of_not fun hl => hc ⟨h0, ?_⟩) h3
        rw [ltAt_iff hq.1 (by omega)]
        exact hl
      · exact h.1 k k0 kl e
theorem rest_row (x : V3) (r : List V3) : ((((x :: r).set 0 ((x :: r).getLast (by simp))).take r.length)).Perm r ∧ ∀ k, 0 < k → k < r.length → atV (((x :: r).set 0 ((x :: r).getLast (by simp))).take r.length) k = atV (x :: r) k := by
  constructor
  · rcases List.eq_nil_or_concat r with rfl | ⟨s, z, rfl⟩
    · simp
    · have e : ((x :: s.concat z).set 0 ((x :: s.concat z).getLast (by simp))).take (s.concat z).length = z :: s := by
        apply List.ext_getElem
        · simp
        · intro k h1 h2
          cases k with
          | zero =>
            simp only [List.getElem_take, List.set_cons_zero, List.getElem_cons_zero, List.concat_eq_append]
            rw [List.getLast_cons (by simp)]
            simp
          | succ k =>
            simp
      rw [e, List.concat_eq_append]
      exact List.perm_append_comm (l₁ := [z]) (l₂ := s)
  · intro k k0 kl
    obtain ⟨j, rfl⟩ : ∃ j, k = j + 1 := ⟨k - 1, by omega⟩
    rw [atV_get (by simp; omega), atV_get (by simp; omega)]
    simp
theorem rest_heap {x : V3} {r : List V3} (h : Heap (x :: r)) : Heap (restL x r) ∧ (restL x r).Perm r := by
  have hr := rest_row x r
  have hl : (((x :: r).set 0 ((x :: r).getLast (by simp))).take r.length).length = r.length := by simp
  unfold restL downL
  obtain ⟨a, b⟩ := dn_heap _ _ 0 (Nat.le_refl _) (show DnI (((x :: r).set 0 ((x :: r).getLast (by simp))).take r.length) 0 from ⟨fun k k0 kl kn => by
    rw [hl] at kl
    rw [hr.2 k k0 kl, hr.2 ((k - 1) / 2) (by omega) (by omega)]
    exact h k k0 (by simp; omega), fun k k0 kl ke h0 => absurd h0 (by omega)⟩)
  exact ⟨a, b.trans hr.1⟩
theorem heap_least {x : V3} {r : List V3} (h : Heap (x :: r)) : ∀ y ∈ x :: r, leP x y := by
  have key : ∀ k, k < (x :: r).length → leP x (atV (x :: r) k) := by
    intro k
    induction k using Nat.strongRecOn with
    | ind k ih =>
      intro hk
      by_cases h0 : k = 0
      · subst h0; exact leP_refl _
      · exact leP_trans (ih ((k - 1) / 2) (by omega) (by omega)) (h k (by omega) hk)
  intro y hy
  obtain ⟨k, hk, rfl⟩ := List.getElem_of_mem hy
  rw [← atV_get hk]
  exact key k hk
theorem heap_one (x : V3) : Heap [x] := fun k h0 hk => by simp at hk; omega

def gC (cs : List C2) (v : Nat) : C2 := (cs[v]?).getD (0, 0)
def ltC (a b : C2) : Prop := a.1 < b.1 ∨ (a.1 = b.1 ∧ a.2 < b.2)
def leC (a b : C2) : Prop := a.1 < b.1 ∨ (a.1 = b.1 ∧ a.2 ≤ b.2)
theorem cmpC_iff (a b : C2) : cmpC a b < 0 ↔ ltC a b := by
  unfold cmpC cmpI ltC
  repeat' split
  all_goals omega
theorem gC_set {cs : List C2} {k u : Nat} {c : C2} (hk : k < cs.length) : gC (cs.set k c) u = if u = k then c else gC cs u := by
  unfold gC
  by_cases h : u = k
  · subst h; rw [if_pos rfl]; simp [hk]
  · rw [if_neg h, List.getElem?_set_ne (Ne.symm h)]
theorem costAt_nat (cs : List C2) (u : Nat) : costAt cs (u : Int) = gC cs u := by
  unfold costAt gC
  rw [Int.toNat_natCast, List.getD_eq_getElem?_getD]
theorem v3_ext {a b : V3} (h1 : a.l = b.l) (h2 : a.m = b.m) (h3 : a.v = b.v) : a = b := by
  cases a; cases b; simp at *; exact ⟨h1, h2, h3⟩

/-- what holds of costs and a pile, when the moves in Q are through, of which Rel says which neighbors have been looked at -/
structure DI (M : Nat) (bl bm : Int) (ln : Int → Int) (lo : C2) (t : Nat) (Q : List Nat) (Rel : Nat → Int → Prop) (cs : List C2) (it : List V3) : Prop where
  len : cs.length = M
  heap : Heap it
  nd : it.Nodup
  ok : ∀ y ∈ it, ∃ v : Nat, y.v = v ∧ v < M ∧ 0 ≤ (gC cs v).1 ∧ leC (gC cs v) (y.l, y.m)
  bd : ∀ y ∈ it, 0 ≤ y.l ∧ y.l ≤ bl ∧ 0 ≤ y.m ∧ y.m ≤ bm
  low : ∀ y ∈ it, leC lo (y.l, y.m)
  qn : Q.Nodup
  don : ∀ u ∈ Q, u < M ∧ 0 ≤ (gC cs u).1 ∧ leC (gC cs u) lo ∧ ∀ y ∈ it, y.v = (u : Int) → (y.l, y.m) ≠ gC cs u
  rel : ∀ u b, Rel u b → u ∈ Q ∧ ∃ w : Nat, b = w ∧ w < M ∧ 0 ≤ (gC cs w).1 ∧ leC (gC cs w) ((gC cs u).1 + ln ((u : Int) / 2), (gC cs u).2 + 1)
  lab : ∀ u, u < M → 0 ≤ (gC cs u).1 → u ∈ Q ∨ ⟨(gC cs u).1, (gC cs u).2, (u : Int)⟩ ∈ it
  tgt : t < M ∧ 0 ≤ (gC cs t).1 ∧ leC (gC cs t) (0, 0)

theorem relax_yes {k : Nat} {c : C2} {cs : List C2} {it : List V3} {cl : List Bool} (hcl : shutAt cl (k : Int) = false) (h : (gC cs k).1 < 0 ∨ ltC c (gC cs k)) :
    Go.Proofs.Ytcpanfpijljeaaa.relax cl c (cs, it) (k : Int) = (cs.set k c, putL it ⟨c.1, c.2, (k : Int)⟩) := by
  unfold Go.Proofs.Ytcpanfpijljeaaa.relax
  rw [if_pos]
  · simp
  · refine ⟨hcl, ?_⟩
    show (costAt cs (k : Int)).1 < 0 ∨ cmpC c (costAt cs (k : Int)) < 0
    rw [costAt_nat, cmpC_iff]; exact h
theorem relax_no {k : Nat} {c : C2} {cs : List C2} {it : List V3} {cl : List Bool} (h : ¬ ((gC cs k).1 < 0 ∨ ltC c (gC cs k))) :
    Go.Proofs.Ytcpanfpijljeaaa.relax cl c (cs, it) (k : Int) = (cs, it) := by
  unfold Go.Proofs.Ytcpanfpijljeaaa.relax
  rw [if_neg]
  rintro ⟨_, h2⟩
  apply h
  change (costAt cs (k : Int)).1 < 0 ∨ cmpC c (costAt cs (k : Int)) < 0 at h2
  rw [costAt_nat, cmpC_iff] at h2; exact h2
theorem DI.relax {M t k v : Nat} {bl bm : Int} {ln : Int → Int} {lo c : C2} {Q : List Nat} {Rel : Nat → Int → Prop} {cs : List C2} {it : List V3} {cl : List Bool}
    (h : DI M bl bm ln lo t Q Rel cs it) (hcl : shutAt cl (k : Int) = false) (hk : k < M) (hv : v ∈ Q) (hvl : gC cs v = lo) (hc1 : c = (lo.1 + ln ((v : Int) / 2), lo.2 + 1)) (hlc : ltC lo c) (h0 : 0 ≤ c.1 ∧ 0 ≤ c.2) (hb : c.1 ≤ bl ∧ c.2 ≤ bm) :
    DI M bl bm ln lo t Q (fun u b => Rel u b ∨ (u = v ∧ b = (k : Int))) (relax cl c (cs, it) (k : Int)).1 (relax cl c (cs, it) (k : Int)).2 ∧ gC (relax cl c (cs, it) (k : Int)).1 v = lo ∧ (relax cl c (cs, it) (k : Int)).2.length ≤ it.length + 1 := by
  by_cases ht : (gC cs k).1 < 0 ∨ ltC c (gC cs k)
  · rw [relax_yes hcl ht]
    have hkl : k < cs.length := by rw [h.len]; exact hk
    have hkQ : k ∉ Q := fun hq => by
      have h1 := h.don k hq
      have h2 := h1.2.2.1
      unfold leC at h2; unfold ltC at ht hlc
      omega
    have hne : ∀ u ∈ Q, u ≠ k := fun u hu e => hkQ (e ▸ hu)
    have hp := put_heap ⟨c.1, c.2, (k : Int)⟩ h.heap
    have hmem : ∀ y, y ∈ putL it ⟨c.1, c.2, (k : Int)⟩ ↔ y = ⟨c.1, c.2, (k : Int)⟩ ∨ y ∈ it := fun y => by rw [hp.2.mem_iff, List.mem_cons]
    have hnew : (⟨c.1, c.2, (k : Int)⟩ : V3) ∉ it := fun hm => by
      obtain ⟨u, e, _, a, b⟩ := h.ok _ hm
      have e' : (k : Int) = (u : Int) := e
      obtain rfl : k = u := by omega
      unfold leC at b; unfold ltC at ht
      simp at b
      omega
    refine ⟨⟨by simp [h.len], hp.1, ?_, ?_, ?_, ?_, h.qn, ?_, ?_, ?_, ?_⟩, ?_, by rw [putL_len]; omega⟩
    · exact hp.2.nodup_iff.2 (List.nodup_cons.2 ⟨hnew, h.nd⟩)
    · intro y hy
      rcases (hmem y).1 hy with rfl | hy
      · exact ⟨k, rfl, hk, by rw [gC_set hkl, if_pos rfl]; exact h0.1, by rw [gC_set hkl, if_pos rfl]; unfold leC; simp⟩
      · obtain ⟨u, e, a1, a2, a3⟩ := h.ok y hy
        refine ⟨u, e, a1, ?_⟩
        rw [gC_set hkl]
        by_cases e2 : u = k
        · subst e2
          rw [if_pos rfl]
          refine ⟨h0.1, ?_⟩
          unfold leC at *; unfold ltC at ht
          simp only at *
          omega
        · rw [if_neg e2]; exact ⟨a2, a3⟩
    · intro y hy
      rcases (hmem y).1 hy with rfl | hy
      · exact ⟨h0.1, hb.1, h0.2, hb.2⟩
      · exact h.bd y hy
    · intro y hy
      rcases (hmem y).1 hy with rfl | hy
      · unfold ltC at hlc; unfold leC; simp only; omega
      · exact h.low y hy
    · intro u hu
      obtain ⟨a1, a2, a3, a4⟩ := h.don u hu
      rw [gC_set hkl, if_neg (hne u hu)]
      refine ⟨a1, a2, a3, fun y hy e => ?_⟩
      rcases (hmem y).1 hy with rfl | hy
      · exact absurd (show k = u by have e' : (k : Int) = (u : Int) := e; omega) (Ne.symm (hne u hu))
      · exact a4 y hy e
    · rintro u b (hr | ⟨rfl, rfl⟩)
      · obtain ⟨a1, w, a2, a3, a4, a5⟩ := h.rel u b hr
        refine ⟨a1, w, a2, a3, ?_⟩
        rw [gC_set hkl, gC_set (u := u) hkl, if_neg (hne u a1)]
        by_cases e2 : w = k
        · subst e2
          rw [if_pos rfl]
          refine ⟨h0.1, ?_⟩
          unfold leC at *; unfold ltC at ht
          simp only at *
          omega
        · rw [if_neg e2]; exact ⟨a4, a5⟩
      · refine ⟨hv, k, rfl, hk, ?_⟩
        rw [gC_set hkl, gC_set (u := u) hkl, if_neg (hne u hv), if_pos rfl, hvl, hc1]
        refine ⟨by rw [hc1] at h0; exact h0.1, by unfold leC; simp⟩
    · intro u hu hp0
      rw [gC_set hkl] at hp0 ⊢
      by_cases e2 : u = k
      · subst e2
        rw [if_pos rfl]
        exact .inr ((hmem _).2 (.inl rfl))
      · rw [if_neg e2] at hp0 ⊢
        rcases h.lab u hu hp0 with a | a
        · exact .inl a
        · exact .inr ((hmem _).2 (.inr a))
    · obtain ⟨a1, a2, a3⟩ := h.tgt
      refine ⟨a1, ?_⟩
      rw [gC_set hkl]
      by_cases e2 : t = k
      · subst e2
        rw [if_pos rfl]
        refine ⟨h0.1, ?_⟩
        unfold leC at *; unfold ltC at ht
        simp only at *
        omega
      · rw [if_neg e2]; exact ⟨a2, a3⟩
    · rw [gC_set hkl, if_neg (hne v hv)]; exact hvl
  · rw [relax_no ht]
    refine ⟨⟨h.len, h.heap, h.nd, h.ok, h.bd, h.low, h.qn, h.don, ?_, h.lab, h.tgt⟩, hvl, by simp⟩
    rintro u b (hr | ⟨rfl, rfl⟩)
    · exact h.rel u b hr
    · refine ⟨hv, k, rfl, hk, ?_⟩
      rw [hvl]
      unfold ltC at ht
      rw [hc1] at ht
      unfold leC
      simp only at *
      omega
theorem DI.wk {M t : Nat} {bl bm bl' bm' : Int} {ln : Int → Int} {lo : C2} {Q : List Nat} {Rel Rel' : Nat → Int → Prop} {cs : List C2} {it : List V3} (h : DI M bl bm ln lo t Q Rel cs it)
    (h1 : bl ≤ bl') (h2 : bm ≤ bm') (hr : ∀ u b, Rel' u b → Rel u b) : DI M bl' bm' ln lo t Q Rel' cs it :=
  ⟨h.len, h.heap, h.nd, h.ok, fun y hy => by have := h.bd y hy; omega, h.low, h.qn, h.don, fun u b hb => h.rel u b (hr u b hb), h.lab, h.tgt⟩
theorem DI.relaxes {M t v : Nat} {bl bm : Int} {ln : Int → Int} {lo c : C2} {Q : List Nat} {cl : List Bool} (hcl : ∀ b, shutAt cl b = false) (hv : v ∈ Q) (hc1 : c = (lo.1 + ln ((v : Int) / 2), lo.2 + 1)) (hlc : ltC lo c) (h0 : 0 ≤ c.1 ∧ 0 ≤ c.2) (hb : c.1 ≤ bl ∧ c.2 ≤ bm) :
    ∀ (L : List Int) (Rel : Nat → Int → Prop) (cs : List C2) (it : List V3), (∀ b ∈ L, ∃ k : Nat, b = k ∧ k < M) → DI M bl bm ln lo t Q Rel cs it → gC cs v = lo →
    DI M bl bm ln lo t Q (fun u b => Rel u b ∨ (u = v ∧ b ∈ L)) (L.foldl (Go.Proofs.Ytcpanfpijljeaaa.relax cl c) (cs, it)).1 (L.foldl (Go.Proofs.Ytcpanfpijljeaaa.relax cl c) (cs, it)).2 ∧ (L.foldl (Go.Proofs.Ytcpanfpijljeaaa.relax cl c) (cs, it)).2.length ≤ it.length + L.length := by
  intro L
  induction L with
  | nil => exact fun Rel cs it _ h _ => ⟨h.wk (Int.le_refl _) (Int.le_refl _) fun u b hb => by simpa using hb, by simp⟩
  | cons b L ih =>
    intro Rel cs it hL h hvl
    obtain ⟨k, rfl, hk⟩ := hL b (by simp)
    obtain ⟨a1, a2, a3⟩ := h.relax (hcl k) hk hv hvl hc1 hlc h0 hb
    obtain ⟨b1, b2⟩ := ih _ _ _ (fun z hz => hL z (by simp [hz])) a1 a2
    rw [List.foldl_cons]
    refine ⟨b1.wk (Int.le_refl _) (Int.le_refl _) fun u b hb => ?_, by
      simp only [List.length_cons]
      exact Nat.le_trans b2 (by omega)⟩
    rcases hb with hb | ⟨rfl, hb⟩
    · exact .inl (.inl hb)
    · rcases List.mem_cons.1 hb with rfl | hb
      · exact .inl (.inr ⟨rfl, rfl⟩)
      · exact .inr ⟨rfl, hb⟩
/-- an item that is out of date is left out -/
theorem DI.skip {M t : Nat} {bl bm : Int} {ln : Int → Int} {lo : C2} {Q : List Nat} {Rel : Nat → Int → Prop} {cs : List C2} {x : V3} {r : List V3} (h : DI M bl bm ln lo t Q Rel cs (x :: r)) (hne : ¬ (x.l, x.m) = costAt cs x.v) :
    DI M bl bm ln lo t Q Rel cs (restL x r) := by
  have hp := rest_heap h.heap
  have hmem : ∀ y, y ∈ restL x r ↔ y ∈ r := fun y => hp.2.mem_iff
  refine ⟨h.len, hp.1, hp.2.nodup_iff.2 (List.nodup_cons.1 h.nd).2, fun y hy => h.ok y (by simp [(hmem y).1 hy]), fun y hy => h.bd y (by simp [(hmem y).1 hy]), fun y hy => h.low y (by simp [(hmem y).1 hy]), h.qn, fun u hu => ?_, h.rel, fun u hu hp0 => ?_, h.tgt⟩
  · obtain ⟨a1, a2, a3, a4⟩ := h.don u hu
    exact ⟨a1, a2, a3, fun y hy => a4 y (by simp [(hmem y).1 hy])⟩
  · rcases h.lab u hu hp0 with a | a
    · exact .inl a
    · rcases List.mem_cons.1 a with rfl | a
      · exact absurd (by rw [costAt_nat]) hne
      · exact .inr ((hmem _).2 a)
/-- the least item is the cost of a move: it is through -/
theorem DI.take {M t : Nat} {bl bm : Int} {ln : Int → Int} {lo : C2} {Q : List Nat} {Rel : Nat → Int → Prop} {cs : List C2} {x : V3} {r : List V3} {v : Nat} (h : DI M bl bm ln lo t Q Rel cs (x :: r)) (hv : x.v = (v : Int)) (he : (x.l, x.m) = gC cs v) :
    DI M bl bm ln (x.l, x.m) t (v :: Q) Rel cs (restL x r) ∧ v ∉ Q := by
  have hp := rest_heap h.heap
  have hmem : ∀ y, y ∈ restL x r ↔ y ∈ r := fun y => hp.2.mem_iff
  have hnd := List.nodup_cons.1 h.nd
  have hnQ : v ∉ Q := fun hq => (h.don v hq).2.2.2 x (by simp) hv he
  have hx := h.low x (by simp)
  obtain ⟨v', e1, e2, e3, _⟩ := h.ok x (by simp)
  obtain rfl : v = v' := by omega
  refine ⟨⟨h.len, hp.1, hp.2.nodup_iff.2 hnd.2, fun y hy => h.ok y (by simp [(hmem y).1 hy]), fun y hy => h.bd y (by simp [(hmem y).1 hy]), fun y hy => ?_, List.nodup_cons.2 ⟨hnQ, h.qn⟩, fun u hu => ?_, fun u b hr => ?_, fun u hu hp0 => ?_, h.tgt⟩, hnQ⟩
  · have := heap_least h.heap y (by simp [(hmem y).1 hy])
    unfold leP at this; unfold leC; exact this
  · rcases List.mem_cons.1 hu with rfl | hu
    · refine ⟨e2, e3, by rw [← he]; unfold leC; simp, fun y hy e hh => ?_⟩
      have hy' := (hmem y).1 hy
      rw [← he] at hh
      have : y = x := v3_ext (by simpa using congrArg Prod.fst hh) (by simpa using congrArg Prod.snd hh) (by rw [e, hv])
      exact hnd.1 (this ▸ hy')
    · obtain ⟨a1, a2, a3, a4⟩ := h.don u hu
      refine ⟨a1, a2, ?_, fun y hy => a4 y (by simp [(hmem y).1 hy])⟩
      unfold leC at *; simp only at *; omega
  · obtain ⟨a, b⟩ := h.rel u b hr
    exact ⟨by simp [a], b⟩
  · rcases h.lab u hu hp0 with a | a
    · exact .inl (by simp [a])
    · rcases List.mem_cons.1 a with rfl | a
      · left
        have : u = v := by have e' : (u : Int) = (v : Int) := hv; omega
        simp [this]
      · exact .inr ((hmem _).2 a)
theorem nodup_le {M : Nat} : ∀ {Q : List Nat}, Q.Nodup → (∀ u ∈ Q, u < M) → Q.length ≤ M := by
  intro Q h1 h2
  have := h1.length_le_of_subset (l₂ := List.range M) fun u hu => List.mem_range.2 (h2 u hu)
  simpa using this
/-- what the search leaves -/
structure Fin (M t : Nat) (ln : Int → Int) (bef : Nat → List Int) (cs : List C2) : Prop where
  len : cs.length = M
  tgt : t < M ∧ 0 ≤ (gC cs t).1 ∧ leC (gC cs t) (0, 0)
  rel : ∀ u, u < M → 0 ≤ (gC cs u).1 → ∀ b ∈ bef u, ∃ w : Nat, b = w ∧ w < M ∧ 0 ≤ (gC cs w).1 ∧ leC (gC cs w) ((gC cs u).1 + ln ((u : Int) / 2), (gC cs u).2 + 1)
theorem search_ends {M D t : Nat} {Wm : Int} {ln : Int → Int} {bef : Nat → List Int} {cl : List Bool} (hcl : ∀ b, shutAt cl b = false) (hln : ∀ z, 0 ≤ ln z ∧ ln z ≤ Wm) (hbf : ∀ u, u < M → (bef u).length ≤ D ∧ ∀ b ∈ bef u, ∃ k : Nat, b = k ∧ k < M)
    (hsz : 1 + M * D ≤ 1000000) (hW : (M : Int) * Wm ≤ 1000000000000000) (hM : M ≤ 1000000) :
    ∀ (n : Nat) (lo : C2) (Q : List Nat) (cs : List C2) (it : List V3), it.length + (M - Q.length) * D ≤ n → it.length + (M - Q.length) * D ≤ 1 + M * D →
    DI M ((Q.length : Int) * Wm) Q.length ln lo t Q (fun u b => u ∈ Q ∧ b ∈ bef u) cs it → ∃ res, search ln bef cl (n + 1) cs it = some res ∧ Fin M t ln bef res := by
  intro n
  induction n with
  | zero =>
    intro lo Q cs it h1 _ h
    have : it = [] := List.eq_nil_of_length_eq_zero (by omega)
    subst this
    refine ⟨cs, by simp [search], h.len, h.tgt, fun u hu hp0 b hb => ?_⟩
    rcases h.lab u hu hp0 with a | a
    · exact (h.rel u b ⟨a, hb⟩).2
    · cases a
  | succ n ih =>
    intro lo Q cs it h1 h2 h
    cases it with
    | nil =>
      refine ⟨cs, by simp [search], h.len, h.tgt, fun u hu hp0 b hb => ?_⟩
      rcases h.lab u hu hp0 with a | a
      · exact (h.rel u b ⟨a, hb⟩).2
      · cases a
    | cons x r =>
      simp only [List.length_cons] at h1 h2
      rw [search, if_neg (by omega)]
      by_cases he : (x.l, x.m) = costAt cs x.v
      · rw [if_pos he]
        obtain ⟨v, e1, e2, e3, _⟩ := h.ok x (by simp)
        have hbx := h.bd x (by simp)
        rw [e1, costAt_nat] at he
        obtain ⟨hT, hnQ⟩ := h.take e1 he
        have hQM : Q.length + 1 ≤ M := by
          have := nodup_le hT.qn fun u hu => (hT.don u hu).1
          simpa using this
        have hl := hln ((v : Int) / 2)
        have hQW : ((Q.length : Int) + 1) * Wm ≤ (M : Int) * Wm := Int.mul_le_mul_of_nonneg_right (by omega) (by omega)
        have hQ1 : ((Q.length : Int) + 1) * Wm = (Q.length : Int) * Wm + Wm := by rw [Int.add_mul, Int.one_mul]
        rw [e1, if_neg (by omega)]
        have hb := hbf v e2
        obtain ⟨k1, k2⟩ := DI.relaxes (t := t) (bl := ((Q.length : Int) + 1) * Wm) (bm := (Q.length : Int) + 1) (c := (x.l + ln ((v : Int) / 2), x.m + 1)) hcl (v := v) (Q := v :: Q) (by simp) rfl (by unfold ltC; simp only; omega) (by simp only; omega) (by simp only; omega)
          (bef v) _ _ _ hb.2 (hT.wk (by omega) (by omega) fun u b hb => hb) he.symm
        simp only [Int.toNat_natCast]
        have hmul : (M - Q.length) * D = (M - (Q.length + 1)) * D + D := by
          rw [show M - Q.length = (M - (Q.length + 1)) + 1 by omega, Nat.add_mul, Nat.one_mul]
        rw [restL_len] at k2
        refine ih (x.l, x.m) (v :: Q) _ _ ?_ ?_ ?_
        · simp only [List.length_cons]; omega
        · simp only [List.length_cons]; omega
        · simp only [List.length_cons, Int.natCast_add, Int.cast_ofNat_Int]
          clear hb
          refine k1.wk (Int.le_refl _) (Int.le_refl _) fun u b hh => ?_
          rcases hh with ⟨hu, hb⟩
          rcases List.mem_cons.1 hu with rfl | hu
          · exact .inr ⟨rfl, hb⟩
          · exact .inl ⟨hu, hb⟩
      · rw [if_neg he]
        refine ih lo Q cs _ ?_ ?_ (h.skip he)
        · rw [restL_len]; omega
        · rw [restL_len]; omega
theorem gC_rep {M u : Nat} (h : u < M) : gC (List.replicate M (-1, 0)) u = (-1, 0) := by simp [gC, h]
theorem costs_end {M D t : Nat} {Wm : Int} {ln : Int → Int} {bef : Nat → List Int} {cl : List Bool} (hcl : ∀ b, shutAt cl b = false) (hln : ∀ z, 0 ≤ ln z ∧ ln z ≤ Wm) (hbf : ∀ u, u < M → (bef u).length ≤ D ∧ ∀ b ∈ bef u, ∃ k : Nat, b = k ∧ k < M)
    (hsz : 1 + M * D ≤ 1000000) (hW : (M : Int) * Wm ≤ 1000000000000000) (hM : M ≤ 1000000) (ht : t < M) : ∃ n res, costsL ln bef cl M t n = some res ∧ Fin M t ln bef res := by
  have hs := search_ends hcl hln hbf hsz hW hM (t := t) (1 + M * D) (0, 0) [] ((List.replicate M (-1, 0)).set t (0, 0)) [⟨0, 0, t⟩] (by simp) (by simp) (by
    have hl : t < (List.replicate M ((-1, 0) : C2)).length := by simpa using ht
    refine ⟨by simp, heap_one _, by simp, ?_, ?_, ?_, List.nodup_nil, (fun u hu => by cases hu), (fun u b hu => by cases hu.1), ?_, ⟨ht, ?_, ?_⟩⟩
    · intro y hy
      obtain rfl : y = ⟨0, 0, t⟩ := by simpa using hy
      refine ⟨t, rfl, ht, ?_, ?_⟩ <;> rw [gC_set hl, if_pos rfl] <;> simp [leC]
    · intro y hy
      obtain rfl : y = ⟨0, 0, t⟩ := by simpa using hy
      simp
    · intro y hy
      obtain rfl : y = ⟨0, 0, t⟩ := by simpa using hy
      simp [leC]
    · intro u hu hp0
      rw [gC_set hl] at hp0 ⊢
      by_cases e : u = t
      · subst e; simp
      · rw [if_neg e, gC_rep hu] at hp0; simp at hp0
    · rw [gC_set hl, if_pos rfl]; simp
    · rw [gC_set hl, if_pos rfl]; simp [leC])
  obtain ⟨res, h1, h2⟩ := hs
  refine ⟨1 + M * D + 1, res, ?_, h2⟩
  unfold costsL
  rw [if_neg, h1]
  have := hcl (t : Int)
  unfold shutAt at this
  rw [Int.toNat_natCast] at this
  rw [this]
  simp
/-- a way is not shorter than what the search says -/
theorem Fin.way {M t : Nat} {ln : Int → Int} {bef : Nat → List Int} {cs : List C2} (h : Fin M t ln bef cs) :
    ∀ (l : List Nat) (m : Nat), (∀ x ∈ m :: l, x < M) → (∀ i (hi : i < l.length), (((m :: l)[i]'(by simp; omega) : Nat) : Int) ∈ bef l[i]) → (m :: l).getLast (by simp) = t →
    0 ≤ (gC cs m).1 ∧ (gC cs m).1 ≤ (l.map fun x : Nat => ln ((x : Int) / 2)).sum := by
  intro l
  induction l with
  | nil =>
    intro m _ _ he
    obtain rfl : m = t := by simpa using he
    have := h.tgt.2
    unfold leC at this
    simp only [List.map_nil, List.sum_nil]
    simp only at this
    omega
  | cons n l ih =>
    intro m hm hb he
    obtain ⟨a1, a2⟩ := ih n (fun x hx => hm x (List.mem_cons_of_mem _ hx)) (fun i hi => by
      have := hb (i + 1) (by simp; omega)
      simpa using this) (by rw [← he]; exact (List.getLast_cons (by simp)).symm)
    obtain ⟨w, e, _, b1, b2⟩ := h.rel n (hm n (by simp)) a1 m (hb 0 (by simp))
    obtain rfl : m = w := by omega
    refine ⟨b1, ?_⟩
    rw [List.map_cons, List.sum_cons]
    unfold leC at b2
    simp only at b2
    omega
end Go.Proofs.Ytcpanfpijljeaaa
namespace Go.Proofs.Ytcpanfpijljeaaa
set_option linter.unusedVariables false
set_option linter.unusedSimpArgs false
open Go.RowKit

open Go in
theorem hTake {P : Program} {ops : Array Oper} {Q : Exit → Act → World → Prop} {md : Region.Mode} {S : World → Prop} {i : Nat} {d : Tmp} {oi : Oper} {v : Value} {fuel : Nat} {listed : Array Bool} {a : Act} {w : World} (hi : ops[i]? = some oi) (hd : oi.dst = some d)
    (hs : Region.noSelect ops = true) (hf : Region.free md ops listed i = true) (hr : (Region.ready md ops listed).contains i = true)
    (hQ : ∀ c a w, Q (.panic c) (a.put (some d) v) w → Q (.panic c) a w) (hy : YieldsIf P ops S oi v a) (hS : S w)
    (h : wpAnyH P md ops Q S fuel (listed.setIfInBounds i true) (a.put (some d) v) w) : wpAnyH P md ops Q S (fuel + 1) listed a w :=
  wpAnyH_take hi hs hf hr (by rw [hd]; exact hQ) hy hS (by rw [hd]; exact h)

set_option maxHeartbeats 1000000 in
theorem rNumber_any (r : Int) (l : Bool) (w : World) (h0 : 0 ≤ r) (h1 : r ≤ 1000000) :
    Calls Try.prog 30 #[.agg #[.int .i64 r, .bool l]] w fun e w' => e = .returned (.int .i64 (endNo ⟨r, l⟩)) ∧ Below w.heap.size w w' := by
  cases l
  · go_enter Try.func30, Try.ntmps30
    go_wp2
    go_ret
    exact ⟨rfl, (Below.refl _ _).alloc (Nat.le_refl _) _⟩
  · go_enter Try.func30, Try.ntmps30
    go_wp2
    go_ret
    exact ⟨rfl, (Below.refl _ _).alloc (Nat.le_refl _) _⟩

def WLPost (p : Pl) (l : List E) (w : World) (e : Ending) (w' : World) : Prop :=
  ((Vld p ∧ wayOk p l ∧ e = .returned (.tuple #[.int .i64 (wlen p (l.map endNo)), .int .i64 0])) ∨ (¬ (Vld p ∧ wayOk p l) ∧ e = .returned (.tuple #[.int .i64 0, .int .i64 2]))) ∧ Below w.heap.size w w'
set_option maxRecDepth 100000 in
set_option maxHeartbeats 1000000 in
theorem WayLength_any (A0 A20 A : Option Addr) (c0 c20 c : Nat) (p : Pl) (l : List E) (w : World) (hP : PlAt w w.heap.size A0 c0 A20 c20 p) (hA : Sl w w.heap.size 2 CE A l) (hl : l.length ≤ 9223372036854775807) :
    Calls Try.prog 29 #[.agg #[.slice A0 p.nodes.length c0, .slice A20 p.rails.length c20], .slice A l.length c] w (WLPost p l w) := by
  have HP := Lib.hid (hP.box (.cells #[.slice A0 p.nodes.length c0, .slice A20 p.rails.length c20] 25))
  have hB0 := (Below.refl w.heap.size w).alloc (Nat.le_refl _) (.cells #[.slice A0 p.nodes.length c0, .slice A20 p.rails.length c20] 25)
  have HA := Lib.hid ((hA.below hB0).more (fun _ _ h => h) hB0.size)
  have HB0 := Lib.hid hB0
  clear hP hA hB0
  go_enter Try.func29, Try.ntmps29
  go_wp2_with fail
  refine (surveyWay_any A0 A20 A c0 c20 c p l _ HP.out HA.out hl).mono ?_
  rintro e w1 ⟨⟨hv, hw, g, v, rfl, hN, ho⟩ | ⟨hw, x, rfl⟩, hb⟩
  · have HV := Lib.hid hv; have HW := Lib.hid hw; have HN := Lib.hid hN
    have HB := Lib.hid (HB0.out.trans (hb.mono (by simp)))
    have hl2 : (l.map endNo).length ≤ 100000 := by have := hw.2.1; simp; omega
    have hR : ∀ x ∈ l.map endNo, 0 ≤ x ∧ x < 2 * (p.rails.length : Int) := fun x hx => by
      obtain ⟨m, hm, rfl⟩ := List.mem_map.1 hx
      obtain ⟨j, hj, rfl⟩ := List.getElem_of_mem hm
      have h3 := (hw.2.2 j hj).1
      rw [E1_eq hj] at h3
      have h4 := key_lt h3
      omega
    have HW2 := Lib.hid (show Vld p ∧ wayOk p l from ⟨hv, hw⟩)
    obtain ⟨q, hq⟩ : ∃ q, l.map endNo = q := ⟨_, rfl⟩
    rw [hq] at ho hl2 hR
    obtain ⟨B, d, rfl, _, _, _⟩ := ho.form
    have HS := Lib.hid ((fI_CI (ho.sl fI_len rfl)).keep (w' := w1) (fun _ _ h => h) fun _ _ => rfl)
    have HR := Lib.hid hR
    have HQ := Lib.hid hq
    clear hv hw hN hb ho hR hq
    go_wp2_with fail
    refine (wayLength_any _ g p B q d _ HN.out HS.out hl2 HR.out).mono ?_
    rintro e w2 ⟨rfl, rfl⟩
    go_wp2
    go_ret2
    exact ⟨.inl ⟨HV.out, HW.out, by rw [HQ.out]; rfl⟩, HB.out⟩
  · have HW := Lib.hid hw
    have HB := Lib.hid (HB0.out.trans (hb.mono (by simp)))
    clear hw hb
    go_wp2
    go_ret2
    exact ⟨.inr ⟨HW.out, rfl⟩, HB.out⟩

def WayB (p : Pl) (l : List E) (e : Ending) : Prop := ∃ b, e = .returned (.bool b) ∧ (b = true ↔ wayOk p l)
def RWayPost (p : Pl) (l : List E) (w : World) (e : Ending) (w' : World) : Prop := WayB p l e ∧ Below w.heap.size w w'
set_option maxRecDepth 100000 in
set_option maxHeartbeats 4000000 in
theorem rWay_any (A A2 A3 : Option Addr) (c c2 c3 : Nat) (p : Pl) (l : List E) (w : World) (hP : PlAt w w.heap.size A c A2 c2 p) (hv : Vld p) (hA : Sl w w.heap.size 2 CE A3 l) (hl : l.length ≤ 9223372036854775807) :
    Calls Try.prog 27 #[.agg #[.slice A p.nodes.length c, .slice A2 p.rails.length c2], .slice A3 l.length c3] w (RWayPost p l w) := by
  have HP1 := Lib.hid (hP.box (.cells #[.slice A p.nodes.length c, .slice A2 p.rails.length c2] 25))
  have hB0 := (Below.refl w.heap.size w).alloc (Nat.le_refl _) (.cells #[.slice A p.nodes.length c, .slice A2 p.rails.length c2] 25)
  have HA := Lib.hid ((hA.below hB0).more (fun _ _ h => h) hB0.size)
  have HX := Lib.hid (show ∀ j : Nat, (w.alloc (.cells #[.slice A p.nodes.length c, .slice A2 p.rails.length c2] 25)).cell? ⟨w.heap.size, j, none⟩ = #[.slice A p.nodes.length c, .slice A2 p.rails.length c2][j]? from fun j => cell_new1 w _ 25 j)
  have hz3 : (w.alloc (.cells #[.slice A p.nodes.length c, .slice A2 p.rails.length c2] 25)).heap.size = w.heap.size + 1 := by simp
  have HV := Lib.hid hv
  have HB0 := Lib.hid hB0
  clear hP hv hA hB0
  go_enter Try.func27, Try.ntmps27
  go_wp2
  generalize w.alloc (.cells #[.slice A p.nodes.length c, .slice A2 p.rails.length c2] 25) = W1 at *
  go_loopw [5] (fun i wr => ∃ k : Nat, k ≤ l.length ∧ i = .int .i64 k ∧ wayTo p l k ∧ Below W1.heap.size W1 wr) (fun i _ => l.length - (intOf i).toNat)
  case atStart => exact ⟨0, Nat.zero_le _, rfl, fun j hj => absurd hj (by omega), Below.refl _ _⟩
  case round =>
    obtain ⟨k, hk, rfl, hw, hb⟩ := hrel
    have hzw := hb.size
    have ha0 : w.heap.size < W1.heap.size := by omega
    have k0 := (hb.cell (p := ⟨w.heap.size, 0, none⟩) ha0).trans (HX.out 0)
    have k1 := (hb.cell (p := ⟨w.heap.size, 1, none⟩) ha0).trans (HX.out 1)
    simp only [List.getElem?_toArray, List.getElem?_cons_zero, List.getElem?_cons_succ] at k0 k1
    have HPw := Lib.hid ((HP1.out.below hb).more hzw)
    have HAw := Lib.hid ((HA.out.below hb).more (fun _ _ h => h) hzw)
    have HB := Lib.hid hb; have HW := Lib.hid hw
    clear hb hw
    have hr0 : w.heap.size < wr.heap.size := by omega
    by_cases hlt : k < l.length
    · have hlt2 : (k : Int) < (l.length : Int) := by omega
      have hk0 : (0 : Int) ≤ (k : Int) := by omega
      obtain ⟨b1, o1, e1, g1, q0, q1⟩ := end_at HAw.out hlt
      obtain ⟨⟨mr, ml⟩, hx⟩ : ∃ x, l[k] = x := ⟨_, rfl⟩
      have HXk := Lib.hid (show E1' l k = ⟨mr, ml⟩ by rw [E1_eq hlt]; exact hx)
      rw [hx] at q0 q1
      subst e1
      clear hx
      cases hr : railIn p mr
      · have HR := Lib.hid (show ¬ wayOk p l from fun h => by have := (h.2.2 k hlt).1; rw [HXk.out] at this; rw [hr] at this; cases this)
        have HRM := Lib.hid hr
        clear hr
        go_upto_region 4 with (fail)
        go_cut [36] from 6 to 36 (fun s36 wx => s36 = .bool true ∧ Below wr.heap.size wr wx)
        case first =>
          have hbq : Below wr.heap.size wr wr.drew := (Below.refl _ _).drew
          have HS := Lib.hid (show (fun w' => w'.cell? ⟨w.heap.size, 0, none⟩ = some (.slice A p.nodes.length c) ∧ w'.cell? ⟨w.heap.size, 1, none⟩ = some (.slice A2 p.rails.length c2) ∧ w'.cell? ⟨b1, o1 + k * 2, none⟩ = some (.int .i64 mr) ∧ w'.cell? ⟨b1, o1 + k * 2 + 1, none⟩ = some (.bool ml)) wr.drew from ⟨(hbq.cell (p := ⟨w.heap.size, 0, none⟩) hr0).trans k0, (hbq.cell (p := ⟨w.heap.size, 1, none⟩) hr0).trans k1, (hbq.cell (p := ⟨b1, o1 + k * 2, none⟩) g1).trans q0, (hbq.cell (p := ⟨b1, o1 + k * 2 + 1, none⟩) g1).trans q1⟩)
          refine wp_region_held_drew (S := (fun w' => w'.cell? ⟨w.heap.size, 0, none⟩ = some (.slice A p.nodes.length c) ∧ w'.cell? ⟨w.heap.size, 1, none⟩ = some (.slice A2 p.rails.length c2) ∧ w'.cell? ⟨b1, o1 + k * 2, none⟩ = some (.int .i64 mr) ∧ w'.cell? ⟨b1, o1 + k * 2 + 1, none⟩ = some (.bool ml))) (by kernel_rfl) HS.out (fun _ => ?_)
          refine hTake (i := 0) (d := 12) (v := .agg #[.slice A p.nodes.length c, .slice A2 p.rails.length c2]) rfl rfl (by kernel_rfl) (by kernel_rfl) (by kernel_rfl) (fun _ _ _ h => h) (Or.inl ⟨rfl, ?gr⟩) HS.out ?_
          case gr =>
            rintro W' ⟨s1, s2, s3, s4⟩
            go_simp
          simp only [Act.put, List.setIfInBounds_toArray, List.set_cons_zero, List.set_cons_succ]
          refine hTake (i := 1) (d := 13) (v := .slice (some ⟨b1, o1, none⟩) l.length c3) rfl rfl (by kernel_rfl) (by kernel_rfl) (by kernel_rfl) (fun _ _ _ h => h) (Or.inl ⟨rfl, ?gr⟩) HS.out ?_
          case gr =>
            rintro W' ⟨s1, s2, s3, s4⟩
            go_simp
          simp only [Act.put, List.setIfInBounds_toArray, List.set_cons_zero, List.set_cons_succ]
          refine hTake (i := 2) (d := 14) (v := .int .i64 (k : Int)) rfl rfl (by kernel_rfl) (by kernel_rfl) (by kernel_rfl) (fun _ _ _ h => h) (Or.inl ⟨rfl, ?gr⟩) HS.out ?_
          case gr =>
            rintro W' ⟨s1, s2, s3, s4⟩
            go_simp
          simp only [Act.put, List.setIfInBounds_toArray, List.set_cons_zero, List.set_cons_succ]
          refine hTake (i := 3) (d := 15) (v := .pointer (some ⟨b1, o1 + k * 2, none⟩)) rfl rfl (by kernel_rfl) (by kernel_rfl) (by kernel_rfl) (fun _ _ _ h => h) (Or.inl ⟨rfl, ?gr⟩) HS.out ?_
          case gr =>
            rintro W' ⟨s1, s2, s3, s4⟩
            go_simp
          simp only [Act.put, List.setIfInBounds_toArray, List.set_cons_zero, List.set_cons_succ]
          refine hTake (i := 4) (d := 16) (v := .agg #[.int .i64 mr, .bool ml]) rfl rfl (by kernel_rfl) (by kernel_rfl) (by kernel_rfl) (fun _ _ _ h => h) (Or.inl ⟨rfl, ?gr⟩) HS.out ?_
          case gr =>
            rintro W' ⟨s1, s2, s3, s4⟩
            go_simp
          simp only [Act.put, List.setIfInBounds_toArray, List.set_cons_zero, List.set_cons_succ]
          refine wpAnyH_ready (rs := [5]) (by kernel_rfl) (by simp) ?_
          refine AllReadyH.cons rfl (fun K hK => ?_) AllReadyH.nil
          rw [if_pos (by rfl)]
          go_simp
          go_at_call 47
          have hpw := (HPw.out.below hbq).more hbq.size
          have hmv := Move_any A A2 c c2 p mr ml _ hpw
          rw [HRM.out] at hmv
          refine hmv.mono ?_
          rintro e w5 ⟨rfl, hb5⟩
          replace hbq := hbq.trans (hb5.mono hbq.size)
          have HS := Lib.hid (show (fun w' => w'.cell? ⟨w.heap.size, 0, none⟩ = some (.slice A p.nodes.length c) ∧ w'.cell? ⟨w.heap.size, 1, none⟩ = some (.slice A2 p.rails.length c2) ∧ w'.cell? ⟨b1, o1 + k * 2, none⟩ = some (.int .i64 mr) ∧ w'.cell? ⟨b1, o1 + k * 2 + 1, none⟩ = some (.bool ml)) w5 from ⟨(hbq.cell (p := ⟨w.heap.size, 0, none⟩) hr0).trans k0, (hbq.cell (p := ⟨w.heap.size, 1, none⟩) hr0).trans k1, (hbq.cell (p := ⟨b1, o1 + k * 2, none⟩) g1).trans q0, (hbq.cell (p := ⟨b1, o1 + k * 2 + 1, none⟩) g1).trans q1⟩)
          refine hK.out _ _ HS.out (fun _ => ?_)
          clear hK K hmv hpw hb5
          refine hTake (i := 6) (d := 18) (v := .bool true) rfl rfl (by kernel_rfl) (by kernel_rfl) (by kernel_rfl) (fun _ _ _ h => h) (Or.inl ⟨rfl, ?gr⟩) HS.out ?_
          case gr =>
            rintro W' ⟨s1, s2, s3, s4⟩
            go_simp
          simp only [Act.put, List.setIfInBounds_toArray, List.set_cons_zero, List.set_cons_succ]
          refine hTake (i := 7) (d := 19) (v := .bool true) rfl rfl (by kernel_rfl) (by kernel_rfl) (by kernel_rfl) (fun _ _ _ h => h) (Or.inl ⟨rfl, ?gr⟩) HS.out ?_
          case gr =>
            rintro W' ⟨s1, s2, s3, s4⟩
            go_simp
          simp only [Act.put, List.setIfInBounds_toArray, List.set_cons_zero, List.set_cons_succ]
          refine hTake (i := 8) (d := 20) (v := undef) rfl rfl (by kernel_rfl) (by kernel_rfl) (by kernel_rfl) (fun _ _ _ h => h) (Or.inr ⟨rfl, rfl⟩) HS.out ?_
          simp only [Act.put, List.setIfInBounds_toArray, List.set_cons_zero, List.set_cons_succ]
          refine hTake (i := 9) (d := 21) (v := undef) rfl rfl (by kernel_rfl) (by kernel_rfl) (by kernel_rfl) (fun _ _ _ h => h) (Or.inr ⟨rfl, rfl⟩) HS.out ?_
          simp only [Act.put, List.setIfInBounds_toArray, List.set_cons_zero, List.set_cons_succ]
          refine hTake (i := 10) (d := 22) (v := undef) rfl rfl (by kernel_rfl) (by kernel_rfl) (by kernel_rfl) (fun _ _ _ h => h) (Or.inr ⟨rfl, rfl⟩) HS.out ?_
          simp only [Act.put, List.setIfInBounds_toArray, List.set_cons_zero, List.set_cons_succ]
          refine hTake (i := 11) (d := 23) (v := undef) rfl rfl (by kernel_rfl) (by kernel_rfl) (by kernel_rfl) (fun _ _ _ h => h) (Or.inr ⟨rfl, rfl⟩) HS.out ?_
          simp only [Act.put, List.setIfInBounds_toArray, List.set_cons_zero, List.set_cons_succ]
          refine hTake (i := 12) (d := 24) (v := undef) rfl rfl (by kernel_rfl) (by kernel_rfl) (by kernel_rfl) (fun _ _ _ h => h) (Or.inr ⟨rfl, rfl⟩) HS.out ?_
          simp only [Act.put, List.setIfInBounds_toArray, List.set_cons_zero, List.set_cons_succ]
          refine hTake (i := 13) (d := 25) (v := undef) rfl rfl (by kernel_rfl) (by kernel_rfl) (by kernel_rfl) (fun _ _ _ h => h) (Or.inr ⟨rfl, rfl⟩) HS.out ?_
          simp only [Act.put, List.setIfInBounds_toArray, List.set_cons_zero, List.set_cons_succ]
          refine hTake (i := 14) (d := 26) (v := undef) rfl rfl (by kernel_rfl) (by kernel_rfl) (by kernel_rfl) (fun _ _ _ h => h) (Or.inr ⟨rfl, rfl⟩) HS.out ?_
          simp only [Act.put, List.setIfInBounds_toArray, List.set_cons_zero, List.set_cons_succ]
          refine hTake (i := 15) (d := 27) (v := undef) rfl rfl (by kernel_rfl) (by kernel_rfl) (by kernel_rfl) (fun _ _ _ h => h) (Or.inr ⟨rfl, rfl⟩) HS.out ?_
          simp only [Act.put, List.setIfInBounds_toArray, List.set_cons_zero, List.set_cons_succ]
          refine hTake (i := 16) (d := 28) (v := undef) rfl rfl (by kernel_rfl) (by kernel_rfl) (by kernel_rfl) (fun _ _ _ h => h) (Or.inr ⟨rfl, rfl⟩) HS.out ?_
          simp only [Act.put, List.setIfInBounds_toArray, List.set_cons_zero, List.set_cons_succ]
          refine hTake (i := 17) (d := 29) (v := undef) rfl rfl (by kernel_rfl) (by kernel_rfl) (by kernel_rfl) (fun _ _ _ h => h) (Or.inr ⟨rfl, rfl⟩) HS.out ?_
          simp only [Act.put, List.setIfInBounds_toArray, List.set_cons_zero, List.set_cons_succ]
          refine hTake (i := 18) (d := 30) (v := undef) rfl rfl (by kernel_rfl) (by kernel_rfl) (by kernel_rfl) (fun _ _ _ h => h) (Or.inr ⟨rfl, rfl⟩) HS.out ?_
          simp only [Act.put, List.setIfInBounds_toArray, List.set_cons_zero, List.set_cons_succ]
          refine hTake (i := 19) (d := 31) (v := undef) rfl rfl (by kernel_rfl) (by kernel_rfl) (by kernel_rfl) (fun _ _ _ h => h) (Or.inr ⟨rfl, rfl⟩) HS.out ?_
          simp only [Act.put, List.setIfInBounds_toArray, List.set_cons_zero, List.set_cons_succ]
          refine hTake (i := 20) (d := 32) (v := undef) rfl rfl (by kernel_rfl) (by kernel_rfl) (by kernel_rfl) (fun _ _ _ h => h) (Or.inr ⟨rfl, rfl⟩) HS.out ?_
          simp only [Act.put, List.setIfInBounds_toArray, List.set_cons_zero, List.set_cons_succ]
          refine hTake (i := 21) (d := 33) (v := undef) rfl rfl (by kernel_rfl) (by kernel_rfl) (by kernel_rfl) (fun _ _ _ h => h) (Or.inr ⟨rfl, rfl⟩) HS.out ?_
          simp only [Act.put, List.setIfInBounds_toArray, List.set_cons_zero, List.set_cons_succ]
          refine hTake (i := 22) (d := 34) (v := undef) rfl rfl (by kernel_rfl) (by kernel_rfl) (by kernel_rfl) (fun _ _ _ h => h) (Or.inr ⟨rfl, rfl⟩) HS.out ?_
          simp only [Act.put, List.setIfInBounds_toArray, List.set_cons_zero, List.set_cons_succ]
          refine hTake (i := 23) (d := 35) (v := undef) rfl rfl (by kernel_rfl) (by kernel_rfl) (by kernel_rfl) (fun _ _ _ h => h) (Or.inr ⟨rfl, rfl⟩) HS.out ?_
          simp only [Act.put, List.setIfInBounds_toArray, List.set_cons_zero, List.set_cons_succ]
          refine hTake (i := 24) (d := 36) (v := .bool true) rfl rfl (by kernel_rfl) (by kernel_rfl) (by kernel_rfl) (fun _ _ _ h => h) (Or.inl ⟨rfl, ?gr⟩) HS.out ?_
          case gr =>
            rintro W' ⟨s1, s2, s3, s4⟩
            go_simp
          simp only [Act.put, List.setIfInBounds_toArray, List.set_cons_zero, List.set_cons_succ]
          refine wpAnyH_done (by kernel_rfl) ?_ _
          all_goals
            go_wp2_with fail
            go_meet
            exact ⟨rfl, hbq⟩
        case rest =>
        obtain ⟨rfl, hbq⟩ := hcut
        have HBQ := Lib.hid (HB0.out.trans ((HB.out.trans (hbq.mono hzw)).mono (by omega)))
        clear hbq
        go_wp2
        go_ret
        exact ⟨⟨false, rfl, fun h => (by cases h), fun h => absurd h HR.out⟩, HBQ.out⟩
      have HRM := Lib.hid hr
      clear hr
      rcases k with _ | j
      · have HW2 := Lib.hid (HW.out.step (by rw [HXk.out]; exact HRM.out) (fun h => absurd h (by omega)))
        have d3 : decide ((0 : Int) < ((0 : Nat) : Int)) = false := by simp
        go_upto_region 4 with (fail)
        go_cut [36] from 6 to 36 (fun s36 wx => s36 = .bool false ∧ Below wr.heap.size wr wx)
        case first =>
          have hbq : Below wr.heap.size wr wr.drew := (Below.refl _ _).drew
          simp only [Nat.zero_mul, Nat.add_zero] at q0 q1
          have HS := Lib.hid (show (fun w' => w'.cell? ⟨w.heap.size, 0, none⟩ = some (.slice A p.nodes.length c) ∧ w'.cell? ⟨w.heap.size, 1, none⟩ = some (.slice A2 p.rails.length c2) ∧ w'.cell? ⟨b1, o1, none⟩ = some (.int .i64 mr) ∧ w'.cell? ⟨b1, o1 + 1, none⟩ = some (.bool ml)) wr.drew from ⟨(hbq.cell (p := ⟨w.heap.size, 0, none⟩) hr0).trans k0, (hbq.cell (p := ⟨w.heap.size, 1, none⟩) hr0).trans k1, (hbq.cell (p := ⟨b1, o1, none⟩) g1).trans q0, (hbq.cell (p := ⟨b1, o1 + 1, none⟩) g1).trans q1⟩)
          refine wp_region_held_drew (S := (fun w' => w'.cell? ⟨w.heap.size, 0, none⟩ = some (.slice A p.nodes.length c) ∧ w'.cell? ⟨w.heap.size, 1, none⟩ = some (.slice A2 p.rails.length c2) ∧ w'.cell? ⟨b1, o1, none⟩ = some (.int .i64 mr) ∧ w'.cell? ⟨b1, o1 + 1, none⟩ = some (.bool ml))) (by kernel_rfl) HS.out (fun _ => ?_)
          refine hTake (i := 0) (d := 12) (v := .agg #[.slice A p.nodes.length c, .slice A2 p.rails.length c2]) rfl rfl (by kernel_rfl) (by kernel_rfl) (by kernel_rfl) (fun _ _ _ h => h) (Or.inl ⟨rfl, ?gr⟩) HS.out ?_
          case gr =>
            rintro W' ⟨s1, s2, s3, s4⟩
            go_simp
          simp only [Act.put, List.setIfInBounds_toArray, List.set_cons_zero, List.set_cons_succ]
          refine hTake (i := 1) (d := 13) (v := .slice (some ⟨b1, o1, none⟩) l.length c3) rfl rfl (by kernel_rfl) (by kernel_rfl) (by kernel_rfl) (fun _ _ _ h => h) (Or.inl ⟨rfl, ?gr⟩) HS.out ?_
          case gr =>
            rintro W' ⟨s1, s2, s3, s4⟩
            go_simp
          simp only [Act.put, List.setIfInBounds_toArray, List.set_cons_zero, List.set_cons_succ]
          refine hTake (i := 2) (d := 14) (v := .int .i64 ((0 : Nat) : Int)) rfl rfl (by kernel_rfl) (by kernel_rfl) (by kernel_rfl) (fun _ _ _ h => h) (Or.inl ⟨rfl, ?gr⟩) HS.out ?_
          case gr =>
            rintro W' ⟨s1, s2, s3, s4⟩
            go_simp
          simp only [Act.put, List.setIfInBounds_toArray, List.set_cons_zero, List.set_cons_succ]
          refine hTake (i := 3) (d := 15) (v := .pointer (some ⟨b1, o1, none⟩)) rfl rfl (by kernel_rfl) (by kernel_rfl) (by kernel_rfl) (fun _ _ _ h => h) (Or.inl ⟨rfl, ?gr⟩) HS.out ?_
          case gr =>
            rintro W' ⟨s1, s2, s3, s4⟩
            go_simp
          simp only [Act.put, List.setIfInBounds_toArray, List.set_cons_zero, List.set_cons_succ]
          refine hTake (i := 4) (d := 16) (v := .agg #[.int .i64 mr, .bool ml]) rfl rfl (by kernel_rfl) (by kernel_rfl) (by kernel_rfl) (fun _ _ _ h => h) (Or.inl ⟨rfl, ?gr⟩) HS.out ?_
          case gr =>
            rintro W' ⟨s1, s2, s3, s4⟩
            go_simp
          simp only [Act.put, List.setIfInBounds_toArray, List.set_cons_zero, List.set_cons_succ]
          refine wpAnyH_ready (rs := [5]) (by kernel_rfl) (by simp) ?_
          refine AllReadyH.cons rfl (fun K hK => ?_) AllReadyH.nil
          rw [if_pos (by rfl)]
          go_simp
          go_at_call 47
          have hpw := (HPw.out.below hbq).more hbq.size
          have hmv := Move_any A A2 c c2 p mr ml _ hpw
          rw [HRM.out] at hmv
          refine hmv.mono ?_
          rintro e w5 ⟨rfl, hb5⟩
          replace hbq := hbq.trans (hb5.mono hbq.size)
          have HS := Lib.hid (show (fun w' => w'.cell? ⟨w.heap.size, 0, none⟩ = some (.slice A p.nodes.length c) ∧ w'.cell? ⟨w.heap.size, 1, none⟩ = some (.slice A2 p.rails.length c2) ∧ w'.cell? ⟨b1, o1, none⟩ = some (.int .i64 mr) ∧ w'.cell? ⟨b1, o1 + 1, none⟩ = some (.bool ml)) w5 from ⟨(hbq.cell (p := ⟨w.heap.size, 0, none⟩) hr0).trans k0, (hbq.cell (p := ⟨w.heap.size, 1, none⟩) hr0).trans k1, (hbq.cell (p := ⟨b1, o1, none⟩) g1).trans q0, (hbq.cell (p := ⟨b1, o1 + 1, none⟩) g1).trans q1⟩)
          refine hK.out _ _ HS.out (fun _ => ?_)
          clear hK K hmv hpw hb5
          refine hTake (i := 6) (d := 18) (v := .bool false) rfl rfl (by kernel_rfl) (by kernel_rfl) (by kernel_rfl) (fun _ _ _ h => h) (Or.inl ⟨rfl, ?gr⟩) HS.out ?_
          case gr =>
            rintro W' ⟨s1, s2, s3, s4⟩
            go_simp
          simp only [Act.put, List.setIfInBounds_toArray, List.set_cons_zero, List.set_cons_succ]
          refine hTake (i := 7) (d := 19) (v := .bool false) rfl rfl (by kernel_rfl) (by kernel_rfl) (by kernel_rfl) (fun _ _ _ h => h) (Or.inl ⟨rfl, ?gr⟩) HS.out ?_
          case gr =>
            rintro W' ⟨s1, s2, s3, s4⟩
            go_simp
          simp only [Act.put, List.setIfInBounds_toArray, List.set_cons_zero, List.set_cons_succ]
          refine hTake (i := 8) (d := 20) (v := .int .i64 ((0 : Nat) : Int)) rfl rfl (by kernel_rfl) (by kernel_rfl) (by kernel_rfl) (fun _ _ _ h => h) (Or.inl ⟨rfl, ?gr⟩) HS.out ?_
          case gr =>
            rintro W' ⟨s1, s2, s3, s4⟩
            go_simp
          simp only [Act.put, List.setIfInBounds_toArray, List.set_cons_zero, List.set_cons_succ]
          refine hTake (i := 9) (d := 21) (v := .bool false) rfl rfl (by kernel_rfl) (by kernel_rfl) (by kernel_rfl) (fun _ _ _ h => h) (Or.inl ⟨rfl, ?gr⟩) HS.out ?_
          case gr =>
            rintro W' ⟨s1, s2, s3, s4⟩
            go_simp
          simp only [Act.put, List.setIfInBounds_toArray, List.set_cons_zero, List.set_cons_succ]
          refine hTake (i := 10) (d := 22) (v := .bool false) rfl rfl (by kernel_rfl) (by kernel_rfl) (by kernel_rfl) (fun _ _ _ h => h) (Or.inl ⟨rfl, ?gr⟩) HS.out ?_
          case gr =>
            rintro W' ⟨s1, s2, s3, s4⟩
            go_simp
          simp only [Act.put, List.setIfInBounds_toArray, List.set_cons_zero, List.set_cons_succ]
          refine hTake (i := 11) (d := 23) (v := undef) rfl rfl (by kernel_rfl) (by kernel_rfl) (by kernel_rfl) (fun _ _ _ h => h) (Or.inr ⟨rfl, rfl⟩) HS.out ?_
          simp only [Act.put, List.setIfInBounds_toArray, List.set_cons_zero, List.set_cons_succ]
          refine hTake (i := 12) (d := 24) (v := undef) rfl rfl (by kernel_rfl) (by kernel_rfl) (by kernel_rfl) (fun _ _ _ h => h) (Or.inr ⟨rfl, rfl⟩) HS.out ?_
          simp only [Act.put, List.setIfInBounds_toArray, List.set_cons_zero, List.set_cons_succ]
          refine hTake (i := 13) (d := 25) (v := undef) rfl rfl (by kernel_rfl) (by kernel_rfl) (by kernel_rfl) (fun _ _ _ h => h) (Or.inr ⟨rfl, rfl⟩) HS.out ?_
          simp only [Act.put, List.setIfInBounds_toArray, List.set_cons_zero, List.set_cons_succ]
          refine hTake (i := 14) (d := 26) (v := undef) rfl rfl (by kernel_rfl) (by kernel_rfl) (by kernel_rfl) (fun _ _ _ h => h) (Or.inr ⟨rfl, rfl⟩) HS.out ?_
          simp only [Act.put, List.setIfInBounds_toArray, List.set_cons_zero, List.set_cons_succ]
          refine hTake (i := 15) (d := 27) (v := undef) rfl rfl (by kernel_rfl) (by kernel_rfl) (by kernel_rfl) (fun _ _ _ h => h) (Or.inr ⟨rfl, rfl⟩) HS.out ?_
          simp only [Act.put, List.setIfInBounds_toArray, List.set_cons_zero, List.set_cons_succ]
          refine hTake (i := 16) (d := 28) (v := undef) rfl rfl (by kernel_rfl) (by kernel_rfl) (by kernel_rfl) (fun _ _ _ h => h) (Or.inr ⟨rfl, rfl⟩) HS.out ?_
          simp only [Act.put, List.setIfInBounds_toArray, List.set_cons_zero, List.set_cons_succ]
          refine hTake (i := 17) (d := 29) (v := undef) rfl rfl (by kernel_rfl) (by kernel_rfl) (by kernel_rfl) (fun _ _ _ h => h) (Or.inr ⟨rfl, rfl⟩) HS.out ?_
          simp only [Act.put, List.setIfInBounds_toArray, List.set_cons_zero, List.set_cons_succ]
          refine hTake (i := 18) (d := 30) (v := undef) rfl rfl (by kernel_rfl) (by kernel_rfl) (by kernel_rfl) (fun _ _ _ h => h) (Or.inr ⟨rfl, rfl⟩) HS.out ?_
          simp only [Act.put, List.setIfInBounds_toArray, List.set_cons_zero, List.set_cons_succ]
          refine hTake (i := 19) (d := 31) (v := undef) rfl rfl (by kernel_rfl) (by kernel_rfl) (by kernel_rfl) (fun _ _ _ h => h) (Or.inr ⟨rfl, rfl⟩) HS.out ?_
          simp only [Act.put, List.setIfInBounds_toArray, List.set_cons_zero, List.set_cons_succ]
          refine hTake (i := 20) (d := 32) (v := undef) rfl rfl (by kernel_rfl) (by kernel_rfl) (by kernel_rfl) (fun _ _ _ h => h) (Or.inr ⟨rfl, rfl⟩) HS.out ?_
          simp only [Act.put, List.setIfInBounds_toArray, List.set_cons_zero, List.set_cons_succ]
          refine hTake (i := 21) (d := 33) (v := undef) rfl rfl (by kernel_rfl) (by kernel_rfl) (by kernel_rfl) (fun _ _ _ h => h) (Or.inr ⟨rfl, rfl⟩) HS.out ?_
          simp only [Act.put, List.setIfInBounds_toArray, List.set_cons_zero, List.set_cons_succ]
          refine hTake (i := 22) (d := 34) (v := undef) rfl rfl (by kernel_rfl) (by kernel_rfl) (by kernel_rfl) (fun _ _ _ h => h) (Or.inr ⟨rfl, rfl⟩) HS.out ?_
          simp only [Act.put, List.setIfInBounds_toArray, List.set_cons_zero, List.set_cons_succ]
          refine hTake (i := 23) (d := 35) (v := .bool false) rfl rfl (by kernel_rfl) (by kernel_rfl) (by kernel_rfl) (fun _ _ _ h => h) (Or.inl ⟨rfl, ?gr⟩) HS.out ?_
          case gr =>
            rintro W' ⟨s1, s2, s3, s4⟩
            go_simp
          simp only [Act.put, List.setIfInBounds_toArray, List.set_cons_zero, List.set_cons_succ]
          refine hTake (i := 24) (d := 36) (v := .bool false) rfl rfl (by kernel_rfl) (by kernel_rfl) (by kernel_rfl) (fun _ _ _ h => h) (Or.inl ⟨rfl, ?gr⟩) HS.out ?_
          case gr =>
            rintro W' ⟨s1, s2, s3, s4⟩
            go_simp
          simp only [Act.put, List.setIfInBounds_toArray, List.set_cons_zero, List.set_cons_succ]
          refine wpAnyH_done (by kernel_rfl) ?_ _
          all_goals
            go_wp2_with fail
            go_meet
            exact ⟨rfl, hbq⟩
        case rest =>
        obtain ⟨rfl, hbq⟩ := hcut
        have HBQ := Lib.hid (HB.out.trans (hbq.mono hzw))
        clear hbq
        go_wp2
        go_roundw
        case rel => exact ⟨0 + 1, by omega, by go_num, HW2.out, HBQ.out⟩
        case measure => simp [intOf]; omega
      · obtain ⟨b2, o2, e2, g2, q2, q3⟩ := end_at HAw.out (i := j) (by omega)
        obtain ⟨rfl, rfl⟩ : b1 = b2 ∧ o1 = o2 := by simpa using e2
        obtain ⟨⟨lr, ll⟩, hy⟩ : ∃ x, l[j]'(by omega) = x := ⟨_, rfl⟩
        have HY := Lib.hid (show E1' l j = ⟨lr, ll⟩ by rw [E1_eq (by omega)]; exact hy)
        rw [hy] at q2 q3
        have HRL := Lib.hid (show railIn p lr = true by have := (HW.out j (by omega)).1; rw [HY.out] at this; exact this)
        clear hy e2
        obtain ⟨fo, hfo⟩ : ∃ x, folB p (keyE ⟨lr, ll⟩) (endNo ⟨mr, ml⟩) = x := ⟨_, rfl⟩
        have HFO := Lib.hid (show ∀ w, PlAt w w.heap.size A c A2 c2 p → Calls Try.prog 24 #[.agg #[.slice A p.nodes.length c, .slice A2 p.rails.length c2], .agg #[.int .i64 lr, .bool ll], .agg #[.int .i64 mr, .bool ml]] w fun e w' => e = .returned (.bool fo) ∧ Below w.heap.size w w' from fun w hP => by
          have := rFollows_any A A2 c c2 p ⟨lr, ll⟩ ⟨mr, ml⟩ w hP HV.out HRL.out HRM.out
          rw [hfo] at this; exact this)
        have HF := Lib.hid hfo
        clear hfo
        have d3 : decide ((0 : Int) < ((j + 1 : Nat) : Int)) = true := by first | (simp; done) | (simp; omega)
        have d4 : decide ((0 : Int) < (j : Int) + 1) = true := by rw [decide_eq_true_iff]; omega
        have hj0 : (0 : Int) ≤ (j : Int) := by omega
        have hjs : (j : Int) < (l.length : Int) := by omega
        have hwr1 : IntKind.i64.wrap ((j : Int) + 1 - 1) = (j : Int) := by rw [IntKind.wrap_i64]; omega
        have hwr2 : IntKind.i64.wrap (j : Int) = (j : Int) := by rw [IntKind.wrap_i64]; omega
        go_upto_region 4 with (fail)
        go_cut [36] from 6 to 36 (fun s36 wx => s36 = .bool (!fo) ∧ Below wr.heap.size wr wx)
        case first =>
          have hj2 : (0 : Int) ≤ (j : Int) + 1 := by omega
          have hj3 : (j : Int) + 1 < (l.length : Int) := by omega
          have hj4 : ((j : Int) + 1).toNat = j + 1 := by omega
          have hbq : Below wr.heap.size wr wr.drew := (Below.refl _ _).drew
          first
            | (go_region_held3 (fun w' => w'.cell? ⟨w.heap.size, 0, none⟩ = some (.slice A p.nodes.length c) ∧ w'.cell? ⟨w.heap.size, 1, none⟩ = some (.slice A2 p.rails.length c2) ∧ w'.cell? ⟨b1, o1 + (j + 1) * 2, none⟩ = some (.int .i64 mr) ∧ w'.cell? ⟨b1, o1 + (j + 1) * 2 + 1, none⟩ = some (.bool ml) ∧ w'.cell? ⟨b1, o1 + j * 2, none⟩ = some (.int .i64 lr) ∧ w'.cell? ⟨b1, o1 + j * 2 + 1, none⟩ = some (.bool ll))
                (exact ⟨(hbq.cell (p := ⟨w.heap.size, 0, none⟩) hr0).trans k0, (hbq.cell (p := ⟨w.heap.size, 1, none⟩) hr0).trans k1, (hbq.cell (p := ⟨b1, o1 + (j + 1) * 2, none⟩) g1).trans q0, (hbq.cell (p := ⟨b1, o1 + (j + 1) * 2 + 1, none⟩) g1).trans q1, (hbq.cell (p := ⟨b1, o1 + j * 2, none⟩) g1).trans q2, (hbq.cell (p := ⟨b1, o1 + j * 2 + 1, none⟩) g1).trans q3⟩)
                ((first
                  | (go_at_call 47; have hpw := (HPw.out.below hbq).more hbq.size; have hmv := Move_any A A2 c c2 p mr ml _ hpw; rw [HRM.out] at hmv; (with_reducible refine hmv.mono ?_); rintro e w5 ⟨rfl, hb5⟩; replace hbq := hbq.trans (hb5.mono hbq.size))
                  | (go_at_call 24; have hpw := (HPw.out.below hbq).more hbq.size; (with_reducible refine (HFO.out _ hpw).mono ?_); rintro e w6 ⟨rfl, hb6⟩; replace hbq := hbq.trans (hb6.mono hbq.size)))))
            | fail "x"
          all_goals
            go_wp2_with fail
            go_meet
            exact ⟨rfl, hbq⟩
        case rest =>
        obtain ⟨rfl, hbq⟩ := hcut
        clear hwr1 hwr2
        have HBQ := Lib.hid (HB.out.trans (hbq.mono hzw))
        clear hbq
        cases fo
        · have HR := Lib.hid (show ¬ wayOk p l from fun h => by have := (h.2.2 (j + 1) hlt).2 (by omega); rw [HXk.out, show j + 1 - 1 = j by omega, HY.out, HF.out] at this; cases this)
          go_wp2
          go_ret
          exact ⟨⟨false, rfl, fun h => (by cases h), fun h => absurd h HR.out⟩, HB0.out.trans (HBQ.out.mono (by omega))⟩
        · have HW2 := Lib.hid (HW.out.step (by rw [HXk.out]; exact HRM.out) (fun _ => by rw [HXk.out, show j + 1 - 1 = j by omega, HY.out]; exact HF.out))
          go_wp2
          go_roundw
          case rel => exact ⟨j + 1 + 1, by omega, by go_num, HW2.out, HBQ.out⟩
          case measure => simp [intOf]; omega
    · obtain rfl : k = l.length := by omega
      have HQ := Lib.hid (show inB (l.length : Int) 1 2000 = true ↔ wayOk p l by
        unfold inB
        rw [Bool.and_eq_true, decide_eq_true_iff, decide_eq_true_iff]
        exact ⟨fun h => ⟨by omega, by omega, HW.out⟩, fun h => ⟨by have := h.1; omega, by have := h.2.1; omega⟩⟩)
      go_wp2_with fail
      refine (in_any _ _ _ _).mono ?_
      rintro e w5 ⟨rfl, rfl⟩
      obtain ⟨bb, hbb⟩ : ∃ x, inB (l.length : Int) 1 2000 = x := ⟨_, rfl⟩
      rw [hbb] at HQ ⊢
      clear hbb
      go_wp2
      go_ret
      exact ⟨⟨bb, rfl, HQ.out⟩, HB0.out.trans (HB.out.mono (by omega))⟩
end Go.Proofs.Ytcpanfpijljeaaa
