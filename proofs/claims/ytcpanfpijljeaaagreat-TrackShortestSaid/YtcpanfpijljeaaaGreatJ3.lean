/- The mathematics of the search; distances, descents and Shortest; what is needed of the text of TrackDistances. -/
import Derived.BigRegion
import Derived.Deep.CondSized
import Derived.Deep.OwnRows
import Derived.Deep.RegionHeld3
import Derived.Deep.Slices
import Derived.ProofKit
import Derived.ReadAgain
import Derived.Test.YtcpanfpijljeaaaGreatG5
import Derived.Test.YtcpanfpijljeaaaGreatJ1
import Derived.Test.YtcpanfpijljeaaaGreatJ2
import Derived.Test.YtcpanfpijljeaaaGreatOwn
import Derived.Test.YtcpanfpijljeaaaGreatProg
import Derived.Test.YtcpanfpijljeaaaGreatQ7
import Derived.Test.YtcpanfpijljeaaaGreatRows
import Derived.Test.YtcpanfpijljeaaaGreatV1
import Derived.WalkKit
import Derived.WideKeyArgs
namespace Go.Proofs.YtcpanfpijljeaaaGreat
set_option linter.unusedVariables false
set_option linter.unusedSimpArgs false

def atV (l : List V3) (k : Nat) : V3 := (l[k]?).getD ⟨0, 0, 0⟩
def ltP (a b : V3) : Prop := a.l < b.l ∨ (a.l = b.l ∧ a.m < b.m)
def leP (a b : V3) : Prop := a.l < b.l ∨ (a.l = b.l ∧ a.m ≤ b.m)
theorem ltV_iff (a b : V3) : ltV a b = true ↔ ltP a b := by
  unfold ltV cmpV cmpI ltP
  rw [decide_eq_true_iff]
  repeat' split
  all_goals omega
theorem leP_of_not {a b : V3} (h : ¬ ltP a b) : leP b a := by unfold ltP leP at *; omega
theorem leP_of {a b : V3} (h : ltP a b) : leP a b := by unfold ltP leP at *; omega
theorem leP_refl (a : V3) : leP a a := by unfold leP; omega
theorem leP_trans {a b c : V3} (h : leP a b) (h2 : leP b c) : leP a c := by unfold leP at *; omega
theorem atV_get {l : List V3} {k : Nat} (h : k < l.length) : atV l k = l[k] := by simp [atV, h]
theorem ltAt_iff {l : List V3} {i j : Nat} (hi : i < l.length) (hj : j < l.length) : ltAt l i j = true ↔ ltP (atV l i) (atV l j) := by
  rw [ltAt_at hi hj, ltV_iff, atV_get hi, atV_get hj]
theorem swap_at {l : List V3} {i j k : Nat} (hi : i < l.length) (hj : j < l.length) (hk : k < l.length) : atV (swapL l i j) k = if k = j then atV l i else if k = i then atV l j else atV l k := by
  rw [atV_get (by rw [swapL_len]; exact hk)]
  simp only [swapL_at hi hj, List.getElem_set, atV_get hi, atV_get hj, atV_get hk]
  by_cases h1 : k = j
  · subst h1; simp
  · by_cases h2 : k = i
    · subst h2; rw [if_neg (Ne.symm h1), if_neg h1, if_pos rfl]
    · rw [if_neg (Ne.symm h1), if_neg (Ne.symm h2), if_neg h1, if_neg h2]
theorem swap_perm {l : List V3} {i j : Nat} (hi : i < l.length) (hj : j < l.length) : (swapL l i j).Perm l := by
  rw [swapL_at hi hj]
  exact List.set_set_perm hi hj

def Heap (l : List V3) : Prop := ∀ k, 0 < k → k < l.length → leP (atV l ((k - 1) / 2)) (atV l k)
def UpI (l : List V3) (i : Nat) : Prop := (∀ k, 0 < k → k < l.length → k ≠ i → leP (atV l ((k - 1) / 2)) (atV l k)) ∧ ∀ k, 0 < k → k < l.length → (k - 1) / 2 = i → 0 < i → leP (atV l ((i - 1) / 2)) (atV l k)
theorem up_heap : ∀ (n : Nat) (l : List V3) (i : Nat), i ≤ n → i < l.length → UpI l i → Heap (upF n l i) ∧ (upF n l i).Perm l := by
  intro n
  induction n with
  | zero =>
    intro l i h1 h2 h
    exact ⟨fun k h0 hk => h.1 k h0 hk (by omega), List.Perm.refl _⟩
  | succ n ih =>
    intro l i h1 h2 h
    rw [upF]
    split
    · rename_i hc
      obtain ⟨h0, hlt⟩ := hc
      have hq : (i - 1) / 2 < l.length := by omega
      rw [ltAt_iff h2 hq] at hlt
      have hle := leP_of hlt
      have key : UpI (swapL l i ((i - 1) / 2)) ((i - 1) / 2) := by
        constructor
        · intro k k0 kl kne
          rw [swapL_len] at kl
          rw [swap_at h2 hq (by omega), swap_at h2 hq kl, if_neg kne]
          by_cases e1 : k = i
          · subst e1; rw [if_pos rfl, if_pos rfl]; exact hle
          · rw [if_neg e1]
            by_cases e2 : (k - 1) / 2 = (i - 1) / 2
            · rw [if_pos e2]
              have := h.1 k k0 kl e1
              rw [e2] at this
              exact leP_trans hle this
            · rw [if_neg e2]
              by_cases e3 : (k - 1) / 2 = i
              · rw [if_pos e3]; exact h.2 k k0 kl e3 h0
              · rw [if_neg e3]; exact h.1 k k0 kl e1
        · intro k k0 kl ke q0
          rw [swapL_len] at kl
          rw [swap_at h2 hq (by omega), swap_at h2 hq kl, if_neg (show ¬ ((i - 1) / 2 - 1) / 2 = (i - 1) / 2 by omega), if_neg (show ¬ ((i - 1) / 2 - 1) / 2 = i by omega), if_neg (show ¬ k = (i - 1) / 2 by omega)]
          have hqq := h.1 ((i - 1) / 2) q0 hq (by omega)
          by_cases e1 : k = i
          · rw [if_pos e1]; exact hqq
          · rw [if_neg e1]
            have := h.1 k k0 kl e1
            rw [ke] at this
            exact leP_trans hqq this
      obtain ⟨a, b⟩ := ih _ _ (by omega) (by rw [swapL_len]; exact hq) key
      exact ⟨a, b.trans (swap_perm h2 hq)⟩
    · rename_i hc
      refine ⟨fun k k0 kl => ?_, List.Perm.refl _⟩
      by_cases e : k = i
      · subst e
        refine leP_of_not fun hl => hc ⟨k0, ?_⟩
        rw [ltAt_iff h2 (by omega)]
        exact hl
      · exact h.1 k k0 kl e
theorem put_heap {l : List V3} (x : V3) (h : Heap l) : Heap (putL l x) ∧ (putL l x).Perm (x :: l) := by
  have hz : l.length < (l ++ [x]).length := by simp
  have e : ∀ k, k < l.length → atV (l ++ [x]) k = atV l k := fun k hk => by
    rw [atV_get (by simp; omega), atV_get hk, List.getElem_append_left hk]
  obtain ⟨a, b⟩ := up_heap l.length (l ++ [x]) l.length (Nat.le_refl _) hz ⟨fun k k0 kl kn => by
    have kl' : k < l.length := by simp at kl; omega
    rw [e _ (by omega), e _ kl']; exact h k k0 kl', fun k k0 kl ke i0 => by simp at kl; omega⟩
  exact ⟨a, b.trans (List.perm_append_comm (l₁ := l) (l₂ := [x]))⟩

def DnI (l : List V3) (i : Nat) : Prop := (∀ k, 0 < k → k < l.length → (k - 1) / 2 ≠ i → leP (atV l ((k - 1) / 2)) (atV l k)) ∧ ∀ k, 0 < k → k < l.length → (k - 1) / 2 = i → 0 < i → leP (atV l ((i - 1) / 2)) (atV l k)
theorem child_least {l : List V3} {i k : Nat} (h : 2 * i + 1 < l.length) (k0 : 0 < k) (kl : k < l.length) (ke : (k - 1) / 2 = i) : leP (atV l (childL l i)) (atV l k) := by
  unfold childL
  split
  · rename_i hc
    have h2 := (ltAt_iff hc.1 h).1 hc.2
    rcases (show k = 2 * i + 1 ∨ k = 2 * i + 2 by omega) with rfl | rfl
    · exact leP_of h2
    · exact leP_refl _
  · rename_i hc
    rcases (show k = 2 * i + 1 ∨ k = 2 * i + 2 by omega) with rfl | rfl
    · exact leP_refl _
    · exact leP_of_not fun hl => hc ⟨kl, (ltAt_iff kl h).2 hl⟩
theorem child_of {l : List V3} {i : Nat} : (childL l i - 1) / 2 = i ∧ 0 < childL l i := by
  unfold childL; split <;> omega
theorem dn_heap : ∀ (n : Nat) (l : List V3) (i : Nat), l.length ≤ n + i → DnI l i → Heap (downF n l i) ∧ (downF n l i).Perm l := by
  intro n
  induction n with
  | zero =>
    intro l i h1 h
    exact ⟨fun k h0 hk => h.1 k h0 hk (by have hk2 : k < l.length := hk; omega), List.Perm.refl _⟩
  | succ n ih =>
    intro l i h1 h
    rw [downF]
    split
    · rename_i hc
      obtain ⟨h0, hlt⟩ := hc
      have hq := childL_lt h0
      have hco := child_of (l := l) (i := i)
      have hi : i < l.length := by omega
      rw [ltAt_iff hq.1 hi] at hlt
      have hle := leP_of hlt
      have hlst : ∀ k, 0 < k → k < l.length → (k - 1) / 2 = i → leP (atV l (childL l i)) (atV l k) := fun k a b e => child_least h0 a b e
      generalize childL l i = c at *
      have key : DnI (swapL l i c) c := by
        constructor
        · intro k k0 kl kne
          rw [swapL_len] at kl
          rw [swap_at hi hq.1 (by omega), swap_at hi hq.1 kl, if_neg kne]
          by_cases e1 : (k - 1) / 2 = i
          · rw [if_pos e1]
            by_cases e2 : k = c
            · rw [if_pos e2]; exact hle
            · rw [if_neg e2, if_neg (show ¬ k = i by omega)]; exact hlst k k0 kl e1
          · rw [if_neg e1]
            by_cases e2 : k = i
            · rw [if_neg (show ¬ k = c by omega), if_pos e2]
              rw [e2]
              exact h.2 c hco.2 hq.1 hco.1 (by omega)
            · rw [if_neg (show ¬ k = c by omega), if_neg e2]
              exact h.1 k k0 kl e1
        · intro k k0 kl ke c0
          rw [swapL_len] at kl
          rw [hco.1, swap_at hi hq.1 hi, swap_at hi hq.1 kl, if_neg (show ¬ i = c by omega), if_pos rfl, if_neg (show ¬ k = c by omega), if_neg (show ¬ k = i by omega)]
          have := h.1 k k0 kl (by omega)
          rw [ke] at this
          exact this
      obtain ⟨a, b⟩ := ih _ _ (by rw [swapL_len]; omega) key
      exact ⟨a, b.trans (swap_perm hi hq.1)⟩
    · rename_i hc
      refine ⟨fun k k0 kl => ?_, List.Perm.refl _⟩
      by_cases e : (k - 1) / 2 = i
      · have h0 : 2 * i + 1 < l.length := by omega
        have hq := childL_lt h0
        have h3 := child_least h0 k0 kl e
        rw [e]
        refine leP_trans (leP_of_not fun hl => hc ⟨h0, ?_⟩) h3
        rw [ltAt_iff hq.1 (by omega)]
        exact hl
      · exact h.1 k k0 kl e
theorem rest_row (x : V3) (r : List V3) : ((((x :: r).set 0 ((x :: r).getLast (by simp))).take r.length)).Perm r ∧ ∀ k, 0 < k → k < r.length → atV (((x :: r).set 0 ((x :: r).getLast (by simp))).take r.length) k = atV (x :: r) k := by
  constructor
  · rcases List.eq_nil_or_concat r with rfl | ⟨s, z, rfl⟩
    · simp
    · have e : ((x :: s.concat z).set 0 ((x :: s.concat z).getLast (by simp))).take (s.concat z).length = z :: s := by
        apply List.ext_getElem
        · simp
        · intro k h1 h2
          cases k with
          | zero =>
            simp only [List.getElem_take, List.set_cons_zero, List.getElem_cons_zero, List.concat_eq_append]
            rw [List.getLast_cons (by simp)]
            simp
          | succ k =>
            simp
      rw [e, List.concat_eq_append]
      exact List.perm_append_comm (l₁ := [z]) (l₂ := s)
  · intro k k0 kl
    obtain ⟨j, rfl⟩ : ∃ j, k = j + 1 := ⟨k - 1, by omega⟩
    rw [atV_get (by simp; omega), atV_get (by simp; omega)]
    simp
theorem rest_heap {x : V3} {r : List V3} (h : Heap (x :: r)) : Heap (restL x r) ∧ (restL x r).Perm r := by
  have hr := rest_row x r
  have hl : (((x :: r).set 0 ((x :: r).getLast (by simp))).take r.length).length = r.length := by simp
  unfold restL downL
  obtain ⟨a, b⟩ := dn_heap _ _ 0 (Nat.le_refl _) (show DnI (((x :: r).set 0 ((x :: r).getLast (by simp))).take r.length) 0 from ⟨fun k k0 kl kn => by
    rw [hl] at kl
    rw [hr.2 k k0 kl, hr.2 ((k - 1) / 2) (by omega) (by omega)]
    exact h k k0 (by simp; omega), fun k k0 kl ke h0 => absurd h0 (by omega)⟩)
  exact ⟨a, b.trans hr.1⟩
theorem heap_least {x : V3} {r : List V3} (h : Heap (x :: r)) : ∀ y ∈ x :: r, leP x y := by
  have key : ∀ k, k < (x :: r).length → leP x (atV (x :: r) k) := by
    intro k
    induction k using Nat.strongRecOn with
    | ind k ih =>
      intro hk
      by_cases h0 : k = 0
      · subst h0; exact leP_refl _
      · exact leP_trans (ih ((k - 1) / 2) (by omega) (by omega)) (h k (by omega) hk)
  intro y hy
  obtain ⟨k, hk, rfl⟩ := List.getElem_of_mem hy
  rw [← atV_get hk]
  exact key k hk
theorem heap_one (x : V3) : Heap [x] := fun k h0 hk => by simp at hk; omega

def gC (cs : List C2) (v : Nat) : C2 := (cs[v]?).getD (0, 0)
def ltC (a b : C2) : Prop := a.1 < b.1 ∨ (a.1 = b.1 ∧ a.2 < b.2)
def leC (a b : C2) : Prop := a.1 < b.1 ∨ (a.1 = b.1 ∧ a.2 ≤ b.2)
theorem cmpC_iff (a b : C2) : cmpC a b < 0 ↔ ltC a b := by
  unfold cmpC cmpI ltC
  repeat' split
  all_goals omega
theorem gC_set {cs : List C2} {k u : Nat} {c : C2} (hk : k < cs.length) : gC (cs.set k c) u = if u = k then c else gC cs u := by
  unfold gC
  by_cases h : u = k
  · subst h; rw [if_pos rfl]; simp [hk]
  · rw [if_neg h, List.getElem?_set_ne (Ne.symm h)]
theorem costAt_nat (cs : List C2) (u : Nat) : costAt cs (u : Int) = gC cs u := by
  unfold costAt gC
  rw [Int.toNat_natCast, List.getD_eq_getElem?_getD]
theorem v3_ext {a b : V3} (h1 : a.l = b.l) (h2 : a.m = b.m) (h3 : a.v = b.v) : a = b := by
  cases a; cases b; simp at *; exact ⟨h1, h2, h3⟩

/-- what holds of costs and a pile, when the moves in Q are through, of which Rel says which neighbors have been looked at -/
structure DI (M : Nat) (bl bm : Int) (ln : Int → Int) (lo : C2) (t : Nat) (Q : List Nat) (Rel : Nat → Int → Prop) (cs : List C2) (it : List V3) : Prop where
  len : cs.length = M
  heap : Heap it
  nd : it.Nodup
  ok : ∀ y ∈ it, ∃ v : Nat, y.v = v ∧ v < M ∧ 0 ≤ (gC cs v).1 ∧ leC (gC cs v) (y.l, y.m)
  bd : ∀ y ∈ it, 0 ≤ y.l ∧ y.l ≤ bl ∧ 0 ≤ y.m ∧ y.m ≤ bm
  low : ∀ y ∈ it, leC lo (y.l, y.m)
  qn : Q.Nodup
  don : ∀ u ∈ Q, u < M ∧ 0 ≤ (gC cs u).1 ∧ leC (gC cs u) lo ∧ ∀ y ∈ it, y.v = (u : Int) → (y.l, y.m) ≠ gC cs u
  rel : ∀ u b, Rel u b → u ∈ Q ∧ ∃ w : Nat, b = w ∧ w < M ∧ 0 ≤ (gC cs w).1 ∧ leC (gC cs w) ((gC cs u).1 + ln ((u : Int) / 2), (gC cs u).2 + 1)
  lab : ∀ u, u < M → 0 ≤ (gC cs u).1 → u ∈ Q ∨ ⟨(gC cs u).1, (gC cs u).2, (u : Int)⟩ ∈ it
  tgt : t < M ∧ 0 ≤ (gC cs t).1 ∧ leC (gC cs t) (0, 0)

theorem relax_yes {k : Nat} {c : C2} {cs : List C2} {it : List V3} {cl : List Bool} (hcl : shutAt cl (k : Int) = false) (h : (gC cs k).1 < 0 ∨ ltC c (gC cs k)) :
    Go.Proofs.YtcpanfpijljeaaaGreat.relax cl c (cs, it) (k : Int) = (cs.set k c, putL it ⟨c.1, c.2, (k : Int)⟩) := by
  unfold Go.Proofs.YtcpanfpijljeaaaGreat.relax
  rw [if_pos]
  · simp
  · refine ⟨hcl, ?_⟩
    show (costAt cs (k : Int)).1 < 0 ∨ cmpC c (costAt cs (k : Int)) < 0
    rw [costAt_nat, cmpC_iff]; exact h
theorem relax_no {k : Nat} {c : C2} {cs : List C2} {it : List V3} {cl : List Bool} (h : ¬ ((gC cs k).1 < 0 ∨ ltC c (gC cs k))) :
    Go.Proofs.YtcpanfpijljeaaaGreat.relax cl c (cs, it) (k : Int) = (cs, it) := by
  unfold Go.Proofs.YtcpanfpijljeaaaGreat.relax
  rw [if_neg]
  rintro ⟨_, h2⟩
  apply h
  change (costAt cs (k : Int)).1 < 0 ∨ cmpC c (costAt cs (k : Int)) < 0 at h2
  rw [costAt_nat, cmpC_iff] at h2; exact h2
theorem DI.relax {M t k v : Nat} {bl bm : Int} {ln : Int → Int} {lo c : C2} {Q : List Nat} {Rel : Nat → Int → Prop} {cs : List C2} {it : List V3} {cl : List Bool}
    (h : DI M bl bm ln lo t Q Rel cs it) (hcl : shutAt cl (k : Int) = false) (hk : k < M) (hv : v ∈ Q) (hvl : gC cs v = lo) (hc1 : c = (lo.1 + ln ((v : Int) / 2), lo.2 + 1)) (hlc : ltC lo c) (h0 : 0 ≤ c.1 ∧ 0 ≤ c.2) (hb : c.1 ≤ bl ∧ c.2 ≤ bm) :
    DI M bl bm ln lo t Q (fun u b => Rel u b ∨ (u = v ∧ b = (k : Int))) (relax cl c (cs, it) (k : Int)).1 (relax cl c (cs, it) (k : Int)).2 ∧ gC (relax cl c (cs, it) (k : Int)).1 v = lo ∧ (relax cl c (cs, it) (k : Int)).2.length ≤ it.length + 1 := by
  by_cases ht : (gC cs k).1 < 0 ∨ ltC c (gC cs k)
  · rw [relax_yes hcl ht]
    have hkl : k < cs.length := by rw [h.len]; exact hk
    have hkQ : k ∉ Q := fun hq => by
      have h1 := h.don k hq
      have h2 := h1.2.2.1
      unfold leC at h2; unfold ltC at ht hlc
      omega
    have hne : ∀ u ∈ Q, u ≠ k := fun u hu e => hkQ (e ▸ hu)
    have hp := put_heap ⟨c.1, c.2, (k : Int)⟩ h.heap
    have hmem : ∀ y, y ∈ putL it ⟨c.1, c.2, (k : Int)⟩ ↔ y = ⟨c.1, c.2, (k : Int)⟩ ∨ y ∈ it := fun y => by rw [hp.2.mem_iff, List.mem_cons]
    have hnew : (⟨c.1, c.2, (k : Int)⟩ : V3) ∉ it := fun hm => by
      obtain ⟨u, e, _, a, b⟩ := h.ok _ hm
      have e' : (k : Int) = (u : Int) := e
      obtain rfl : k = u := by omega
      unfold leC at b; unfold ltC at ht
      simp at b
      omega
    refine ⟨⟨by simp [h.len], hp.1, ?_, ?_, ?_, ?_, h.qn, ?_, ?_, ?_, ?_⟩, ?_, by rw [putL_len]; omega⟩
    · exact hp.2.nodup_iff.2 (List.nodup_cons.2 ⟨hnew, h.nd⟩)
    · intro y hy
      rcases (hmem y).1 hy with rfl | hy
      · exact ⟨k, rfl, hk, by rw [gC_set hkl, if_pos rfl]; exact h0.1, by rw [gC_set hkl, if_pos rfl]; unfold leC; simp⟩
      · obtain ⟨u, e, a1, a2, a3⟩ := h.ok y hy
        refine ⟨u, e, a1, ?_⟩
        rw [gC_set hkl]
        by_cases e2 : u = k
        · subst e2
          rw [if_pos rfl]
          refine ⟨h0.1, ?_⟩
          unfold leC at *; unfold ltC at ht
          simp only at *
          omega
        · rw [if_neg e2]; exact ⟨a2, a3⟩
    · intro y hy
      rcases (hmem y).1 hy with rfl | hy
      · exact ⟨h0.1, hb.1, h0.2, hb.2⟩
      · exact h.bd y hy
    · intro y hy
      rcases (hmem y).1 hy with rfl | hy
      · unfold ltC at hlc; unfold leC; simp only; omega
      · exact h.low y hy
    · intro u hu
      obtain ⟨a1, a2, a3, a4⟩ := h.don u hu
      rw [gC_set hkl, if_neg (hne u hu)]
      refine ⟨a1, a2, a3, fun y hy e => ?_⟩
      rcases (hmem y).1 hy with rfl | hy
      · exact absurd (show k = u by have e' : (k : Int) = (u : Int) := e; omega) (Ne.symm (hne u hu))
      · exact a4 y hy e
    · rintro u b (hr | ⟨rfl, rfl⟩)
      · obtain ⟨a1, w, a2, a3, a4, a5⟩ := h.rel u b hr
        refine ⟨a1, w, a2, a3, ?_⟩
        rw [gC_set hkl, gC_set (u := u) hkl, if_neg (hne u a1)]
        by_cases e2 : w = k
        · subst e2
          rw [if_pos rfl]
          refine ⟨h0.1, ?_⟩
          unfold leC at *; unfold ltC at ht
          simp only at *
          omega
        · rw [if_neg e2]; exact ⟨a4, a5⟩
      · refine ⟨hv, k, rfl, hk, ?_⟩
        rw [gC_set hkl, gC_set (u := u) hkl, if_neg (hne u hv), if_pos rfl, hvl, hc1]
        refine ⟨by rw [hc1] at h0; exact h0.1, by unfold leC; simp⟩
    · intro u hu hp0
      rw [gC_set hkl] at hp0 ⊢
      by_cases e2 : u = k
      · subst e2
        rw [if_pos rfl]
        exact .inr ((hmem _).2 (.inl rfl))
      · rw [if_neg e2] at hp0 ⊢
        rcases h.lab u hu hp0 with a | a
        · exact .inl a
        · exact .inr ((hmem _).2 (.inr a))
    · obtain ⟨a1, a2, a3⟩ := h.tgt
      refine ⟨a1, ?_⟩
      rw [gC_set hkl]
      by_cases e2 : t = k
      · subst e2
        rw [if_pos rfl]
        refine ⟨h0.1, ?_⟩
        unfold leC at *; unfold ltC at ht
        simp only at *
        omega
      · rw [if_neg e2]; exact ⟨a2, a3⟩
    · rw [gC_set hkl, if_neg (hne v hv)]; exact hvl
  · rw [relax_no ht]
    refine ⟨⟨h.len, h.heap, h.nd, h.ok, h.bd, h.low, h.qn, h.don, ?_, h.lab, h.tgt⟩, hvl, by simp⟩
    rintro u b (hr | ⟨rfl, rfl⟩)
    · exact h.rel u b hr
    · refine ⟨hv, k, rfl, hk, ?_⟩
      rw [hvl]
      unfold ltC at ht
      rw [hc1] at ht
      unfold leC
      simp only at *
      omega
theorem DI.wk {M t : Nat} {bl bm bl' bm' : Int} {ln : Int → Int} {lo : C2} {Q : List Nat} {Rel Rel' : Nat → Int → Prop} {cs : List C2} {it : List V3} (h : DI M bl bm ln lo t Q Rel cs it)
    (h1 : bl ≤ bl') (h2 : bm ≤ bm') (hr : ∀ u b, Rel' u b → Rel u b) : DI M bl' bm' ln lo t Q Rel' cs it :=
  ⟨h.len, h.heap, h.nd, h.ok, fun y hy => by have := h.bd y hy; omega, h.low, h.qn, h.don, fun u b hb => h.rel u b (hr u b hb), h.lab, h.tgt⟩
theorem DI.relaxes {M t v : Nat} {bl bm : Int} {ln : Int → Int} {lo c : C2} {Q : List Nat} {cl : List Bool} (hcl : ∀ b, shutAt cl b = false) (hv : v ∈ Q) (hc1 : c = (lo.1 + ln ((v : Int) / 2), lo.2 + 1)) (hlc : ltC lo c) (h0 : 0 ≤ c.1 ∧ 0 ≤ c.2) (hb : c.1 ≤ bl ∧ c.2 ≤ bm) :
    ∀ (L : List Int) (Rel : Nat → Int → Prop) (cs : List C2) (it : List V3), (∀ b ∈ L, ∃ k : Nat, b = k ∧ k < M) → DI M bl bm ln lo t Q Rel cs it → gC cs v = lo →
    DI M bl bm ln lo t Q (fun u b => Rel u b ∨ (u = v ∧ b ∈ L)) (L.foldl (Go.Proofs.YtcpanfpijljeaaaGreat.relax cl c) (cs, it)).1 (L.foldl (Go.Proofs.YtcpanfpijljeaaaGreat.relax cl c) (cs, it)).2 ∧ (L.foldl (Go.Proofs.YtcpanfpijljeaaaGreat.relax cl c) (cs, it)).2.length ≤ it.length + L.length := by
  intro L
  induction L with
  | nil => exact fun Rel cs it _ h _ => ⟨h.wk (Int.le_refl _) (Int.le_refl _) fun u b hb => by simpa using hb, by simp⟩
  | cons b L ih =>
    intro Rel cs it hL h hvl
    obtain ⟨k, rfl, hk⟩ := hL b (by simp)
    obtain ⟨a1, a2, a3⟩ := h.relax (hcl k) hk hv hvl hc1 hlc h0 hb
    obtain ⟨b1, b2⟩ := ih _ _ _ (fun z hz => hL z (by simp [hz])) a1 a2
    rw [List.foldl_cons]
    refine ⟨b1.wk (Int.le_refl _) (Int.le_refl _) fun u b hb => ?_, by
      simp only [List.length_cons]
      exact Nat.le_trans b2 (by omega)⟩
    rcases hb with hb | ⟨rfl, hb⟩
    · exact .inl (.inl hb)
    · rcases List.mem_cons.1 hb with rfl | hb
      · exact .inl (.inr ⟨rfl, rfl⟩)
      · exact .inr ⟨rfl, hb⟩
/-- an item that is out of date is left out -/
theorem DI.skip {M t : Nat} {bl bm : Int} {ln : Int → Int} {lo : C2} {Q : List Nat} {Rel : Nat → Int → Prop} {cs : List C2} {x : V3} {r : List V3} (h : DI M bl bm ln lo t Q Rel cs (x :: r)) (hne : ¬ (x.l, x.m) = costAt cs x.v) :
    DI M bl bm ln lo t Q Rel cs (restL x r) := by
  have hp := rest_heap h.heap
  have hmem : ∀ y, y ∈ restL x r ↔ y ∈ r := fun y => hp.2.mem_iff
  refine ⟨h.len, hp.1, hp.2.nodup_iff.2 (List.nodup_cons.1 h.nd).2, fun y hy => h.ok y (by simp [(hmem y).1 hy]), fun y hy => h.bd y (by simp [(hmem y).1 hy]), fun y hy => h.low y (by simp [(hmem y).1 hy]), h.qn, fun u hu => ?_, h.rel, fun u hu hp0 => ?_, h.tgt⟩
  · obtain ⟨a1, a2, a3, a4⟩ := h.don u hu
    exact ⟨a1, a2, a3, fun y hy => a4 y (by simp [(hmem y).1 hy])⟩
  · rcases h.lab u hu hp0 with a | a
    · exact .inl a
    · rcases List.mem_cons.1 a with rfl | a
      · exact absurd (by rw [costAt_nat]) hne
      · exact .inr ((hmem _).2 a)
/-- the least item is the cost of a move: it is through -/
theorem DI.take {M t : Nat} {bl bm : Int} {ln : Int → Int} {lo : C2} {Q : List Nat} {Rel : Nat → Int → Prop} {cs : List C2} {x : V3} {r : List V3} {v : Nat} (h : DI M bl bm ln lo t Q Rel cs (x :: r)) (hv : x.v = (v : Int)) (he : (x.l, x.m) = gC cs v) :
    DI M bl bm ln (x.l, x.m) t (v :: Q) Rel cs (restL x r) ∧ v ∉ Q := by
  have hp := rest_heap h.heap
  have hmem : ∀ y, y ∈ restL x r ↔ y ∈ r := fun y => hp.2.mem_iff
  have hnd := List.nodup_cons.1 h.nd
  have hnQ : v ∉ Q := fun hq => (h.don v hq).2.2.2 x (by simp) hv he
  have hx := h.low x (by simp)
  obtain ⟨v', e1, e2, e3, _⟩ := h.ok x (by simp)
  obtain rfl : v = v' := by omega
  refine ⟨⟨h.len, hp.1, hp.2.nodup_iff.2 hnd.2, fun y hy => h.ok y (by simp [(hmem y).1 hy]), fun y hy => h.bd y (by simp [(hmem y).1 hy]), fun y hy => ?_, List.nodup_cons.2 ⟨hnQ, h.qn⟩, fun u hu => ?_, fun u b hr => ?_, fun u hu hp0 => ?_, h.tgt⟩, hnQ⟩
  · have := heap_least h.heap y (by simp [(hmem y).1 hy])
    unfold leP at this; unfold leC; exact this
  · rcases List.mem_cons.1 hu with rfl | hu
    · refine ⟨e2, e3, by rw [← he]; unfold leC; simp, fun y hy e hh => ?_⟩
      have hy' := (hmem y).1 hy
      rw [← he] at hh
      have : y = x := v3_ext (by simpa using congrArg Prod.fst hh) (by simpa using congrArg Prod.snd hh) (by rw [e, hv])
      exact hnd.1 (this ▸ hy')
    · obtain ⟨a1, a2, a3, a4⟩ := h.don u hu
      refine ⟨a1, a2, ?_, fun y hy => a4 y (by simp [(hmem y).1 hy])⟩
      unfold leC at *; simp only at *; omega
  · obtain ⟨a, b⟩ := h.rel u b hr
    exact ⟨by simp [a], b⟩
  · rcases h.lab u hu hp0 with a | a
    · exact .inl (by simp [a])
    · rcases List.mem_cons.1 a with rfl | a
      · left
        have : u = v := by have e' : (u : Int) = (v : Int) := hv; omega
        simp [this]
      · exact .inr ((hmem _).2 a)
theorem nodup_le {M : Nat} : ∀ {Q : List Nat}, Q.Nodup → (∀ u ∈ Q, u < M) → Q.length ≤ M := by
  intro Q h1 h2
  have := h1.length_le_of_subset (l₂ := List.range M) fun u hu => List.mem_range.2 (h2 u hu)
  simpa using this
/-- what the search leaves -/
structure Fin (M t : Nat) (ln : Int → Int) (bef : Nat → List Int) (cs : List C2) : Prop where
  len : cs.length = M
  tgt : t < M ∧ 0 ≤ (gC cs t).1 ∧ leC (gC cs t) (0, 0)
  rel : ∀ u, u < M → 0 ≤ (gC cs u).1 → ∀ b ∈ bef u, ∃ w : Nat, b = w ∧ w < M ∧ 0 ≤ (gC cs w).1 ∧ leC (gC cs w) ((gC cs u).1 + ln ((u : Int) / 2), (gC cs u).2 + 1)
theorem search_ends {M D t : Nat} {Wm : Int} {ln : Int → Int} {bef : Nat → List Int} {cl : List Bool} (hcl : ∀ b, shutAt cl b = false) (hln : ∀ z, 0 ≤ ln z ∧ ln z ≤ Wm) (hbf : ∀ u, u < M → (bef u).length ≤ D ∧ ∀ b ∈ bef u, ∃ k : Nat, b = k ∧ k < M)
    (hsz : 1 + M * D ≤ 1000000) (hW : (M : Int) * Wm ≤ 1000000000000000) (hM : M ≤ 1000000) :
    ∀ (n : Nat) (lo : C2) (Q : List Nat) (cs : List C2) (it : List V3), it.length + (M - Q.length) * D ≤ n → it.length + (M - Q.length) * D ≤ 1 + M * D →
    DI M ((Q.length : Int) * Wm) Q.length ln lo t Q (fun u b => u ∈ Q ∧ b ∈ bef u) cs it → ∃ res, search ln bef cl (n + 1) cs it = some res ∧ Fin M t ln bef res := by
  intro n
  induction n with
  | zero =>
    intro lo Q cs it h1 _ h
    have : it = [] := List.eq_nil_of_length_eq_zero (by omega)
    subst this
    refine ⟨cs, by simp [search], h.len, h.tgt, fun u hu hp0 b hb => ?_⟩
    rcases h.lab u hu hp0 with a | a
    · exact (h.rel u b ⟨a, hb⟩).2
    · cases a
  | succ n ih =>
    intro lo Q cs it h1 h2 h
    cases it with
    | nil =>
      refine ⟨cs, by simp [search], h.len, h.tgt, fun u hu hp0 b hb => ?_⟩
      rcases h.lab u hu hp0 with a | a
      · exact (h.rel u b ⟨a, hb⟩).2
      · cases a
    | cons x r =>
      simp only [List.length_cons] at h1 h2
      rw [search, if_neg (by omega)]
      by_cases he : (x.l, x.m) = costAt cs x.v
      · rw [if_pos he]
        obtain ⟨v, e1, e2, e3, _⟩ := h.ok x (by simp)
        have hbx := h.bd x (by simp)
        rw [e1, costAt_nat] at he
        obtain ⟨hT, hnQ⟩ := h.take e1 he
        have hQM : Q.length + 1 ≤ M := by
          have := nodup_le hT.qn fun u hu => (hT.don u hu).1
          simpa using this
        have hl := hln ((v : Int) / 2)
        have hQW : ((Q.length : Int) + 1) * Wm ≤ (M : Int) * Wm := Int.mul_le_mul_of_nonneg_right (by omega) (by omega)
        have hQ1 : ((Q.length : Int) + 1) * Wm = (Q.length : Int) * Wm + Wm := by rw [Int.add_mul, Int.one_mul]
        rw [e1, if_neg (by omega)]
        have hb := hbf v e2
        obtain ⟨k1, k2⟩ := DI.relaxes (t := t) (bl := ((Q.length : Int) + 1) * Wm) (bm := (Q.length : Int) + 1) (c := (x.l + ln ((v : Int) / 2), x.m + 1)) hcl (v := v) (Q := v :: Q) (by simp) rfl (by unfold ltC; simp only; omega) (by simp only; omega) (by simp only; omega)
          (bef v) _ _ _ hb.2 (hT.wk (by omega) (by omega) fun u b hb => hb) he.symm
        simp only [Int.toNat_natCast]
        have hmul : (M - Q.length) * D = (M - (Q.length + 1)) * D + D := by
          rw [show M - Q.length = (M - (Q.length + 1)) + 1 by omega, Nat.add_mul, Nat.one_mul]
        rw [restL_len] at k2
        refine ih (x.l, x.m) (v :: Q) _ _ ?_ ?_ ?_
        · simp only [List.length_cons]; omega
        · simp only [List.length_cons]; omega
        · simp only [List.length_cons, Int.natCast_add, Int.cast_ofNat_Int]
          clear hb
          refine k1.wk (Int.le_refl _) (Int.le_refl _) fun u b hh => ?_
          rcases hh with ⟨hu, hb⟩
          rcases List.mem_cons.1 hu with rfl | hu
          · exact .inr ⟨rfl, hb⟩
          · exact .inl ⟨hu, hb⟩
      · rw [if_neg he]
        refine ih lo Q cs _ ?_ ?_ (h.skip he)
        · rw [restL_len]; omega
        · rw [restL_len]; omega
theorem gC_rep {M u : Nat} (h : u < M) : gC (List.replicate M (-1, 0)) u = (-1, 0) := by simp [gC, h]
theorem costs_end {M D t : Nat} {Wm : Int} {ln : Int → Int} {bef : Nat → List Int} {cl : List Bool} (hcl : ∀ b, shutAt cl b = false) (hln : ∀ z, 0 ≤ ln z ∧ ln z ≤ Wm) (hbf : ∀ u, u < M → (bef u).length ≤ D ∧ ∀ b ∈ bef u, ∃ k : Nat, b = k ∧ k < M)
    (hsz : 1 + M * D ≤ 1000000) (hW : (M : Int) * Wm ≤ 1000000000000000) (hM : M ≤ 1000000) (ht : t < M) : ∃ n res, costsL ln bef cl M t n = some res ∧ Fin M t ln bef res := by
  have hs := search_ends hcl hln hbf hsz hW hM (t := t) (1 + M * D) (0, 0) [] ((List.replicate M (-1, 0)).set t (0, 0)) [⟨0, 0, t⟩] (by simp) (by simp) (by
    have hl : t < (List.replicate M ((-1, 0) : C2)).length := by simpa using ht
    refine ⟨by simp, heap_one _, by simp, ?_, ?_, ?_, List.nodup_nil, (fun u hu => by cases hu), (fun u b hu => by cases hu.1), ?_, ⟨ht, ?_, ?_⟩⟩
    · intro y hy
      obtain rfl : y = ⟨0, 0, t⟩ := by simpa using hy
      refine ⟨t, rfl, ht, ?_, ?_⟩ <;> rw [gC_set hl, if_pos rfl] <;> simp [leC]
    · intro y hy
      obtain rfl : y = ⟨0, 0, t⟩ := by simpa using hy
      simp
    · intro y hy
      obtain rfl : y = ⟨0, 0, t⟩ := by simpa using hy
      simp [leC]
    · intro u hu hp0
      rw [gC_set hl] at hp0 ⊢
      by_cases e : u = t
      · subst e; simp
      · rw [if_neg e, gC_rep hu] at hp0; simp at hp0
    · rw [gC_set hl, if_pos rfl]; simp
    · rw [gC_set hl, if_pos rfl]; simp [leC])
  obtain ⟨res, h1, h2⟩ := hs
  refine ⟨1 + M * D + 1, res, ?_, h2⟩
  unfold costsL
  rw [if_neg, h1]
  have := hcl (t : Int)
  unfold shutAt at this
  rw [Int.toNat_natCast] at this
  rw [this]
  simp
/-- a way is not shorter than what the search says -/
theorem Fin.way {M t : Nat} {ln : Int → Int} {bef : Nat → List Int} {cs : List C2} (h : Fin M t ln bef cs) :
    ∀ (l : List Nat) (m : Nat), (∀ x ∈ m :: l, x < M) → (∀ i (hi : i < l.length), (((m :: l)[i]'(by simp; omega) : Nat) : Int) ∈ bef l[i]) → (m :: l).getLast (by simp) = t →
    0 ≤ (gC cs m).1 ∧ (gC cs m).1 ≤ (l.map fun x : Nat => ln ((x : Int) / 2)).sum := by
  intro l
  induction l with
  | nil =>
    intro m _ _ he
    obtain rfl : m = t := by simpa using he
    have := h.tgt.2
    unfold leC at this
    simp only [List.map_nil, List.sum_nil]
    simp only at this
    omega
  | cons n l ih =>
    intro m hm hb he
    obtain ⟨a1, a2⟩ := ih n (fun x hx => hm x (List.mem_cons_of_mem _ hx)) (fun i hi => by
      have := hb (i + 1) (by simp; omega)
      simpa using this) (by rw [← he]; exact (List.getLast_cons (by simp)).symm)
    obtain ⟨w, e, _, b1, b2⟩ := h.rel n (hm n (by simp)) a1 m (hb 0 (by simp))
    obtain rfl : m = w := by omega
    refine ⟨b1, ?_⟩
    rw [List.map_cons, List.sum_cons]
    unfold leC at b2
    simp only at b2
    omega
end Go.Proofs.YtcpanfpijljeaaaGreat
namespace Go.Proofs.YtcpanfpijljeaaaGreat
set_option linter.unusedVariables false
set_option linter.unusedSimpArgs false
open Go.RowKit

open Go in
theorem hTake {P : Program} {ops : Array Oper} {Q : Exit → Act → World → Prop} {md : Region.Mode} {S : World → Prop} {i : Nat} {d : Tmp} {oi : Oper} {v : Value} {fuel : Nat} {listed : Array Bool} {a : Act} {w : World} (hi : ops[i]? = some oi) (hd : oi.dst = some d)
    (hs : Region.noSelect ops = true) (hf : Region.free md ops listed i = true) (hr : (Region.ready md ops listed).contains i = true)
    (hQ : ∀ c a w, Q (.panic c) (a.put (some d) v) w → Q (.panic c) a w) (hy : YieldsIf P ops S oi v a) (hS : S w)
    (h : wpAnyH P md ops Q S fuel (listed.setIfInBounds i true) (a.put (some d) v) w) : wpAnyH P md ops Q S (fuel + 1) listed a w :=
  wpAnyH_take hi hs hf hr (by rw [hd]; exact hQ) hy hS (by rw [hd]; exact h)

set_option maxHeartbeats 1000000 in
theorem rNumber_any (r : Int) (l : Bool) (w : World) (h0 : 0 ≤ r) (h1 : r ≤ 1000000) :
    Calls Tryz.prog 34 #[.agg #[.int .i64 r, .bool l]] w fun e w' => e = .returned (.int .i64 (endNo ⟨r, l⟩)) ∧ Below w.heap.size w w' := by
  cases l
  · go_enter Tryz.func34, Tryz.ntmps34
    go_wp2
    go_ret
    exact ⟨rfl, (Below.refl _ _).alloc (Nat.le_refl _) _⟩
  · go_enter Tryz.func34, Tryz.ntmps34
    go_wp2
    go_ret
    exact ⟨rfl, (Below.refl _ _).alloc (Nat.le_refl _) _⟩

def WLPost (p : Pl) (l : List E) (w : World) (e : Ending) (w' : World) : Prop :=
  ((Vld p ∧ wayOk p l ∧ e = .returned (.tuple #[.int .i64 (wlen p (l.map endNo)), .int .i64 0])) ∨ (¬ (Vld p ∧ wayOk p l) ∧ e = .returned (.tuple #[.int .i64 0, .int .i64 2]))) ∧ Below w.heap.size w w'
set_option maxRecDepth 100000 in
set_option maxHeartbeats 1000000 in
theorem WayLength_any (A0 A20 A : Option Addr) (c0 c20 c : Nat) (p : Pl) (l : List E) (w : World) (hP : PlAt w w.heap.size A0 c0 A20 c20 p) (hA : Sl w w.heap.size 2 CE A l) (hl : l.length ≤ 140737488351232) :
    Calls Tryz.prog 15 #[.agg #[.slice A0 p.nodes.length c0, .slice A20 p.rails.length c20], .slice A l.length c] w (WLPost p l w) := by
  have HP := Lib.hid (hP.box (.cells #[.slice A0 p.nodes.length c0, .slice A20 p.rails.length c20] 25))
  have hB0 := (Below.refl w.heap.size w).alloc (Nat.le_refl _) (.cells #[.slice A0 p.nodes.length c0, .slice A20 p.rails.length c20] 25)
  have HA := Lib.hid ((hA.below hB0).more (fun _ _ h => h) hB0.size)
  have HB0 := Lib.hid hB0
  clear hP hA hB0
  go_enter Tryz.func15, Tryz.ntmps15
  go_wp2_with fail
  refine (surveyWay_any A0 A20 A c0 c20 c p l _ HP.out HA.out hl).mono ?_
  rintro e w1 ⟨⟨hv, hw, g, v, rfl, hN, ho⟩ | ⟨hw, x, rfl⟩, hb⟩
  · have HV := Lib.hid hv; have HW := Lib.hid hw; have HN := Lib.hid hN
    have HB := Lib.hid (HB0.out.trans (hb.mono (by simp)))
    have hl2 : (l.map endNo).length ≤ 100000 := by have := hw.2.1; simp; omega
    have hR : ∀ x ∈ l.map endNo, 0 ≤ x ∧ x < 2 * (p.rails.length : Int) := fun x hx => by
      obtain ⟨m, hm, rfl⟩ := List.mem_map.1 hx
      obtain ⟨j, hj, rfl⟩ := List.getElem_of_mem hm
      have h3 := (hw.2.2 j hj).1
      rw [E1_eq hj] at h3
      have h4 := key_lt h3
      omega
    have HW2 := Lib.hid (show Vld p ∧ wayOk p l from ⟨hv, hw⟩)
    obtain ⟨q, hq⟩ : ∃ q, l.map endNo = q := ⟨_, rfl⟩
    rw [hq] at ho hl2 hR
    obtain ⟨B, d, rfl, _, _, _⟩ := ho.form
    have HS := Lib.hid ((fI_CI (ho.sl fI_len rfl)).keep (w' := w1) (fun _ _ h => h) fun _ _ => rfl)
    have HR := Lib.hid hR
    have HQ := Lib.hid hq
    clear hv hw hN hb ho hR hq
    go_wp2_with fail
    refine (wayLength_any _ g p B q d _ HN.out HS.out hl2 HR.out).mono ?_
    rintro e w2 ⟨rfl, rfl⟩
    go_wp2
    go_ret2
    exact ⟨.inl ⟨HV.out, HW.out, by rw [HQ.out]; rfl⟩, HB.out⟩
  · have HW := Lib.hid hw
    have HB := Lib.hid (HB0.out.trans (hb.mono (by simp)))
    clear hw hb
    go_wp2
    go_ret2
    exact ⟨.inr ⟨HW.out, rfl⟩, HB.out⟩

def WayB (p : Pl) (l : List E) (e : Ending) : Prop := ∃ b, e = .returned (.bool b) ∧ (b = true ↔ wayOk p l)
def RWayPost (p : Pl) (l : List E) (w : World) (e : Ending) (w' : World) : Prop := WayB p l e ∧ Below w.heap.size w w'
set_option maxRecDepth 100000 in
set_option maxHeartbeats 4000000 in
theorem rWay_any (A A2 A3 : Option Addr) (c c2 c3 : Nat) (p : Pl) (l : List E) (w : World) (hP : PlAt w w.heap.size A c A2 c2 p) (hv : Vld p) (hA : Sl w w.heap.size 2 CE A3 l) (hl : l.length ≤ 140737488351232) :
    Calls Tryz.prog 24 #[.agg #[.slice A p.nodes.length c, .slice A2 p.rails.length c2], .slice A3 l.length c3] w (RWayPost p l w) := by
  have HP1 := Lib.hid (hP.box (.cells #[.slice A p.nodes.length c, .slice A2 p.rails.length c2] 25))
  have hB0 := (Below.refl w.heap.size w).alloc (Nat.le_refl _) (.cells #[.slice A p.nodes.length c, .slice A2 p.rails.length c2] 25)
  have HA := Lib.hid ((hA.below hB0).more (fun _ _ h => h) hB0.size)
  have HX := Lib.hid (show ∀ j : Nat, (w.alloc (.cells #[.slice A p.nodes.length c, .slice A2 p.rails.length c2] 25)).cell? ⟨w.heap.size, j, none⟩ = #[.slice A p.nodes.length c, .slice A2 p.rails.length c2][j]? from fun j => cell_new1 w _ 25 j)
  have hz3 : (w.alloc (.cells #[.slice A p.nodes.length c, .slice A2 p.rails.length c2] 25)).heap.size = w.heap.size + 1 := by simp
  have HV := Lib.hid hv
  have HB0 := Lib.hid hB0
  clear hP hv hA hB0
  go_enter Tryz.func24, Tryz.ntmps24
  go_wp2
  generalize w.alloc (.cells #[.slice A p.nodes.length c, .slice A2 p.rails.length c2] 25) = W1 at *
  go_loopw [5] (fun i wr => ∃ k : Nat, k ≤ l.length ∧ i = .int .i64 k ∧ wayTo p l k ∧ Below W1.heap.size W1 wr) (fun i _ => l.length - (intOf i).toNat)
  case atStart => exact ⟨0, Nat.zero_le _, rfl, fun j hj => absurd hj (by omega), Below.refl _ _⟩
  case round =>
    obtain ⟨k, hk, rfl, hw, hb⟩ := hrel
    have hzw := hb.size
    have ha0 : w.heap.size < W1.heap.size := by omega
    have k0 := (hb.cell (p := ⟨w.heap.size, 0, none⟩) ha0).trans (HX.out 0)
    have k1 := (hb.cell (p := ⟨w.heap.size, 1, none⟩) ha0).trans (HX.out 1)
    simp only [List.getElem?_toArray, List.getElem?_cons_zero, List.getElem?_cons_succ] at k0 k1
    have HPw := Lib.hid ((HP1.out.below hb).more hzw)
    have HAw := Lib.hid ((HA.out.below hb).more (fun _ _ h => h) hzw)
    have HB := Lib.hid hb; have HW := Lib.hid hw
    clear hb hw
    have hr0 : w.heap.size < wr.heap.size := by omega
    by_cases hlt : k < l.length
    · have hlt2 : (k : Int) < (l.length : Int) := by omega
      have hk0 : (0 : Int) ≤ (k : Int) := by omega
      obtain ⟨b1, o1, e1, g1, q0, q1⟩ := end_at HAw.out hlt
      obtain ⟨⟨mr, ml⟩, hx⟩ : ∃ x, l[k] = x := ⟨_, rfl⟩
      have HXk := Lib.hid (show E1' l k = ⟨mr, ml⟩ by rw [E1_eq hlt]; exact hx)
      rw [hx] at q0 q1
      subst e1
      clear hx
      cases hr : railIn p mr
      · have HR := Lib.hid (show ¬ wayOk p l from fun h => by have := (h.2.2 k hlt).1; rw [HXk.out] at this; rw [hr] at this; cases this)
        have HRM := Lib.hid hr
        clear hr
        go_upto_region 4 with (fail)
        go_cut [36] from 6 to 36 (fun s36 wx => s36 = .bool true ∧ Below wr.heap.size wr wx)
        case first =>
          have hbq : Below wr.heap.size wr wr.drew := (Below.refl _ _).drew
          have HS := Lib.hid (show (fun w' => w'.cell? ⟨w.heap.size, 0, none⟩ = some (.slice A p.nodes.length c) ∧ w'.cell? ⟨w.heap.size, 1, none⟩ = some (.slice A2 p.rails.length c2) ∧ w'.cell? ⟨b1, o1 + k * 2, none⟩ = some (.int .i64 mr) ∧ w'.cell? ⟨b1, o1 + k * 2 + 1, none⟩ = some (.bool ml)) wr.drew from ⟨(hbq.cell (p := ⟨w.heap.size, 0, none⟩) hr0).trans k0, (hbq.cell (p := ⟨w.heap.size, 1, none⟩) hr0).trans k1, (hbq.cell (p := ⟨b1, o1 + k * 2, none⟩) g1).trans q0, (hbq.cell (p := ⟨b1, o1 + k * 2 + 1, none⟩) g1).trans q1⟩)
          refine wp_region_held_drew (S := (fun w' => w'.cell? ⟨w.heap.size, 0, none⟩ = some (.slice A p.nodes.length c) ∧ w'.cell? ⟨w.heap.size, 1, none⟩ = some (.slice A2 p.rails.length c2) ∧ w'.cell? ⟨b1, o1 + k * 2, none⟩ = some (.int .i64 mr) ∧ w'.cell? ⟨b1, o1 + k * 2 + 1, none⟩ = some (.bool ml))) (by kernel_rfl) HS.out (fun _ => ?_)
          refine hTake (i := 0) (d := 12) (v := .agg #[.slice A p.nodes.length c, .slice A2 p.rails.length c2]) rfl rfl (by kernel_rfl) (by kernel_rfl) (by kernel_rfl) (fun _ _ _ h => h) (Or.inl ⟨rfl, ?gr⟩) HS.out ?_
          case gr =>
            rintro W' ⟨s1, s2, s3, s4⟩
            go_simp
          simp only [Act.put, List.setIfInBounds_toArray, List.set_cons_zero, List.set_cons_succ]
          refine hTake (i := 1) (d := 13) (v := .slice (some ⟨b1, o1, none⟩) l.length c3) rfl rfl (by kernel_rfl) (by kernel_rfl) (by kernel_rfl) (fun _ _ _ h => h) (Or.inl ⟨rfl, ?gr⟩) HS.out ?_
          case gr =>
            rintro W' ⟨s1, s2, s3, s4⟩
            go_simp
          simp only [Act.put, List.setIfInBounds_toArray, List.set_cons_zero, List.set_cons_succ]
          refine hTake (i := 2) (d := 14) (v := .int .i64 (k : Int)) rfl rfl (by kernel_rfl) (by kernel_rfl) (by kernel_rfl) (fun _ _ _ h => h) (Or.inl ⟨rfl, ?gr⟩) HS.out ?_
          case gr =>
            rintro W' ⟨s1, s2, s3, s4⟩
            go_simp
          simp only [Act.put, List.setIfInBounds_toArray, List.set_cons_zero, List.set_cons_succ]
          refine hTake (i := 3) (d := 15) (v := .pointer (some ⟨b1, o1 + k * 2, none⟩)) rfl rfl (by kernel_rfl) (by kernel_rfl) (by kernel_rfl) (fun _ _ _ h => h) (Or.inl ⟨rfl, ?gr⟩) HS.out ?_
          case gr =>
            rintro W' ⟨s1, s2, s3, s4⟩
            go_simp
          simp only [Act.put, List.setIfInBounds_toArray, List.set_cons_zero, List.set_cons_succ]
          refine hTake (i := 4) (d := 16) (v := .agg #[.int .i64 mr, .bool ml]) rfl rfl (by kernel_rfl) (by kernel_rfl) (by kernel_rfl) (fun _ _ _ h => h) (Or.inl ⟨rfl, ?gr⟩) HS.out ?_
          case gr =>
            rintro W' ⟨s1, s2, s3, s4⟩
            go_simp
          simp only [Act.put, List.setIfInBounds_toArray, List.set_cons_zero, List.set_cons_succ]
          refine wpAnyH_ready (rs := [5]) (by kernel_rfl) (by simp) ?_
          refine AllReadyH.cons rfl (fun K hK => ?_) AllReadyH.nil
          rw [if_pos (by rfl)]
          go_simp
          go_at_call 10
          have hpw := (HPw.out.below hbq).more hbq.size
          have hmv := Move_any A A2 c c2 p mr ml _ hpw
          rw [HRM.out] at hmv
          refine hmv.mono ?_
          rintro e w5 ⟨rfl, hb5⟩
          replace hbq := hbq.trans (hb5.mono hbq.size)
          have HS := Lib.hid (show (fun w' => w'.cell? ⟨w.heap.size, 0, none⟩ = some (.slice A p.nodes.length c) ∧ w'.cell? ⟨w.heap.size, 1, none⟩ = some (.slice A2 p.rails.length c2) ∧ w'.cell? ⟨b1, o1 + k * 2, none⟩ = some (.int .i64 mr) ∧ w'.cell? ⟨b1, o1 + k * 2 + 1, none⟩ = some (.bool ml)) w5 from ⟨(hbq.cell (p := ⟨w.heap.size, 0, none⟩) hr0).trans k0, (hbq.cell (p := ⟨w.heap.size, 1, none⟩) hr0).trans k1, (hbq.cell (p := ⟨b1, o1 + k * 2, none⟩) g1).trans q0, (hbq.cell (p := ⟨b1, o1 + k * 2 + 1, none⟩) g1).trans q1⟩)
          refine hK.out _ _ HS.out (fun _ => ?_)
          clear hK K hmv hpw hb5
          refine hTake (i := 6) (d := 18) (v := .bool true) rfl rfl (by kernel_rfl) (by kernel_rfl) (by kernel_rfl) (fun _ _ _ h => h) (Or.inl ⟨rfl, ?gr⟩) HS.out ?_
          case gr =>
            rintro W' ⟨s1, s2, s3, s4⟩
            go_simp
          simp only [Act.put, List.setIfInBounds_toArray, List.set_cons_zero, List.set_cons_succ]
          refine hTake (i := 7) (d := 19) (v := .bool true) rfl rfl (by kernel_rfl) (by kernel_rfl) (by kernel_rfl) (fun _ _ _ h => h) (Or.inl ⟨rfl, ?gr⟩) HS.out ?_
          case gr =>
            rintro W' ⟨s1, s2, s3, s4⟩
            go_simp
          simp only [Act.put, List.setIfInBounds_toArray, List.set_cons_zero, List.set_cons_succ]
          refine hTake (i := 8) (d := 20) (v := undef) rfl rfl (by kernel_rfl) (by kernel_rfl) (by kernel_rfl) (fun _ _ _ h => h) (Or.inr ⟨rfl, rfl⟩) HS.out ?_
          simp only [Act.put, List.setIfInBounds_toArray, List.set_cons_zero, List.set_cons_succ]
          refine hTake (i := 9) (d := 21) (v := undef) rfl rfl (by kernel_rfl) (by kernel_rfl) (by kernel_rfl) (fun _ _ _ h => h) (Or.inr ⟨rfl, rfl⟩) HS.out ?_
          simp only [Act.put, List.setIfInBounds_toArray, List.set_cons_zero, List.set_cons_succ]
          refine hTake (i := 10) (d := 22) (v := undef) rfl rfl (by kernel_rfl) (by kernel_rfl) (by kernel_rfl) (fun _ _ _ h => h) (Or.inr ⟨rfl, rfl⟩) HS.out ?_
          simp only [Act.put, List.setIfInBounds_toArray, List.set_cons_zero, List.set_cons_succ]
          refine hTake (i := 11) (d := 23) (v := undef) rfl rfl (by kernel_rfl) (by kernel_rfl) (by kernel_rfl) (fun _ _ _ h => h) (Or.inr ⟨rfl, rfl⟩) HS.out ?_
          simp only [Act.put, List.setIfInBounds_toArray, List.set_cons_zero, List.set_cons_succ]
          refine hTake (i := 12) (d := 24) (v := undef) rfl rfl (by kernel_rfl) (by kernel_rfl) (by kernel_rfl) (fun _ _ _ h => h) (Or.inr ⟨rfl, rfl⟩) HS.out ?_
          simp only [Act.put, List.setIfInBounds_toArray, List.set_cons_zero, List.set_cons_succ]
          refine hTake (i := 13) (d := 25) (v := undef) rfl rfl (by kernel_rfl) (by kernel_rfl) (by kernel_rfl) (fun _ _ _ h => h) (Or.inr ⟨rfl, rfl⟩) HS.out ?_
          simp only [Act.put, List.setIfInBounds_toArray, List.set_cons_zero, List.set_cons_succ]
          refine hTake (i := 14) (d := 26) (v := undef) rfl rfl (by kernel_rfl) (by kernel_rfl) (by kernel_rfl) (fun _ _ _ h => h) (Or.inr ⟨rfl, rfl⟩) HS.out ?_
          simp only [Act.put, List.setIfInBounds_toArray, List.set_cons_zero, List.set_cons_succ]
          refine hTake (i := 15) (d := 27) (v := undef) rfl rfl (by kernel_rfl) (by kernel_rfl) (by kernel_rfl) (fun _ _ _ h => h) (Or.inr ⟨rfl, rfl⟩) HS.out ?_
          simp only [Act.put, List.setIfInBounds_toArray, List.set_cons_zero, List.set_cons_succ]
          refine hTake (i := 16) (d := 28) (v := undef) rfl rfl (by kernel_rfl) (by kernel_rfl) (by kernel_rfl) (fun _ _ _ h => h) (Or.inr ⟨rfl, rfl⟩) HS.out ?_
          simp only [Act.put, List.setIfInBounds_toArray, List.set_cons_zero, List.set_cons_succ]
          refine hTake (i := 17) (d := 29) (v := undef) rfl rfl (by kernel_rfl) (by kernel_rfl) (by kernel_rfl) (fun _ _ _ h => h) (Or.inr ⟨rfl, rfl⟩) HS.out ?_
          simp only [Act.put, List.setIfInBounds_toArray, List.set_cons_zero, List.set_cons_succ]
          refine hTake (i := 18) (d := 30) (v := undef) rfl rfl (by kernel_rfl) (by kernel_rfl) (by kernel_rfl) (fun _ _ _ h => h) (Or.inr ⟨rfl, rfl⟩) HS.out ?_
          simp only [Act.put, List.setIfInBounds_toArray, List.set_cons_zero, List.set_cons_succ]
          refine hTake (i := 19) (d := 31) (v := undef) rfl rfl (by kernel_rfl) (by kernel_rfl) (by kernel_rfl) (fun _ _ _ h => h) (Or.inr ⟨rfl, rfl⟩) HS.out ?_
          simp only [Act.put, List.setIfInBounds_toArray, List.set_cons_zero, List.set_cons_succ]
          refine hTake (i := 20) (d := 32) (v := undef) rfl rfl (by kernel_rfl) (by kernel_rfl) (by kernel_rfl) (fun _ _ _ h => h) (Or.inr ⟨rfl, rfl⟩) HS.out ?_
          simp only [Act.put, List.setIfInBounds_toArray, List.set_cons_zero, List.set_cons_succ]
          refine hTake (i := 21) (d := 33) (v := undef) rfl rfl (by kernel_rfl) (by kernel_rfl) (by kernel_rfl) (fun _ _ _ h => h) (Or.inr ⟨rfl, rfl⟩) HS.out ?_
          simp only [Act.put, List.setIfInBounds_toArray, List.set_cons_zero, List.set_cons_succ]
          refine hTake (i := 22) (d := 34) (v := undef) rfl rfl (by kernel_rfl) (by kernel_rfl) (by kernel_rfl) (fun _ _ _ h => h) (Or.inr ⟨rfl, rfl⟩) HS.out ?_
          simp only [Act.put, List.setIfInBounds_toArray, List.set_cons_zero, List.set_cons_succ]
          refine hTake (i := 23) (d := 35) (v := undef) rfl rfl (by kernel_rfl) (by kernel_rfl) (by kernel_rfl) (fun _ _ _ h => h) (Or.inr ⟨rfl, rfl⟩) HS.out ?_
          simp only [Act.put, List.setIfInBounds_toArray, List.set_cons_zero, List.set_cons_succ]
          refine hTake (i := 24) (d := 36) (v := .bool true) rfl rfl (by kernel_rfl) (by kernel_rfl) (by kernel_rfl) (fun _ _ _ h => h) (Or.inl ⟨rfl, ?gr⟩) HS.out ?_
          case gr =>
            rintro W' ⟨s1, s2, s3, s4⟩
            go_simp
          simp only [Act.put, List.setIfInBounds_toArray, List.set_cons_zero, List.set_cons_succ]
          refine wpAnyH_done (by kernel_rfl) ?_ _
          all_goals
            go_wp2_with fail
            go_meet
            exact ⟨rfl, hbq⟩
        case rest =>
        obtain ⟨rfl, hbq⟩ := hcut
        have HBQ := Lib.hid (HB0.out.trans ((HB.out.trans (hbq.mono hzw)).mono (by omega)))
        clear hbq
        go_wp2
        go_ret
        exact ⟨⟨false, rfl, fun h => (by cases h), fun h => absurd h HR.out⟩, HBQ.out⟩
      have HRM := Lib.hid hr
      clear hr
      rcases k with _ | j
      · have HW2 := Lib.hid (HW.out.step (by rw [HXk.out]; exact HRM.out) (fun h => absurd h (by omega)))
        have d3 : decide ((0 : Int) < ((0 : Nat) : Int)) = false := by simp
        go_upto_region 4 with (fail)
        go_cut [36] from 6 to 36 (fun s36 wx => s36 = .bool false ∧ Below wr.heap.size wr wx)
        case first =>
          have hbq : Below wr.heap.size wr wr.drew := (Below.refl _ _).drew
          simp only [Nat.zero_mul, Nat.add_zero] at q0 q1
          have HS := Lib.hid (show (fun w' => w'.cell? ⟨w.heap.size, 0, none⟩ = some (.slice A p.nodes.length c) ∧ w'.cell? ⟨w.heap.size, 1, none⟩ = some (.slice A2 p.rails.length c2) ∧ w'.cell? ⟨b1, o1, none⟩ = some (.int .i64 mr) ∧ w'.cell? ⟨b1, o1 + 1, none⟩ = some (.bool ml)) wr.drew from ⟨(hbq.cell (p := ⟨w.heap.size, 0, none⟩) hr0).trans k0, (hbq.cell (p := ⟨w.heap.size, 1, none⟩) hr0).trans k1, (hbq.cell (p := ⟨b1, o1, none⟩) g1).trans q0, (hbq.cell (p := ⟨b1, o1 + 1, none⟩) g1).trans q1⟩)
          refine wp_region_held_drew (S := (fun w' => w'.cell? ⟨w.heap.size, 0, none⟩ = some (.slice A p.nodes.length c) ∧ w'.cell? ⟨w.heap.size, 1, none⟩ = some (.slice A2 p.rails.length c2) ∧ w'.cell? ⟨b1, o1, none⟩ = some (.int .i64 mr) ∧ w'.cell? ⟨b1, o1 + 1, none⟩ = some (.bool ml))) (by kernel_rfl) HS.out (fun _ => ?_)
          refine hTake (i := 0) (d := 12) (v := .agg #[.slice A p.nodes.length c, .slice A2 p.rails.length c2]) rfl rfl (by kernel_rfl) (by kernel_rfl) (by kernel_rfl) (fun _ _ _ h => h) (Or.inl ⟨rfl, ?gr⟩) HS.out ?_
          case gr =>
            rintro W' ⟨s1, s2, s3, s4⟩
            go_simp
          simp only [Act.put, List.setIfInBounds_toArray, List.set_cons_zero, List.set_cons_succ]
          refine hTake (i := 1) (d := 13) (v := .slice (some ⟨b1, o1, none⟩) l.length c3) rfl rfl (by kernel_rfl) (by kernel_rfl) (by kernel_rfl) (fun _ _ _ h => h) (Or.inl ⟨rfl, ?gr⟩) HS.out ?_
          case gr =>
            rintro W' ⟨s1, s2, s3, s4⟩
            go_simp
          simp only [Act.put, List.setIfInBounds_toArray, List.set_cons_zero, List.set_cons_succ]
          refine hTake (i := 2) (d := 14) (v := .int .i64 ((0 : Nat) : Int)) rfl rfl (by kernel_rfl) (by kernel_rfl) (by kernel_rfl) (fun _ _ _ h => h) (Or.inl ⟨rfl, ?gr⟩) HS.out ?_
          case gr =>
            rintro W' ⟨s1, s2, s3, s4⟩
            go_simp
          simp only [Act.put, List.setIfInBounds_toArray, List.set_cons_zero, List.set_cons_succ]
          refine hTake (i := 3) (d := 15) (v := .pointer (some ⟨b1, o1, none⟩)) rfl rfl (by kernel_rfl) (by kernel_rfl) (by kernel_rfl) (fun _ _ _ h => h) (Or.inl ⟨rfl, ?gr⟩) HS.out ?_
          case gr =>
            rintro W' ⟨s1, s2, s3, s4⟩
            go_simp
          simp only [Act.put, List.setIfInBounds_toArray, List.set_cons_zero, List.set_cons_succ]
          refine hTake (i := 4) (d := 16) (v := .agg #[.int .i64 mr, .bool ml]) rfl rfl (by kernel_rfl) (by kernel_rfl) (by kernel_rfl) (fun _ _ _ h => h) (Or.inl ⟨rfl, ?gr⟩) HS.out ?_
          case gr =>
            rintro W' ⟨s1, s2, s3, s4⟩
            go_simp
          simp only [Act.put, List.setIfInBounds_toArray, List.set_cons_zero, List.set_cons_succ]
          refine wpAnyH_ready (rs := [5]) (by kernel_rfl) (by simp) ?_
          refine AllReadyH.cons rfl (fun K hK => ?_) AllReadyH.nil
          rw [if_pos (by rfl)]
          go_simp
          go_at_call 10
          have hpw := (HPw.out.below hbq).more hbq.size
          have hmv := Move_any A A2 c c2 p mr ml _ hpw
          rw [HRM.out] at hmv
          refine hmv.mono ?_
          rintro e w5 ⟨rfl, hb5⟩
          replace hbq := hbq.trans (hb5.mono hbq.size)
          have HS := Lib.hid (show (fun w' => w'.cell? ⟨w.heap.size, 0, none⟩ = some (.slice A p.nodes.length c) ∧ w'.cell? ⟨w.heap.size, 1, none⟩ = some (.slice A2 p.rails.length c2) ∧ w'.cell? ⟨b1, o1, none⟩ = some (.int .i64 mr) ∧ w'.cell? ⟨b1, o1 + 1, none⟩ = some (.bool ml)) w5 from ⟨(hbq.cell (p := ⟨w.heap.size, 0, none⟩) hr0).trans k0, (hbq.cell (p := ⟨w.heap.size, 1, none⟩) hr0).trans k1, (hbq.cell (p := ⟨b1, o1, none⟩) g1).trans q0, (hbq.cell (p := ⟨b1, o1 + 1, none⟩) g1).trans q1⟩)
          refine hK.out _ _ HS.out (fun _ => ?_)
          clear hK K hmv hpw hb5
          refine hTake (i := 6) (d := 18) (v := .bool false) rfl rfl (by kernel_rfl) (by kernel_rfl) (by kernel_rfl) (fun _ _ _ h => h) (Or.inl ⟨rfl, ?gr⟩) HS.out ?_
          case gr =>
            rintro W' ⟨s1, s2, s3, s4⟩
            go_simp
          simp only [Act.put, List.setIfInBounds_toArray, List.set_cons_zero, List.set_cons_succ]
          refine hTake (i := 7) (d := 19) (v := .bool false) rfl rfl (by kernel_rfl) (by kernel_rfl) (by kernel_rfl) (fun _ _ _ h => h) (Or.inl ⟨rfl, ?gr⟩) HS.out ?_
          case gr =>
            rintro W' ⟨s1, s2, s3, s4⟩
            go_simp
          simp only [Act.put, List.setIfInBounds_toArray, List.set_cons_zero, List.set_cons_succ]
          refine hTake (i := 8) (d := 20) (v := .int .i64 ((0 : Nat) : Int)) rfl rfl (by kernel_rfl) (by kernel_rfl) (by kernel_rfl) (fun _ _ _ h => h) (Or.inl ⟨rfl, ?gr⟩) HS.out ?_
          case gr =>
            rintro W' ⟨s1, s2, s3, s4⟩
            go_simp
          simp only [Act.put, List.setIfInBounds_toArray, List.set_cons_zero, List.set_cons_succ]
          refine hTake (i := 9) (d := 21) (v := .bool false) rfl rfl (by kernel_rfl) (by kernel_rfl) (by kernel_rfl) (fun _ _ _ h => h) (Or.inl ⟨rfl, ?gr⟩) HS.out ?_
          case gr =>
            rintro W' ⟨s1, s2, s3, s4⟩
            go_simp
          simp only [Act.put, List.setIfInBounds_toArray, List.set_cons_zero, List.set_cons_succ]
          refine hTake (i := 10) (d := 22) (v := .bool false) rfl rfl (by kernel_rfl) (by kernel_rfl) (by kernel_rfl) (fun _ _ _ h => h) (Or.inl ⟨rfl, ?gr⟩) HS.out ?_
          case gr =>
            rintro W' ⟨s1, s2, s3, s4⟩
            go_simp
          simp only [Act.put, List.setIfInBounds_toArray, List.set_cons_zero, List.set_cons_succ]
          refine hTake (i := 11) (d := 23) (v := undef) rfl rfl (by kernel_rfl) (by kernel_rfl) (by kernel_rfl) (fun _ _ _ h => h) (Or.inr ⟨rfl, rfl⟩) HS.out ?_
          simp only [Act.put, List.setIfInBounds_toArray, List.set_cons_zero, List.set_cons_succ]
          refine hTake (i := 12) (d := 24) (v := undef) rfl rfl (by kernel_rfl) (by kernel_rfl) (by kernel_rfl) (fun _ _ _ h => h) (Or.inr ⟨rfl, rfl⟩) HS.out ?_
          simp only [Act.put, List.setIfInBounds_toArray, List.set_cons_zero, List.set_cons_succ]
          refine hTake (i := 13) (d := 25) (v := undef) rfl rfl (by kernel_rfl) (by kernel_rfl) (by kernel_rfl) (fun _ _ _ h => h) (Or.inr ⟨rfl, rfl⟩) HS.out ?_
          simp only [Act.put, List.setIfInBounds_toArray, List.set_cons_zero, List.set_cons_succ]
          refine hTake (i := 14) (d := 26) (v := undef) rfl rfl (by kernel_rfl) (by kernel_rfl) (by kernel_rfl) (fun _ _ _ h => h) (Or.inr ⟨rfl, rfl⟩) HS.out ?_
          simp only [Act.put, List.setIfInBounds_toArray, List.set_cons_zero, List.set_cons_succ]
          refine hTake (i := 15) (d := 27) (v := undef) rfl rfl (by kernel_rfl) (by kernel_rfl) (by kernel_rfl) (fun _ _ _ h => h) (Or.inr ⟨rfl, rfl⟩) HS.out ?_
          simp only [Act.put, List.setIfInBounds_toArray, List.set_cons_zero, List.set_cons_succ]
          refine hTake (i := 16) (d := 28) (v := undef) rfl rfl (by kernel_rfl) (by kernel_rfl) (by kernel_rfl) (fun _ _ _ h => h) (Or.inr ⟨rfl, rfl⟩) HS.out ?_
          simp only [Act.put, List.setIfInBounds_toArray, List.set_cons_zero, List.set_cons_succ]
          refine hTake (i := 17) (d := 29) (v := undef) rfl rfl (by kernel_rfl) (by kernel_rfl) (by kernel_rfl) (fun _ _ _ h => h) (Or.inr ⟨rfl, rfl⟩) HS.out ?_
          simp only [Act.put, List.setIfInBounds_toArray, List.set_cons_zero, List.set_cons_succ]
          refine hTake (i := 18) (d := 30) (v := undef) rfl rfl (by kernel_rfl) (by kernel_rfl) (by kernel_rfl) (fun _ _ _ h => h) (Or.inr ⟨rfl, rfl⟩) HS.out ?_
          simp only [Act.put, List.setIfInBounds_toArray, List.set_cons_zero, List.set_cons_succ]
          refine hTake (i := 19) (d := 31) (v := undef) rfl rfl (by kernel_rfl) (by kernel_rfl) (by kernel_rfl) (fun _ _ _ h => h) (Or.inr ⟨rfl, rfl⟩) HS.out ?_
          simp only [Act.put, List.setIfInBounds_toArray, List.set_cons_zero, List.set_cons_succ]
          refine hTake (i := 20) (d := 32) (v := undef) rfl rfl (by kernel_rfl) (by kernel_rfl) (by kernel_rfl) (fun _ _ _ h => h) (Or.inr ⟨rfl, rfl⟩) HS.out ?_
          simp only [Act.put, List.setIfInBounds_toArray, List.set_cons_zero, List.set_cons_succ]
          refine hTake (i := 21) (d := 33) (v := undef) rfl rfl (by kernel_rfl) (by kernel_rfl) (by kernel_rfl) (fun _ _ _ h => h) (Or.inr ⟨rfl, rfl⟩) HS.out ?_
          simp only [Act.put, List.setIfInBounds_toArray, List.set_cons_zero, List.set_cons_succ]
          refine hTake (i := 22) (d := 34) (v := undef) rfl rfl (by kernel_rfl) (by kernel_rfl) (by kernel_rfl) (fun _ _ _ h => h) (Or.inr ⟨rfl, rfl⟩) HS.out ?_
          simp only [Act.put, List.setIfInBounds_toArray, List.set_cons_zero, List.set_cons_succ]
          refine hTake (i := 23) (d := 35) (v := .bool false) rfl rfl (by kernel_rfl) (by kernel_rfl) (by kernel_rfl) (fun _ _ _ h => h) (Or.inl ⟨rfl, ?gr⟩) HS.out ?_
          case gr =>
            rintro W' ⟨s1, s2, s3, s4⟩
            go_simp
          simp only [Act.put, List.setIfInBounds_toArray, List.set_cons_zero, List.set_cons_succ]
          refine hTake (i := 24) (d := 36) (v := .bool false) rfl rfl (by kernel_rfl) (by kernel_rfl) (by kernel_rfl) (fun _ _ _ h => h) (Or.inl ⟨rfl, ?gr⟩) HS.out ?_
          case gr =>
            rintro W' ⟨s1, s2, s3, s4⟩
            go_simp
          simp only [Act.put, List.setIfInBounds_toArray, List.set_cons_zero, List.set_cons_succ]
          refine wpAnyH_done (by kernel_rfl) ?_ _
          all_goals
            go_wp2_with fail
            go_meet
            exact ⟨rfl, hbq⟩
        case rest =>
        obtain ⟨rfl, hbq⟩ := hcut
        have HBQ := Lib.hid (HB.out.trans (hbq.mono hzw))
        clear hbq
        go_wp2
        go_roundw
        case rel => exact ⟨0 + 1, by omega, by go_num, HW2.out, HBQ.out⟩
        case measure => simp [intOf]; omega
      · obtain ⟨b2, o2, e2, g2, q2, q3⟩ := end_at HAw.out (i := j) (by omega)
        obtain ⟨rfl, rfl⟩ : b1 = b2 ∧ o1 = o2 := by simpa using e2
        obtain ⟨⟨lr, ll⟩, hy⟩ : ∃ x, l[j]'(by omega) = x := ⟨_, rfl⟩
        have HY := Lib.hid (show E1' l j = ⟨lr, ll⟩ by rw [E1_eq (by omega)]; exact hy)
        rw [hy] at q2 q3
        have HRL := Lib.hid (show railIn p lr = true by have := (HW.out j (by omega)).1; rw [HY.out] at this; exact this)
        clear hy e2
        obtain ⟨fo, hfo⟩ : ∃ x, folB p (keyE ⟨lr, ll⟩) (endNo ⟨mr, ml⟩) = x := ⟨_, rfl⟩
        have HFO := Lib.hid (show ∀ w, PlAt w w.heap.size A c A2 c2 p → Calls Tryz.prog 63 #[.agg #[.slice A p.nodes.length c, .slice A2 p.rails.length c2], .agg #[.int .i64 lr, .bool ll], .agg #[.int .i64 mr, .bool ml]] w fun e w' => e = .returned (.bool fo) ∧ Below w.heap.size w w' from fun w hP => by
          have := rFollows_any A A2 c c2 p ⟨lr, ll⟩ ⟨mr, ml⟩ w hP HV.out HRL.out HRM.out
          rw [hfo] at this; exact this)
        have HF := Lib.hid hfo
        clear hfo
        have d3 : decide ((0 : Int) < ((j + 1 : Nat) : Int)) = true := by first | (simp; done) | (simp; omega)
        have d4 : decide ((0 : Int) < (j : Int) + 1) = true := by rw [decide_eq_true_iff]; omega
        have hj0 : (0 : Int) ≤ (j : Int) := by omega
        have hjs : (j : Int) < (l.length : Int) := by omega
        have hwr1 : IntKind.i64.wrap ((j : Int) + 1 - 1) = (j : Int) := by rw [IntKind.wrap_i64]; omega
        have hwr2 : IntKind.i64.wrap (j : Int) = (j : Int) := by rw [IntKind.wrap_i64]; omega
        go_upto_region 4 with (fail)
        go_cut [36] from 6 to 36 (fun s36 wx => s36 = .bool (!fo) ∧ Below wr.heap.size wr wx)
        case first =>
          have hj2 : (0 : Int) ≤ (j : Int) + 1 := by omega
          have hj3 : (j : Int) + 1 < (l.length : Int) := by omega
          have hj4 : ((j : Int) + 1).toNat = j + 1 := by omega
          have hbq : Below wr.heap.size wr wr.drew := (Below.refl _ _).drew
          first
            | (go_region_held3 (fun w' => w'.cell? ⟨w.heap.size, 0, none⟩ = some (.slice A p.nodes.length c) ∧ w'.cell? ⟨w.heap.size, 1, none⟩ = some (.slice A2 p.rails.length c2) ∧ w'.cell? ⟨b1, o1 + (j + 1) * 2, none⟩ = some (.int .i64 mr) ∧ w'.cell? ⟨b1, o1 + (j + 1) * 2 + 1, none⟩ = some (.bool ml) ∧ w'.cell? ⟨b1, o1 + j * 2, none⟩ = some (.int .i64 lr) ∧ w'.cell? ⟨b1, o1 + j * 2 + 1, none⟩ = some (.bool ll))
                (exact ⟨(hbq.cell (p := ⟨w.heap.size, 0, none⟩) hr0).trans k0, (hbq.cell (p := ⟨w.heap.size, 1, none⟩) hr0).trans k1, (hbq.cell (p := ⟨b1, o1 + (j + 1) * 2, none⟩) g1).trans q0, (hbq.cell (p := ⟨b1, o1 + (j + 1) * 2 + 1, none⟩) g1).trans q1, (hbq.cell (p := ⟨b1, o1 + j * 2, none⟩) g1).trans q2, (hbq.cell (p := ⟨b1, o1 + j * 2 + 1, none⟩) g1).trans q3⟩)
                ((first
                  | (go_at_call 10; have hpw := (HPw.out.below hbq).more hbq.size; have hmv := Move_any A A2 c c2 p mr ml _ hpw; rw [HRM.out] at hmv; (with_reducible refine hmv.mono ?_); rintro e w5 ⟨rfl, hb5⟩; replace hbq := hbq.trans (hb5.mono hbq.size))
                  | (go_at_call 63; have hpw := (HPw.out.below hbq).more hbq.size; (with_reducible refine (HFO.out _ hpw).mono ?_); rintro e w6 ⟨rfl, hb6⟩; replace hbq := hbq.trans (hb6.mono hbq.size)))))
            | fail "x"
          all_goals
            go_wp2_with fail
            go_meet
            exact ⟨rfl, hbq⟩
        case rest =>
        obtain ⟨rfl, hbq⟩ := hcut
        clear hwr1 hwr2
        have HBQ := Lib.hid (HB.out.trans (hbq.mono hzw))
        clear hbq
        cases fo
        · have HR := Lib.hid (show ¬ wayOk p l from fun h => by have := (h.2.2 (j + 1) hlt).2 (by omega); rw [HXk.out, show j + 1 - 1 = j by omega, HY.out, HF.out] at this; cases this)
          go_wp2
          go_ret
          exact ⟨⟨false, rfl, fun h => (by cases h), fun h => absurd h HR.out⟩, HB0.out.trans (HBQ.out.mono (by omega))⟩
        · have HW2 := Lib.hid (HW.out.step (by rw [HXk.out]; exact HRM.out) (fun _ => by rw [HXk.out, show j + 1 - 1 = j by omega, HY.out]; exact HF.out))
          go_wp2
          go_roundw
          case rel => exact ⟨j + 1 + 1, by omega, by go_num, HW2.out, HBQ.out⟩
          case measure => simp [intOf]; omega
    · obtain rfl : k = l.length := by omega
      have HQ := Lib.hid (show inB (l.length : Int) 1 2000 = true ↔ wayOk p l by
        unfold inB
        rw [Bool.and_eq_true, decide_eq_true_iff, decide_eq_true_iff]
        exact ⟨fun h => ⟨by omega, by omega, HW.out⟩, fun h => ⟨by have := h.1; omega, by have := h.2.1; omega⟩⟩)
      go_wp2_with fail
      refine (in_any _ _ _ _).mono ?_
      rintro e w5 ⟨rfl, rfl⟩
      obtain ⟨bb, hbb⟩ : ∃ x, inB (l.length : Int) 1 2000 = x := ⟨_, rfl⟩
      rw [hbb] at HQ ⊢
      clear hbb
      go_wp2
      go_ret
      exact ⟨⟨bb, rfl, HQ.out⟩, HB0.out.trans (HB.out.mono (by omega))⟩
end Go.Proofs.YtcpanfpijljeaaaGreat

namespace Go.Proofs.YtcpanfpijljeaaaGreat
set_option linter.unusedVariables false
set_option linter.unusedSimpArgs false
open Go.ChangeShapes Go.WideShapes Go.ChangeAt Go.RowKit Go.Deep

section
variable {H : Type} {enc : TypeId × Value → H} {P : Program} {w : World}
/-- all that it holds is within the form's reach -/
def InReach (P : Program) (t : TypeId) (d : DataW H) : Prop := ∀ n ∈ d.weights P t, n ≤ reachBytes
theorem reach_is : reachBytes = 140737488351232 := rfl
theorem weightsAll_in {e : TypeId} : ∀ {l : List (DataW H)} {d : DataW H}, d ∈ l → ∀ n ∈ d.weights P e, n ∈ DataW.weightsAll P e l
  | d' :: r, d, hd, n, hn => by
    simp only [DataW.weightsAll, List.mem_append]
    rcases List.mem_cons.1 hd with rfl | h
    · exact Or.inl hn
    · exact Or.inr (weightsAll_in h n hn)
theorem list_of {α : Type} {p : Nat → α → Prop} : ∀ n : Nat, (∀ i, i < n → ∃ x, p i x) → ∃ l : List α, l.length = n ∧ ∀ i x, l[i]? = some x → p i x := by
  intro n
  induction n with
  | zero => exact fun _ => ⟨[], rfl, fun i x h => by simp at h⟩
  | succ n ih =>
    intro h
    obtain ⟨l, hl, hp⟩ := ih fun i hi => h i (by omega)
    obtain ⟨x, hx⟩ := h n (by omega)
    refine ⟨l ++ [x], by simp [hl], fun i y hy => ?_⟩
    by_cases hi : i < l.length
    · rw [List.getElem?_append_left hi] at hy; exact hp i y hy
    · rw [List.getElem?_append_right (by omega)] at hy
      have hi2 : i - l.length = 0 := by
        rcases Nat.eq_zero_or_pos (i - l.length) with h | h
        · exact h
        · rw [List.getElem?_eq_none (by simp; omega)] at hy; cases hy
      rw [hi2] at hy
      obtain rfl : x = y := by simpa using hy
      rw [show i = n by omega]; exact hx
theorem read_slice {α : Type} {C : α → List Value → Prop} {t e : TypeId} {fuel size : Nat} {cs : List Value} {x : DataW H × List MemPlace} (ht : P.underlying t = some (.slice e)) (hc : P.cellsOf e = size) (hz : 0 < size) (hb1 : 1 ≤ P.bytesOf e)
    (h : DataW.trod enc P w 0 (fun _ => true) true fuel t cs = some x) (hl : InReach P t x.1)
    (hel : ∀ n cs' y, DataW.trod enc P w 0 (fun _ => true) true n e cs' = some y → InReach P e y.1 → ∃ z : α, C z cs') :
    ∃ (A : Option Addr) (l : List α) (c : Nat), cs = [.slice A l.length c] ∧ Sl w w.heap.size size C A l ∧ l.length ≤ c ∧ c ≤ 140737488351232 := by
  rcases open_slice ht h with ⟨rfl, rfl⟩ | ⟨a, len, cap, m, n, D, Pl, rfl, hb, hlc, hm, hmm, rfl, hx⟩
  · exact ⟨none, [], 0, rfl, Sl.nil, by simp, by omega⟩
  · have hmm' : m = cap := by simpa using hmm
    subst hmm'
    have hcap : m * P.bytesOf e ≤ reachBytes := by
      have := hl ((((List.range len).map D).length + ((List.range (m - len)).map fun j => D (len + j)).length) * P.bytesOf e) (by simp only [DataW.weights, ht]; exact List.mem_cons_self)
      simp only [List.length_map, List.length_range] at this
      rwa [show len + (m - len) = m by omega] at this
    have hcap2 : m ≤ reachBytes := Nat.le_trans (Nat.le_mul_of_pos_right m hb1) hcap
    obtain ⟨l, hll, hp⟩ := list_of (α := α) (p := fun i z => ∃ cs', w.cells? 0 (a.add (i * size)) size = some cs' ∧ C z cs') len fun i hi => by
      obtain ⟨cs', h1, h2⟩ := hx i (by omega)
      rw [hc] at h1
      obtain ⟨z, hz⟩ := hel n cs' _ h2 fun k hk => hl k (by
        simp only [DataW.weights, ht, List.mem_cons, List.mem_append]
        exact .inr (.inl (weightsAll_in (List.mem_map.2 ⟨i, List.mem_range.2 hi, rfl⟩) k hk)))
      exact ⟨z, cs', h1, hz⟩
    refine ⟨some a, l, m, by rw [hll], ?_, by omega, by rw [← reach_is]; exact hcap2⟩
    intro hne
    have h0 : 0 < l.length := List.length_pos_iff.2 hne
    obtain ⟨cs0, k1, _⟩ := hp 0 l[0] (List.getElem?_eq_getElem h0)
    obtain ⟨_, k2, k3⟩ := World.cells?_some k1
    have k4 := k3 0 hz
    rw [List.getElem?_eq_getElem (by omega)] at k4
    have k5 := World.cell?_spot k4
    have k6 := World.block_lt_of_cell? _ _ k4
    obtain ⟨b, off, sp⟩ := a
    have hsp : sp = none := by simpa [Addr.add] using k5
    subst hsp
    refine ⟨b, off, rfl, by simpa [Addr.add] using k6, fun i x hx => ?_⟩
    obtain ⟨cs', q1, q2⟩ := hp i x hx
    obtain ⟨_, q3, q4⟩ := World.cells?_some q1
    refine ⟨cs', q2, fun j u hu => ?_⟩
    have hj : j < size := by have := (List.getElem?_eq_some_iff.1 hu).1; omega
    have := q4 j hj
    rw [add_lit, add_lit, hu] at this
    exact this
theorem read_field {fs : Array Field} {t : TypeId} {fuel : Nat} {cs : List Value} {x : DataW H × List MemPlace} (ht : P.underlying t = some (.struct fs)) (h : DataW.trod enc P w 0 (fun _ => true) true fuel t cs = some x) (hl : InReach P t x.1) (i : Nat) {f : Field} (hf : fs[i]? = some f) :
    ∃ n y, DataW.trod enc P w 0 (fun _ => true) true n f.type ((cs.drop f.offset).take (P.cellsOf f.type)) = some y ∧ InReach P f.type y.1 := by
  obtain ⟨xs, n, _, rfl, hlen, hxl, hx⟩ := DataW.trod_struct ht h
  have h1 := hx i f hf
  have hi : i < xs.length := by rw [hxl]; exact (Array.getElem?_eq_some_iff.1 hf).1
  rw [List.getElem?_eq_getElem hi] at h1
  refine ⟨n, xs[i], h1, fun k hk => hl k ?_⟩
  simp only [DataW.weights, ht]
  exact DataW.weights_mem_each (j := i) (t := f.type) (d := xs[i].1) (by simp [hf]) (by simp [hi]) k hk
theorem read_at {fs : Array Field} {t : TypeId} {fuel : Nat} {cs : List Value} {x : DataW H × List MemPlace} (ht : P.underlying t = some (.struct fs)) (h : DataW.trod enc P w 0 (fun _ => true) true fuel t cs = some x) (hl : InReach P t x.1) (i : Nat) {e : TypeId} {off k : Nat}
    (hf : (fs[i]?).map (fun f => (f.type, f.offset)) = some (e, off)) (hc : P.cellsOf e = k) :
    ∃ n y, DataW.trod enc P w 0 (fun _ => true) true n e ((cs.drop off).take k) = some y ∧ InReach P e y.1 := by
  obtain ⟨f, hf1, hf2⟩ := Option.map_eq_some_iff.1 hf
  obtain ⟨rfl, rfl⟩ := Prod.mk.inj hf2
  subst hc
  exact read_field ht h hl i hf1
theorem read_len {fs : Array Field} {t : TypeId} {fuel : Nat} {cs : List Value} {x : DataW H × List MemPlace} (ht : P.underlying t = some (.struct fs)) (h : DataW.trod enc P w 0 (fun _ => true) true fuel t cs = some x) : cs.length = P.cellsOf t := by
  obtain ⟨xs, n, _, rfl, hlen, hxl, hx⟩ := DataW.trod_struct ht h
  exact hlen
end
end Go.Proofs.YtcpanfpijljeaaaGreat
/- What the form reads as a plan is a plan in memory. -/
namespace Go.Proofs.YtcpanfpijljeaaaGreat
open Go.ChangeShapes Go.WideShapes Go.ChangeAt Go.RowKit Go.Deep

theorem Tryz.c3 : Tryz.prog.cellsOf 3 = 1 := by kernel_rfl
theorem Tryz.c4 : Tryz.prog.cellsOf 4 = 1 := by kernel_rfl
theorem Tryz.c22 : Tryz.prog.cellsOf 22 = 1 := by kernel_rfl
theorem Tryz.c23 : Tryz.prog.cellsOf 23 = 1 := by kernel_rfl
theorem Tryz.c25 : Tryz.prog.cellsOf 25 = 2 := by kernel_rfl
theorem Tryz.c87 : Tryz.prog.cellsOf 87 = 1 := by kernel_rfl
theorem Tryz.c89 : Tryz.prog.cellsOf 89 = 5 := by kernel_rfl
theorem Tryz.c82 : Tryz.prog.cellsOf 82 = 2 := by kernel_rfl
theorem Tryz.c83 : Tryz.prog.cellsOf 83 = 1 := by kernel_rfl
theorem Tryz.c84 : Tryz.prog.cellsOf 84 = 1 := by kernel_rfl
theorem Tryz.c86 : Tryz.prog.cellsOf 86 = 5 := by kernel_rfl
theorem Tryz.c96 : Tryz.prog.cellsOf 96 = 2 := by kernel_rfl
theorem Tryz.b89 : 1 ≤ Tryz.prog.bytesOf 89 := by rw [show Tryz.prog.bytesOf 89 = 56 by kernel_rfl]; omega
theorem Tryz.b82 : 1 ≤ Tryz.prog.bytesOf 82 := by rw [show Tryz.prog.bytesOf 82 = 16 by kernel_rfl]; omega
theorem Tryz.b86 : 1 ≤ Tryz.prog.bytesOf 86 := by rw [show Tryz.prog.bytesOf 86 = 56 by kernel_rfl]; omega
theorem Tryz.b96 : 1 ≤ Tryz.prog.bytesOf 96 := by rw [show Tryz.prog.bytesOf 96 = 16 by kernel_rfl]; omega

section
variable {H : Type} {enc : TypeId × Value → H} {w : World} {fuel : Nat} {cs : List Value} {x : DataW H × List MemPlace}
set_option maxRecDepth 100000 in
theorem read_E (h : DataW.trod enc Tryz.prog w 0 (fun _ => true) true fuel 96 cs = some x) (hl : InReach Tryz.prog 96 x.1) : ∃ z : E, CE z cs := by
  have hn := read_len Tryz.underlying96 h
  rw [Tryz.c96] at hn
  obtain ⟨n1, y1, h1, _⟩ := read_at Tryz.underlying96 h hl 0 rfl Tryz.c3
  obtain ⟨n2, y2, h2, _⟩ := read_at Tryz.underlying96 h hl 1 rfl Tryz.c4
  obtain ⟨a, ha, _, _⟩ := DataW.trod_int Tryz.underlying3 h1
  obtain ⟨b, hb, _⟩ := DataW.trod_bool Tryz.underlying4 h2
  match cs, hn with
  | [u, v], _ =>
    simp at ha hb
    subst ha; subst hb
    exact ⟨⟨a, b⟩, rfl⟩
set_option maxRecDepth 100000 in
theorem read_S (h : DataW.trod enc Tryz.prog w 0 (fun _ => true) true fuel 82 cs = some x) (hl : InReach Tryz.prog 82 x.1) : ∃ z : S, CS z cs := by
  have hn := read_len Tryz.underlying82 h
  obtain ⟨n1, y1, h1, _⟩ := read_at Tryz.underlying82 h hl 0 rfl Tryz.c3
  obtain ⟨n2, y2, h2, _⟩ := read_at Tryz.underlying82 h hl 1 rfl Tryz.c3
  obtain ⟨a, ha, _, _⟩ := DataW.trod_int Tryz.underlying3 h1
  obtain ⟨b, hb, _, _⟩ := DataW.trod_int Tryz.underlying3 h2
  match cs, hn with
  | [u, v], _ =>
    simp at ha hb
    subst ha; subst hb
    exact ⟨⟨a, b⟩, rfl⟩
set_option maxRecDepth 100000 in
theorem read_N (h : DataW.trod enc Tryz.prog w 0 (fun _ => true) true fuel 86 cs = some x) (hl : InReach Tryz.prog 86 x.1) : ∃ z : N, CN w w.heap.size z cs := by
  have hn := read_len Tryz.underlying86 h
  rw [Tryz.c86] at hn
  obtain ⟨n1, y1, h1, l1⟩ := read_at Tryz.underlying86 h hl 0 rfl Tryz.c82
  obtain ⟨n2, y2, h2, _⟩ := read_at Tryz.underlying86 h hl 1 rfl Tryz.c83
  obtain ⟨n3, y3, h3, l3⟩ := read_at Tryz.underlying86 h hl 2 rfl Tryz.c84
  obtain ⟨n4, y4, h4, _⟩ := read_at Tryz.underlying86 h hl 3 rfl Tryz.c3
  obtain ⟨s, hs⟩ := read_S h1 l1
  obtain ⟨a, ha, _, _⟩ := DataW.trod_int Tryz.underlying83 h2
  obtain ⟨A, l, c, hA, hS, hlc, hcm⟩ := read_slice (C := CE) Tryz.underlying84 Tryz.c96 (by omega) Tryz.b96 h3 l3 fun n cs' y h hl => read_E h hl
  obtain ⟨b, hb, _, _⟩ := DataW.trod_int Tryz.underlying3 h4
  unfold CS at hs
  match cs, hn with
  | [u0, u1, u2, u3, u4], _ =>
    simp at hs ha hA hb
    obtain ⟨rfl, rfl⟩ := hs
    subst ha; subst hA; subst hb
    exact ⟨⟨s, a, l, b⟩, A, c, rfl, hS, hlc, hcm⟩
set_option maxRecDepth 100000 in
theorem read_R (h : DataW.trod enc Tryz.prog w 0 (fun _ => true) true fuel 89 cs = some x) (hl : InReach Tryz.prog 89 x.1) : ∃ z : R, CR w w.heap.size z cs := by
  have hn := read_len Tryz.underlying89 h
  rw [Tryz.c89] at hn
  obtain ⟨n1, y1, h1, _⟩ := read_at Tryz.underlying89 h hl 0 rfl Tryz.c3
  obtain ⟨n2, y2, h2, _⟩ := read_at Tryz.underlying89 h hl 1 rfl Tryz.c3
  obtain ⟨n3, y3, h3, l3⟩ := read_at Tryz.underlying89 h hl 2 rfl Tryz.c87
  obtain ⟨n4, y4, h4, _⟩ := read_at Tryz.underlying89 h hl 3 rfl Tryz.c3
  obtain ⟨n5, y5, h5, _⟩ := read_at Tryz.underlying89 h hl 4 rfl Tryz.c3
  obtain ⟨a, ha, _, _⟩ := DataW.trod_int Tryz.underlying3 h1
  obtain ⟨b, hb, _, _⟩ := DataW.trod_int Tryz.underlying3 h2
  obtain ⟨A, l, c, hA, hS, hlc, hcm⟩ := read_slice (C := CS) Tryz.underlying87 Tryz.c82 (by omega) Tryz.b82 h3 l3 fun n cs' y h hl => read_S h hl
  obtain ⟨d, hd, _, _⟩ := DataW.trod_int Tryz.underlying3 h4
  obtain ⟨e, he, _, _⟩ := DataW.trod_int Tryz.underlying3 h5
  match cs, hn with
  | [u0, u1, u2, u3, u4], _ =>
    simp at ha hb hA hd he
    subst ha; subst hb; subst hA; subst hd; subst he
    exact ⟨⟨a, b, l, d, e⟩, A, c, rfl, hS, hlc, hcm⟩
set_option maxRecDepth 100000 in
theorem read_Pl (h : DataW.trod enc Tryz.prog w 0 (fun _ => true) true fuel 25 cs = some x) (hl : InReach Tryz.prog 25 x.1) :
    ∃ (p : Pl) (A : Option Addr) (c : Nat) (A2 : Option Addr) (c2 : Nat), cs = [.slice A p.nodes.length c, .slice A2 p.rails.length c2] ∧ PlAt w w.heap.size A c A2 c2 p := by
  have hn := read_len Tryz.underlying25 h
  rw [Tryz.c25] at hn
  obtain ⟨n1, y1, h1, l1⟩ := read_at Tryz.underlying25 h hl 0 rfl Tryz.c22
  obtain ⟨n2, y2, h2, l2⟩ := read_at Tryz.underlying25 h hl 1 rfl Tryz.c23
  obtain ⟨A, l, c, hA, hS, hlc, hcm⟩ := read_slice (C := CN w w.heap.size) Tryz.underlying22 Tryz.c86 (by omega) Tryz.b86 h1 l1 fun n cs' y h hl => read_N h hl
  obtain ⟨A2, l2', c2, hA2, hS2, hlc2, hcm2⟩ := read_slice (C := CR w w.heap.size) Tryz.underlying23 Tryz.c89 (by omega) Tryz.b89 h2 l2 fun n cs' y h hl => read_R h hl
  match cs, hn with
  | [u, v], _ =>
    simp at hA hA2
    subst hA; subst hA2
    exact ⟨⟨l, l2'⟩, A, c, A2, c2, rfl, hS, hlc, hcm, hS2, hlc2, hcm2⟩
end
end Go.Proofs.YtcpanfpijljeaaaGreat

namespace Go.Proofs.YtcpanfpijljeaaaGreat
set_option linter.unusedVariables false
set_option linter.unusedSimpArgs false
open Go.RowKit

theorem mem_befL {p : Pl} {k y x : Nat} (hx : x < k) (h : (y : Int) ∈ leaveL p x) : (x : Int) ∈ befL p k y := by
  unfold befL
  rw [List.mem_flatMap]
  exact ⟨x, List.mem_range.2 hx, List.mem_map.2 ⟨(y : Int), List.mem_filter.2 ⟨h, by simp⟩, rfl⟩⟩
theorem mem_nextL {p : Pl} {x : Nat} {z : Int} : z ∈ nextL p x ↔ z ∈ leaveL p x := by unfold nextL; exact List.mem_mergeSort
theorem small_rails {p : Pl} (hv : Vld p) (hs : smallB p = true) : p.rails.length ≤ 14 := by
  have h := of_decide_eq_true hv.sizes
  simp only [smallB, smallN, Bool.and_eq_true] at hs
  have h2 := hs.1.1
  simp at h2
  omega
/-- a plan at block K and a way, in a world that is later -/
structure Pst (w wr : World) (K : Nat) (A : Option Addr) (c : Nat) (A2 : Option Addr) (c2 : Nat) (p : Pl) (A3 : Option Addr) (l : List E) : Prop where
  k0 : wr.cell? ⟨K, 0, none⟩ = some (.slice A p.nodes.length c)
  k1 : wr.cell? ⟨K, 1, none⟩ = some (.slice A2 p.rails.length c2)
  pl : PlAt wr wr.heap.size A c A2 c2 p
  sl : Sl wr wr.heap.size 2 CE A3 l
  be : Below w.heap.size w wr
  lt : K < wr.heap.size
theorem Pst.next {w wr w' : World} {K c c2 : Nat} {A A2 A3 : Option Addr} {p : Pl} {l : List E} (h : Pst w wr K A c A2 c2 p A3 l) (hb : Below wr.heap.size wr w') : Pst w w' K A c A2 c2 p A3 l :=
  ⟨(hb.cell (p := ⟨K, 0, none⟩) h.lt).trans h.k0, (hb.cell (p := ⟨K, 1, none⟩) h.lt).trans h.k1, (h.pl.below hb).more hb.size, (h.sl.below hb).more (fun _ _ h => h) hb.size, h.be.trans (hb.mono h.be.size), Nat.lt_of_lt_of_le h.lt hb.size⟩
theorem Pst.start {w : World} {c c2 : Nat} {A A2 A3 : Option Addr} {p : Pl} {l : List E} (h : PlAt w w.heap.size A c A2 c2 p) (hA : Sl w w.heap.size 2 CE A3 l) :
    Pst w (w.alloc (.cells #[.slice A p.nodes.length c, .slice A2 p.rails.length c2] 25)) w.heap.size A c A2 c2 p A3 l :=
  ⟨cell_of_row _ _ 0 _ _ _ (heap_alloc_new w _), cell_of_row _ _ 1 _ _ _ (heap_alloc_new w _), h.box _, (hA.below ((Below.refl _ w).alloc (Nat.le_refl _) _)).more (fun _ _ h => h) (by simp), (Below.refl _ w).alloc (Nat.le_refl _) _, by simp⟩

def ValB (p : Pl) (v : Bool) : Prop := ∀ (A A2 : Option Addr) (c c2 : Nat) (w : World), PlAt w w.heap.size A c A2 c2 p → Calls Tryz.prog 9 #[.agg #[.slice A p.nodes.length c, .slice A2 p.rails.length c2]] w fun e w' => e = .returned (.bool v) ∧ Below w.heap.size w w'
theorem valB_yes {p : Pl} (h : Vld p) : ValB p true := fun A A2 c c2 w hP => (Valid_any A A2 c c2 p w hP).mono fun e w' ⟨⟨b, h1, h2⟩, h3⟩ => ⟨by rw [h1, h2.2 h], h3⟩
theorem valB_no {p : Pl} (h : ¬ Vld p) : ValB p false := fun A A2 c c2 w hP => (Valid_any A A2 c c2 p w hP).mono fun e w' ⟨⟨b, h1, h2⟩, h3⟩ => by
  cases b
  · exact ⟨h1, h3⟩
  · exact absurd (h2.1 rfl) h
section
variable (A A2 A3 : Option Addr) (c c2 c3 : Nat) (p : Pl) (l : List E) (w : World)
theorem wayB (hP : PlAt w w.heap.size A c A2 c2 p) (hA : Sl w w.heap.size 2 CE A3 l) (hv : Vld p) (hl : l.length ≤ 30) (b : Bool) (hb : b = true ↔ wayOk p l) :
    Calls Tryz.prog 24 #[.agg #[.slice A p.nodes.length c, .slice A2 p.rails.length c2], .slice A3 l.length c3] w fun e w' => e = .returned (.bool b) ∧ Below w.heap.size w w' :=
  (rWay_any A A2 A3 c c2 c3 p l w hP hv hA (by omega)).mono fun e w' ⟨⟨b', h1, h2⟩, h3⟩ => by
    have : b' = b := by rw [Bool.eq_iff_iff]; exact h2.trans hb.symm
    exact ⟨by rw [h1, this], h3⟩
end
theorem two_boxes (w : World) (a0 a1 b0 b1 : Value) (t : TypeId) :
    (((w.alloc (.cells #[a0, a1] t)).alloc (.cells #[b0, b1] t)).drew).cell? ⟨w.heap.size, 0, none⟩ = some a0 ∧ (((w.alloc (.cells #[a0, a1] t)).alloc (.cells #[b0, b1] t)).drew).cell? ⟨w.heap.size, 1, none⟩ = some a1 ∧
    (((w.alloc (.cells #[a0, a1] t)).alloc (.cells #[b0, b1] t)).drew).cell? ⟨w.heap.size + 1, 0, none⟩ = some b0 ∧ (((w.alloc (.cells #[a0, a1] t)).alloc (.cells #[b0, b1] t)).drew).cell? ⟨w.heap.size + 1, 1, none⟩ = some b1 ∧
    w.heap.size < (((w.alloc (.cells #[a0, a1] t)).alloc (.cells #[b0, b1] t)).drew).heap.size ∧ w.heap.size + 1 < (((w.alloc (.cells #[a0, a1] t)).alloc (.cells #[b0, b1] t)).drew).heap.size ∧
    Below w.heap.size w (((w.alloc (.cells #[a0, a1] t)).alloc (.cells #[b0, b1] t)).drew) := by
  have h2 : ∀ i, ((w.alloc (.cells #[a0, a1] t)).alloc (.cells #[b0, b1] t)).cell? ⟨w.heap.size + 1, i, none⟩ = #[b0, b1][i]? := fun i => by
    have := cell_new1 (w.alloc (.cells #[a0, a1] t)) #[b0, b1] t i
    rwa [show (w.alloc (.cells #[a0, a1] t)).heap.size = w.heap.size + 1 by simp] at this
  have hz : (((w.alloc (.cells #[a0, a1] t)).alloc (.cells #[b0, b1] t)).drew).heap.size = w.heap.size + 1 + 1 := by
    show ((w.alloc (.cells #[a0, a1] t)).alloc (.cells #[b0, b1] t)).heap.size = _
    simp
  exact ⟨cell_keep1 (cell_new1 w _ t 0) (by simp), cell_keep1 (cell_new1 w _ t 1) (by simp), h2 0, h2 1, by omega, by omega, (((Below.refl _ w).alloc (Nat.le_refl _) _).alloc (by simp) _).drew⟩
section row
open Go.ChangeShapes Go.WideShapes Go.ChangeAt Go.Deep
theorem Tryz.c40p : Tryz.prog.cellsOf 27 = 2 := by kernel_rfl
theorem Tryz.b40p : 1 ≤ Tryz.prog.bytesOf 27 := by rw [show Tryz.prog.bytesOf 27 = 16 by kernel_rfl]; omega
section
variable {H : Type} {enc : TypeId × Value → H} {w : World} {fuel : Nat} {cs : List Value} {x : DataW H × List MemPlace}
set_option maxRecDepth 100000 in
theorem read_Mp (h : DataW.trod enc Tryz.prog w 0 (fun _ => true) true fuel 27 cs = some x) (hl : InReach Tryz.prog 27 x.1) : ∃ z : E, CE z cs := by
  have hn := read_len Tryz.underlying27 h
  rw [Tryz.c40p] at hn
  obtain ⟨n1, y1, h1, _⟩ := read_at Tryz.underlying27 h hl 0 rfl Tryz.c3
  obtain ⟨n2, y2, h2, _⟩ := read_at Tryz.underlying27 h hl 1 rfl Tryz.c4
  obtain ⟨a, ha, _, _⟩ := DataW.trod_int Tryz.underlying3 h1
  obtain ⟨b, hb, _⟩ := DataW.trod_bool Tryz.underlying4 h2
  match cs, hn with
  | [u, v], _ =>
    simp at ha hb
    subst ha; subst hb
    exact ⟨⟨a, b⟩, rfl⟩
theorem read_Ms (h : DataW.trod enc Tryz.prog w 0 (fun _ => true) true fuel 31 cs = some x) (hl : InReach Tryz.prog 31 x.1) :
    ∃ (A : Option Addr) (l : List E) (c : Nat), cs = [.slice A l.length c] ∧ Sl w w.heap.size 2 CE A l ∧ l.length ≤ c ∧ c ≤ 140737488351232 :=
  read_slice (C := CE) Tryz.underlying31 Tryz.c40p (by omega) Tryz.b40p h hl fun n cs' y h hl => read_Mp h hl
end

end row
end Go.Proofs.YtcpanfpijljeaaaGreat

/-! partU7: Plain: each label of the search is the cost of a real way. -/
namespace Go.Proofs.YtcpanfpijljeaaaGreat
set_option linter.unusedVariables false
set_option linter.unusedSimpArgs false

/-- a way from a move to t: its length behind the first move, and its number of moves -/
inductive Wy (ln : Int → Int) (bef : Nat → List Int) (t : Nat) : Nat → Int → Int → Prop
  | nil : Wy ln bef t t 0 0
  | cons {u w : Nat} {l m : Int} : (w : Int) ∈ bef u → Wy ln bef t u l m → Wy ln bef t w (l + ln ((u : Int) / 2)) (m + 1)
def Real (M : Nat) (ln : Int → Int) (bef : Nat → List Int) (t : Nat) (cs : List C2) : Prop := cs.length = M ∧ ∀ u, u < M → (0 ≤ (gC cs u).1 ∨ (gC cs u).1 = -1) ∧ (0 ≤ (gC cs u).1 → Wy ln bef t u (gC cs u).1 (gC cs u).2)
def Its (M : Nat) (it : List V3) : Prop := ∀ y ∈ it, (∃ v : Nat, y.v = v ∧ v < M) ∧ 0 ≤ y.l
theorem relax_real {M t u : Nat} {ln : Int → Int} {bef : Nat → List Int} {cl : List Bool} {l m : Int} (h0 : 0 ≤ l + ln ((u : Int) / 2)) (hw : Wy ln bef t u l m) :
    ∀ (L : List Int) (s : List C2 × List V3), (∀ b ∈ L, b ∈ bef u ∧ ∃ w : Nat, b = w ∧ w < M) → Real M ln bef t s.1 → Its M s.2 →
      Real M ln bef t (L.foldl (relax cl (l + ln ((u : Int) / 2), m + 1)) s).1 ∧ Its M (L.foldl (relax cl (l + ln ((u : Int) / 2), m + 1)) s).2 := by
  intro L
  induction L with
  | nil => intro s _ h1 h2; exact ⟨h1, h2⟩
  | cons b L ih =>
    intro s hL h1 h2
    rw [List.foldl_cons]
    refine ih _ (fun b hb => hL b (by simp [hb])) ?_ ?_
    · obtain ⟨hb, w, rfl, hwM⟩ := hL b (by simp)
      unfold relax
      split
      · refine ⟨by rw [List.length_set]; exact h1.1, fun x hx => ?_⟩
        rw [Int.toNat_natCast]
        rw [gC_set (by rw [h1.1]; exact hwM)]
        by_cases e : x = w
        · subst e
          rw [if_pos rfl]
          exact ⟨.inl h0, fun _ => .cons hb hw⟩
        · rw [if_neg e]
          exact h1.2 x hx
      · exact h1
    · obtain ⟨hb, w, rfl, hwM⟩ := hL b (by simp)
      unfold relax
      split
      · intro y hy
        rcases mem_putL hy with hy | rfl
        · exact h2 y hy
        · exact ⟨⟨w, rfl, hwM⟩, h0⟩
      · exact h2
theorem search_real {M t : Nat} {ln : Int → Int} {bef : Nat → List Int} {cl : List Bool} (hln : ∀ z, 0 ≤ ln z) (hbf : ∀ u, u < M → ∀ b ∈ bef u, ∃ k : Nat, b = k ∧ k < M) :
    ∀ (n : Nat) (cs : List C2) (it : List V3) (res : List C2), Real M ln bef t cs → Its M it → search ln bef cl n cs it = some res → Real M ln bef t res := by
  intro n
  induction n with
  | zero => intro cs it res _ _ h; simp [search] at h
  | succ n ih =>
    intro cs it res h1 h2 h
    cases it with
    | nil =>
      rw [search] at h
      obtain rfl : cs = res := by simpa using h
      exact h1
    | cons x r =>
      rw [search] at h
      have hrest : Its M (restL x r) := fun y hy => h2 y (mem_restL hy)
      split at h
      · cases h
      split at h
      · rename_i he
        split at h
        · cases h
        · obtain ⟨⟨v, hv, hvM⟩, hl⟩ := h2 x (by simp)
          have hx2 : x.v.toNat = v := by rw [hv]; simp
          rw [hv, costAt_nat] at he
          have hw : Wy ln bef t v x.l x.m := by
            have := (h1.2 v hvM).2 (by rw [← he]; exact hl)
            rw [← he] at this
            exact this
          rw [hx2, hv] at h
          have := relax_real (M := M) (cl := cl) (by have := hln ((v : Int) / 2); omega) hw (bef v) (cs, restL x r) (fun b hb => ⟨hb, hbf v hvM b hb⟩) h1 hrest
          exact ih _ _ _ this.1 this.2 h
      · exact ih _ _ _ h1 hrest h
theorem costs_real {M t n : Nat} {ln : Int → Int} {bef : Nat → List Int} {cl : List Bool} {res : List C2} (hcl : ∀ b, shutAt cl b = false) (hln : ∀ z, 0 ≤ ln z) (hbf : ∀ u, u < M → ∀ b ∈ bef u, ∃ k : Nat, b = k ∧ k < M) (ht : t < M)
    (h : costsL ln bef cl M t n = some res) : Real M ln bef t res := by
  unfold costsL at h
  have hc := hcl (t : Int)
  unfold shutAt at hc
  rw [Int.toNat_natCast] at hc
  rw [hc, if_neg (by simp)] at h
  have hl : t < (List.replicate M ((-1, 0) : C2)).length := by simpa using ht
  refine search_real hln hbf n _ _ res ⟨by simp, fun u hu => ?_⟩ ?_ h
  · rw [gC_set hl]
    by_cases e : u = t
    · subst e
      rw [if_pos rfl]
      exact ⟨.inl (Int.le_refl _), fun _ => .nil⟩
    · rw [if_neg e]
      have h2 : gC (List.replicate M ((-1, 0) : C2)) u = (-1, 0) := by unfold gC; rw [List.getElem?_replicate, if_pos hu]; rfl
      rw [h2]
      exact ⟨.inr rfl, fun h => absurd h (by simp)⟩
  · intro y hy
    obtain rfl : y = ⟨0, 0, t⟩ := by simpa using hy
    exact ⟨⟨t, rfl, ht⟩, Int.le_refl _⟩
end Go.Proofs.YtcpanfpijljeaaaGreat

/-! partM1: Plain: lists of distances: what they are, that they are one, and that looking at each move tells. -/
namespace Go.Proofs.YtcpanfpijljeaaaGreat
set_option linter.unusedVariables false
set_option linter.unusedSimpArgs false

def gI (l : List Int) (v : Nat) : Int := (l[v]?).getD 0
theorem gI_get {l : List Int} {v : Nat} (h : v < l.length) : gI l v = l[v] := by simp [gI, h]
theorem gI_set {l : List Int} {k u : Nat} {c : Int} (hk : k < l.length) : gI (l.set k c) u = if u = k then c else gI l u := by
  unfold gI
  rw [List.getElem?_set]
  by_cases h : k = u
  · subst h; simp [hk]
  · rw [if_neg h, if_neg (fun e => h e.symm)]
theorem gI_ext {l l' : List Int} {M : Nat} (h : l.length = M) (h' : l'.length = M) (he : ∀ u, u < M → gI l u = gI l' u) : l = l' := by
  apply List.ext_getElem (by omega)
  intro i h1 h2
  have := he i (by omega)
  rwa [gI_get h1, gI_get h2] at this
/-- the lists of lengths to a move -/
structure Dst (M t : Nat) (ln : Int → Int) (nx : Nat → List Nat) (D : List Int) : Prop where
  len : D.length = M
  tM : t < M
  tz : gI D t = 0
  val : ∀ u, u < M → gI D u = -1 ∨ 0 ≤ gI D u
  le : ∀ u, u < M → ∀ b ∈ nx u, 0 ≤ gI D b → 0 ≤ gI D u ∧ gI D u ≤ gI D b + ln ((b : Int) / 2)
  ex : ∀ u, u < M → u ≠ t → 0 ≤ gI D u → ∃ b ∈ nx u, 0 ≤ gI D b ∧ gI D u = gI D b + ln ((b : Int) / 2)
/-- what follows, and how long it is -/
structure Grf (M : Nat) (ln : Int → Int) (nx : Nat → List Nat) (Wm : Int) : Prop where
  nx : ∀ u, u < M → ∀ b ∈ nx u, b < M
  ln : ∀ u : Nat, u < M → 1 ≤ ln ((u : Int) / 2) ∧ ln ((u : Int) / 2) ≤ Wm
theorem dst_low {M t : Nat} {ln : Int → Int} {nx : Nat → List Nat} {Wm : Int} {D D' : List Int} (hg : Grf M ln nx Wm) (h : Dst M t ln nx D) (ht : gI D' t = 0) (hle : ∀ u, u < M → ∀ b ∈ nx u, 0 ≤ gI D' b → 0 ≤ gI D' u ∧ gI D' u ≤ gI D' b + ln ((b : Int) / 2)) :
    ∀ (n u : Nat), u < M → 0 ≤ gI D u → gI D u ≤ n → 0 ≤ gI D' u ∧ gI D' u ≤ gI D u := by
  intro n
  induction n with
  | zero =>
    intro u hu h0 hn
    by_cases e : u = t
    · subst e; rw [ht]; omega
    · obtain ⟨b, hb, b0, he⟩ := h.ex u hu e h0
      have := (hg.ln b (hg.nx u hu b hb)).1
      omega
  | succ n ih =>
    intro u hu h0 hn
    by_cases e : u = t
    · subst e; rw [ht]; omega
    · obtain ⟨b, hb, b0, he⟩ := h.ex u hu e h0
      have hbM := hg.nx u hu b hb
      have := (hg.ln b hbM).1
      obtain ⟨c0, c1⟩ := ih b hbM b0 (by omega)
      have := hle u hu b hb c0
      omega
/-- the least of what follows -/
def wantS (ln : Int → Int) (l : List Int) (want : Int) (b : Nat) : Int := if gI l b = -1 then want else if want < 0 ∨ gI l b + ln ((b : Int) / 2) < want then gI l b + ln ((b : Int) / 2) else want
def wantL (ln : Int → Int) (l : List Int) (nx : List Nat) : Int := nx.foldl (wantS ln l) (-1)
theorem want_some {ln : Int → Int} {l : List Int} : ∀ (nx : List Nat) (x : Int), nx.foldl (wantS ln l) x = x ∨ ∃ b ∈ nx, gI l b ≠ -1 ∧ nx.foldl (wantS ln l) x = gI l b + ln ((b : Int) / 2) := by
  intro nx
  induction nx with
  | nil => intro x; exact .inl rfl
  | cons b nx ih =>
    intro x
    rw [List.foldl_cons]
    rcases ih (wantS ln l x b) with h | ⟨c, hc, h1, h2⟩
    · rw [h]
      unfold wantS
      split
      · exact .inl rfl
      · split
        · exact .inr ⟨b, by simp, by assumption, rfl⟩
        · exact .inl rfl
    · exact .inr ⟨c, by simp [hc], h1, h2⟩
theorem want_le {ln : Int → Int} {l : List Int} : ∀ (nx : List Nat) (x : Int), (∀ b ∈ nx, -1 ≤ gI l b ∧ 0 ≤ ln ((b : Int) / 2)) → -1 ≤ x →
    (0 ≤ x → 0 ≤ nx.foldl (wantS ln l) x ∧ nx.foldl (wantS ln l) x ≤ x) ∧ ∀ b ∈ nx, gI l b ≠ -1 → 0 ≤ nx.foldl (wantS ln l) x ∧ nx.foldl (wantS ln l) x ≤ gI l b + ln ((b : Int) / 2) := by
  intro nx
  induction nx with
  | nil => intro x _ _; exact ⟨fun h => ⟨h, Int.le_refl _⟩, fun b hb => by cases hb⟩
  | cons b nx ih =>
    intro x hn hx
    rw [List.foldl_cons]
    have hb := hn b (by simp)
    have hx' : -1 ≤ wantS ln l x b := by
      unfold wantS; split
      · exact hx
      · split <;> omega
    obtain ⟨h1, h2⟩ := ih (wantS ln l x b) (fun c hc => hn c (by simp [hc])) hx'
    refine ⟨fun h0 => ?_, fun c hc hne => ?_⟩
    · have : 0 ≤ wantS ln l x b ∧ wantS ln l x b ≤ x := by
        unfold wantS; split
        · omega
        · split <;> omega
      have := h1 this.1
      omega
    · rcases List.mem_cons.1 hc with rfl | hc
      · have : 0 ≤ wantS ln l x c ∧ wantS ln l x c ≤ gI l c + ln ((c : Int) / 2) := by
          unfold wantS; rw [if_neg hne]
          split <;> omega
        have := h1 this.1
        omega
      · exact h2 c hc hne
def Cons (M t : Nat) (ln : Int → Int) (nx : Nat → List Nat) (l : List Int) : Prop := l.length = M ∧ ∀ u, u < M → gI l u = if u = t then 0 else wantL ln l (nx u)
theorem Dst.cons {M t : Nat} {ln : Int → Int} {nx : Nat → List Nat} {Wm : Int} {l : List Int} (hg : Grf M ln nx Wm) (h : Dst M t ln nx l) : Cons M t ln nx l := by
  refine ⟨h.len, fun u hu => ?_⟩
  by_cases e : u = t
  · subst e; rw [if_pos rfl, h.tz]
  · rw [if_neg e]
    have hwl := want_le (ln := ln) (l := l) (nx u) (-1) (fun b hb => ⟨by have := h.val b (hg.nx u hu b hb); omega, by have := (hg.ln b (hg.nx u hu b hb)).1; omega⟩) (Int.le_refl _)
    unfold wantL
    rcases want_some (ln := ln) (l := l) (nx u) (-1) with h1 | ⟨b, hb, h1, h2⟩
    · rw [h1]
      rcases h.val u hu with h3 | h3
      · exact h3
      · obtain ⟨b, hb, b0, _⟩ := h.ex u hu e h3
        have := hwl.2 b hb (by omega)
        omega
    · have hb0 := h.val b (hg.nx u hu b hb)
      obtain ⟨c0, c1⟩ := h.le u hu b hb (by omega)
      obtain ⟨d, hd, d0, d1⟩ := h.ex u hu e c0
      have := hwl.2 d hd (by omega)
      omega
theorem countP_lt {α : Type} {p q : α → Bool} : ∀ {l : List α}, (∀ a ∈ l, p a = true → q a = true) → (∃ a ∈ l, q a = true ∧ p a = false) → l.countP p + 1 ≤ l.countP q := by
  intro l
  induction l with
  | nil => intro _ h; obtain ⟨a, h, _⟩ := h; cases h
  | cons x l ih =>
    intro h1 h2
    have hm : l.countP p ≤ l.countP q := List.countP_mono_left fun a ha => h1 a (by simp [ha])
    rw [List.countP_cons, List.countP_cons]
    obtain ⟨a, ha, hq, hp⟩ := h2
    rcases List.mem_cons.1 ha with rfl | ha
    · rw [hq, hp]; simp; omega
    · have := ih (fun a ha => h1 a (by simp [ha])) ⟨a, ha, hq, hp⟩
      have := h1 x (by simp)
      by_cases e : p x = true
      · rw [e, this e]; simp; omega
      · rw [if_neg e]; split <;> omega
theorem dst_cnt {M t : Nat} {ln : Int → Int} {nx : Nat → List Nat} {Wm : Int} {D : List Int} (hg : Grf M ln nx Wm) (h : Dst M t ln nx D) : ∀ (n u : Nat), u < M → 0 ≤ gI D u → gI D u ≤ n →
    gI D u ≤ ((List.range M).countP fun v => decide (0 ≤ gI D v ∧ gI D v < gI D u) : Nat) * Wm := by
  intro n
  have hW : 0 ≤ Wm := by have := hg.ln t h.tM; omega
  induction n with
  | zero =>
    intro u hu h0 hn
    have := Int.mul_nonneg (Int.natCast_nonneg ((List.range M).countP fun v => decide (0 ≤ gI D v ∧ gI D v < gI D u))) hW
    omega
  | succ n ih =>
    intro u hu h0 hn
    by_cases e : u = t
    · have := Int.mul_nonneg (Int.natCast_nonneg ((List.range M).countP fun v => decide (0 ≤ gI D v ∧ gI D v < gI D u))) hW
      subst e
      rw [h.tz] at *
      omega
    · obtain ⟨b, hb, b0, he⟩ := h.ex u hu e h0
      have hbM := hg.nx u hu b hb
      have hl := hg.ln b hbM
      have h1 := ih b hbM b0 (by omega)
      have h2 : ((List.range M).countP fun v => decide (0 ≤ gI D v ∧ gI D v < gI D b)) + 1 ≤ ((List.range M).countP fun v => decide (0 ≤ gI D v ∧ gI D v < gI D u)) := by
        refine countP_lt (fun a _ ha => ?_) ⟨b, by simpa using hbM, ?_, ?_⟩
        · simp only [decide_eq_true_eq] at ha ⊢; omega
        · simp only [decide_eq_true_eq]; omega
        · simp
      have h3 : ((((List.range M).countP fun v => decide (0 ≤ gI D v ∧ gI D v < gI D b)) + 1 : Nat) : Int) * Wm ≤ (((List.range M).countP fun v => decide (0 ≤ gI D v ∧ gI D v < gI D u)) : Nat) * Wm :=
        Int.mul_le_mul_of_nonneg_right (by omega) hW
      rw [Int.natCast_add, Int.add_mul] at h3
      omega
theorem Dst.bd {M t : Nat} {ln : Int → Int} {nx : Nat → List Nat} {Wm : Int} {D : List Int} (hg : Grf M ln nx Wm) (h : Dst M t ln nx D) {u : Nat} (hu : u < M) : -1 ≤ gI D u ∧ gI D u ≤ (M : Int) * Wm := by
  have hW : 0 ≤ Wm := by have := hg.ln t h.tM; omega
  have hM := Int.mul_nonneg (Int.natCast_nonneg M) hW
  rcases h.val u hu with h0 | h0
  · omega
  · have h1 := dst_cnt hg h (gI D u).toNat u hu h0 (by omega)
    have h2 : ((List.range M).countP fun v => decide (0 ≤ gI D v ∧ gI D v < gI D u)) ≤ M := by
      have := List.countP_le_length (p := fun v => decide (0 ≤ gI D v ∧ gI D v < gI D u)) (l := List.range M)
      rwa [List.length_range] at this
    have h3 : (((List.range M).countP fun v => decide (0 ≤ gI D v ∧ gI D v < gI D u) : Nat) : Int) * Wm ≤ (M : Int) * Wm := Int.mul_le_mul_of_nonneg_right (by omega) hW
    omega
/-- from what the search gives -/
theorem fin_next {M t : Nat} {ln : Int → Int} {bef : Nat → List Int} {nx : Nat → List Nat} {cs : List C2} (h : Fin M t ln bef cs) (hr : Real M ln bef t cs) (hbn : ∀ u b : Nat, (u : Int) ∈ bef b → b ∈ nx u ∧ b < M) {u : Nat} (hu : u < M) (ht : u ≠ t) (h0 : 0 ≤ (gC cs u).1) :
    ∃ b ∈ nx u, 0 ≤ (gC cs b).1 ∧ (gC cs b).1 + ln ((b : Int) / 2) = (gC cs u).1 ∧ (gC cs b).2 + 1 = (gC cs u).2 := by
  have hw := (hr.2 u hu).2 h0
  generalize hl : (gC cs u).1 = L at hw
  generalize hm : (gC cs u).2 = K at hw
  cases hw with
  | nil => exact (ht rfl).elim
  | @cons b _ l m hb hw =>
    obtain ⟨hbn1, hbM⟩ := hbn u b hb
    -- b's label is at most what the way costs
    have key : ∀ {w : Nat} {l m : Int}, Wy ln bef t w l m → w < M → 0 ≤ (gC cs w).1 ∧ leC (gC cs w) (l, m) := by
      intro w l m hw
      induction hw with
      | nil => intro _; exact ⟨h.tgt.2.1, h.tgt.2.2⟩
      | @cons u w l m hb _ ih =>
        intro hwM
        obtain ⟨a1, a2⟩ := ih (hbn _ _ hb).2
        obtain ⟨w', e, _, b1, b2⟩ := h.rel u (hbn _ _ hb).2 a1 _ hb
        obtain rfl : w = w' := by omega
        refine ⟨b1, ?_⟩
        unfold leC at *
        simp only at *
        omega
    obtain ⟨k0, k1⟩ := key hw hbM
    obtain ⟨w', e, _, b1, b2⟩ := h.rel b hbM k0 _ hb
    obtain rfl : u = w' := by omega
    refine ⟨b, hbn1, k0, ?_⟩
    unfold leC at *
    simp only at *
    omega
theorem gI_map {cs : List C2} {u : Nat} : gI (cs.map (·.1)) u = (gC cs u).1 := by
  unfold gI gC
  rw [List.getElem?_map]
  cases cs[u]? <;> rfl
theorem fin_dst {M t : Nat} {ln : Int → Int} {bef : Nat → List Int} {nx : Nat → List Nat} {cs : List C2} (h : Fin M t ln bef cs) (hr : Real M ln bef t cs) (hbn : ∀ u b : Nat, (u : Int) ∈ bef b → b ∈ nx u ∧ b < M) (hnb : ∀ u b : Nat, u < M → b ∈ nx u → (u : Int) ∈ bef b ∧ b < M) : Dst M t ln nx (cs.map (·.1)) := by
  refine ⟨by rw [List.length_map, h.len], h.tgt.1, ?_, fun u hu => ?_, fun u hu b hb h0 => ?_, fun u hu e h0 => ?_⟩
  · rw [gI_map]; have := h.tgt.2; unfold leC at this; simp only at this; omega
  · rw [gI_map]; have := (hr.2 u hu).1; omega
  · rw [gI_map] at h0 ⊢
    obtain ⟨hb1, hbM⟩ := hnb u b hu hb
    obtain ⟨w', e, _, b1, b2⟩ := h.rel b hbM h0 _ hb1
    obtain rfl : u = w' := by omega
    rw [gI_map]
    unfold leC at b2
    simp only at b2
    omega
  · rw [gI_map] at h0
    obtain ⟨b, hb, b0, b1, _⟩ := fin_next h hr hbn hu e h0
    exact ⟨b, hb, by rw [gI_map]; exact b0, by rw [gI_map, gI_map]; omega⟩
/-- the lists on the way there -/
structure Rlx (M t : Nat) (D : List Int) (Wm : Int) (l : List Int) : Prop where
  len : l.length = M
  tM : t < M
  tz : gI l t = 0
  val : ∀ u, u < M → gI l u = -1 ∨ (0 ≤ gI D u ∧ gI D u ≤ gI l u)
  bd : ∀ u, u < M → gI l u + Wm ≤ (l.countP fun x => decide (0 ≤ x) : Nat) * Wm
def potI (B : Nat) (x : Int) : Nat := if x < 0 then B + 1 else x.toNat
def pot (B : Nat) (l : List Int) : Nat := (l.map (potI B)).sum
theorem sum_set {f : Int → Nat} {v : Int} : ∀ {l : List Int} {i : Nat} (h : i < l.length), ((l.set i v).map f).sum + f l[i] = (l.map f).sum + f v := by
  intro l
  induction l with
  | nil => intro i h; simp at h
  | cons x l ih =>
    intro i h
    cases i with
    | zero => simp; omega
    | succ i =>
      have := ih (i := i) (by simpa using h)
      simp only [List.set_cons_succ, List.map_cons, List.sum_cons, List.getElem_cons_succ]
      omega
theorem cnt_set {p : Int → Bool} {v : Int} : ∀ {l : List Int} {i : Nat} (h : i < l.length), (l.set i v).countP p + (if p l[i] then 1 else 0) = l.countP p + (if p v then 1 else 0) := by
  intro l
  induction l with
  | nil => intro i h; simp at h
  | cons x l ih =>
    intro i h
    cases i with
    | zero => simp [List.countP_cons]; omega
    | succ i =>
      have := ih (i := i) (by simpa using h)
      simp only [List.set_cons_succ, List.countP_cons, List.getElem_cons_succ]
      omega
theorem Rlx.bdM {M t : Nat} {D : List Int} {Wm : Int} {l : List Int} (h : Rlx M t D Wm l) (hW : 0 ≤ Wm) {u : Nat} (hu : u < M) : gI l u + Wm ≤ (M : Int) * Wm := by
  have h1 := h.bd u hu
  have h2 : (l.countP fun x => decide (0 ≤ x)) ≤ M := by have := List.countP_le_length (p := fun x : Int => decide (0 ≤ x)) (l := l); rwa [h.len] at this
  have h3 : (((l.countP fun x => decide (0 ≤ x)) : Nat) : Int) * Wm ≤ (M : Int) * Wm := Int.mul_le_mul_of_nonneg_right (by omega) hW
  omega
theorem Rlx.set {M t : Nat} {ln : Int → Int} {nx : Nat → List Nat} {Wm : Int} {D : List Int} {l : List Int} (hg : Grf M ln nx Wm) (hD : Dst M t ln nx D) (h : Rlx M t D Wm l) {u b : Nat} (hu : u < M) (hb : b ∈ nx u) (h0 : 0 ≤ gI l b) (hx : gI l u < 0 ∨ gI l b + ln ((b : Int) / 2) < gI l u) :
    Rlx M t D Wm (l.set u (gI l b + ln ((b : Int) / 2))) ∧ pot ((M : Int) * Wm).toNat (l.set u (gI l b + ln ((b : Int) / 2))) < pot ((M : Int) * Wm).toNat l := by
  have hbM := hg.nx u hu b hb
  have hl := hg.ln b hbM
  have hW : 0 ≤ Wm := by omega
  have hut : u ≠ t := by
    rintro rfl
    have := h.tz
    omega
  have hul : u < l.length := by rw [h.len]; exact hu
  have hv := h.val b hbM
  have hle := hD.le u hu b hb (by omega)
  have hgu := gI_get hul
  have hcs := cnt_set (p := fun x : Int => decide (0 ≤ x)) (v := gI l b + ln ((b : Int) / 2)) hul
  rw [← hgu] at hcs
  have hnn : decide (0 ≤ gI l b + ln ((b : Int) / 2)) = true := by rw [decide_eq_true_eq]; omega
  rw [hnn, if_pos rfl] at hcs
  have hbb := h.bd b hbM
  have hbbM := h.bdM hW hbM
  have hv' := h.val u hu
  refine ⟨⟨by rw [List.length_set, h.len], h.tM, by rw [gI_set hul, if_neg (fun e => hut e.symm), h.tz], fun x hxM => ?_, fun x hxM => ?_⟩, ?_⟩
  · rw [gI_set hul]
    split
    · rename_i e; subst e; exact .inr (by omega)
    · exact h.val x hxM
  · have hgx : gI (l.set u (gI l b + ln ((b : Int) / 2))) x = if x = u then gI l b + ln ((b : Int) / 2) else gI l x := gI_set hul
    rw [hgx]
    have hbx := h.bd x hxM
    have hbu := h.bd u hu
    by_cases hn : 0 ≤ gI l u
    · have : decide (0 ≤ gI l u) = true := by rw [decide_eq_true_eq]; exact hn
      rw [this, if_pos rfl] at hcs
      have e : ((l.set u (gI l b + ln ((b : Int) / 2))).countP fun x => decide (0 ≤ x)) = l.countP fun x => decide (0 ≤ x) := by omega
      rw [e]
      split <;> omega
    · have : decide (0 ≤ gI l u) = false := by rw [decide_eq_false_iff_not]; exact hn
      rw [this] at hcs
      have e : ((l.set u (gI l b + ln ((b : Int) / 2))).countP fun x => decide (0 ≤ x)) = (l.countP fun x => decide (0 ≤ x)) + 1 := by simpa using hcs
      rw [e, Int.natCast_add, Int.add_mul]
      split <;> omega
  · unfold pot
    have := sum_set (f := potI ((M : Int) * Wm).toNat) (v := gI l b + ln ((b : Int) / 2)) hul
    rw [← hgu] at this
    have h1 : potI ((M : Int) * Wm).toNat (gI l b + ln ((b : Int) / 2)) < potI ((M : Int) * Wm).toNat (gI l u) := by
      unfold potI
      rw [if_neg (by omega)]
      split <;> omega
    omega
theorem Rlx.done {M t : Nat} {ln : Int → Int} {nx : Nat → List Nat} {Wm : Int} {D : List Int} {l : List Int} (hg : Grf M ln nx Wm) (hD : Dst M t ln nx D) (h : Rlx M t D Wm l) (hle : ∀ u, u < M → ∀ b ∈ nx u, 0 ≤ gI l b → 0 ≤ gI l u ∧ gI l u ≤ gI l b + ln ((b : Int) / 2)) : l = D := by
  refine gI_ext h.len hD.len fun u hu => ?_
  have a := dst_low hg hD h.tz hle
  have v := h.val u hu
  rcases hD.val u hu with x | x
  · omega
  · have := a (gI D u).toNat u hu x (by omega); omega
theorem Rlx.start {M t : Nat} {ln : Int → Int} {nx : Nat → List Nat} {Wm : Int} {D : List Int} (hg : Grf M ln nx Wm) (hD : Dst M t ln nx D) : Rlx M t D Wm ((List.replicate M (-1)).set t 0) := by
  have hW : 0 ≤ Wm := by have := hg.ln t hD.tM; omega
  have ht : t < (List.replicate M (-1 : Int)).length := by simpa using hD.tM
  have hc := cnt_set (p := fun x : Int => decide (0 ≤ x)) (v := 0) ht
  have h1 : ((List.replicate M (-1 : Int)).set t 0).countP (fun x => decide (0 ≤ x)) = 1 := by
    rw [List.countP_replicate] at hc
    simpa using hc
  refine ⟨by simp, hD.tM, by rw [gI_set ht, if_pos rfl], fun u hu => ?_, fun u hu => ?_⟩
  · rw [gI_set ht]
    split
    · rename_i e; subst e; exact .inr (by rw [hD.tz]; omega)
    · left; simp [gI, hu]
  · rw [h1, gI_set ht]
    split
    · omega
    · have : gI (List.replicate M (-1)) u = -1 := by simp [gI, hu]
      rw [this]; omega

/-- the moves that follow, as numbers -/
def nxN (p : Pl) (u : Nat) : List Nat := (nextL p u).map Int.toNat
theorem mem_nxN {p : Pl} (hv : Vld p) {u b : Nat} (hu : u < 2 * p.rails.length) : b ∈ nxN p u ↔ (b : Int) ∈ nextL p u := by
  unfold nxN
  rw [List.mem_map]
  constructor
  · rintro ⟨z, hz, rfl⟩
    have := nextL_bd hv hu z hz
    rwa [show ((z.toNat : Nat) : Int) = z by omega]
  · intro h; exact ⟨_, h, by simp⟩
theorem lenTo_ok {l : List S} : ∀ k, (∀ j, j < k → 1 ≤ far (sAt l j) (sAt l (j + 1)) ∧ far (sAt l j) (sAt l (j + 1)) ≤ 1000000) → k ≤ lenTo l k ∧ lenTo l k ≤ k * 1000000 := by
  intro k
  induction k with
  | zero => intro _; simp [lenTo]
  | succ k ih =>
    intro h
    have := ih fun j hj => h j (by omega)
    have := h k (by omega)
    simp only [lenTo]
    omega
theorem lenAt_ok {p : Pl} (hv : Vld p) {r : Nat} (hr : r < p.rails.length) : 1 ≤ lenAt p (r : Int) ∧ lenAt p (r : Int) ≤ 31000000 := by
  have h1 := hv.rail hr
  have h2 := (railB_ix h1.1).2.2
  have hA := allR_line (spots_ok hv.nodes) h1.1
  have h3 := (okL_iff _).1 h1.2
  have hl : (lineOf p p.rails[r]).length = p.rails[r].shape.length + 2 := by simp [lineOf]
  have h4 := lenTo_ok (l := lineOf p p.rails[r]) ((lineOf p p.rails[r]).length - 1) fun j hj => by
    have h5 := h3 j hj
    rw [okD_far (sqd_lt (hA j (by omega)) (hA (j + 1) (by omega)))] at h5
    exact of_decide_eq_true h5
  have h6 : lenAt p (r : Int) = ((lenOf (lineOf p p.rails[r]) : Nat) : Int) := by simp [lenAt, lensOf, lenZ, hr]
  rw [h6]
  unfold lenOf
  omega
theorem plan_gr {p : Pl} (hv : Vld p) : Grf (2 * p.rails.length) (lenAt p) (nxN p) 31000000 := by
  refine ⟨fun u hu b hb => ?_, fun u hu => ?_⟩
  · have := nextL_bd hv hu _ ((mem_nxN hv hu).1 hb)
    omega
  · have := lenAt_ok hv (r := u / 2) (by omega)
    rwa [show (((u / 2 : Nat)) : Int) = (u : Int) / 2 by omega] at this
end Go.Proofs.YtcpanfpijljeaaaGreat

/-! partM2: Contract: the specification's Distances. -/
namespace Go.Proofs.YtcpanfpijljeaaaGreat
set_option linter.unusedVariables false
set_option linter.unusedSimpArgs false
open Go.RowKit

theorem endNo_moveU {x : Int} : endNo (moveE x) = x := by
  unfold endNo moveE
  by_cases h : x % 2 = 1
  · simp [h]; omega
  · simp [h]; omega
theorem keyE_moveU (k : Nat) : keyE (moveE (k : Int)) = k := by
  unfold keyE; rw [endNo_moveU]; simp
theorem moveE_in {p : Pl} {k : Nat} (h : k < 2 * p.rails.length) : railIn p (moveE (k : Int)).rail = true := by
  unfold moveE railIn; simp; omega
theorem rLength_in (A A2 : Option Addr) (c c2 : Nat) (p : Pl) (r : Int) (w : World) (hP : PlAt w w.heap.size A c A2 c2 p) (hv : Vld p) (hr : railIn p r = true) :
    Calls Tryz.prog 35 #[.agg #[.slice A p.nodes.length c, .slice A2 p.rails.length c2], .int .i64 r] w (PlainPost (.int .i64 (lenAt p r)) w) := by
  have h2 := of_decide_eq_true hr
  obtain ⟨k, rfl⟩ := Int.eq_ofNat_of_zero_le h2.1
  have hk : k < p.rails.length := by omega
  have h1 := railB_ix (hv.rail hk).1
  refine (rLength_any A A2 c c2 p k w hP hk h1.1 h1.2.1 (by omega) (allR_line (spots_ok hv.nodes) (hv.rail hk).1)).mono ?_
  rintro e w' ⟨rfl, hb⟩
  exact ⟨by rw [show lenAt p (k : Int) = ((lenOf (lineOf p p.rails[k]) : Nat) : Int) by simp [lenAt, lensOf, lenZ, hk]], hb⟩

/-- the row of 'Distances' -/
structure DS (M t : Nat) (D : List Int) (Wm : Int) (W1 wr : World) (S : Nat) (l : List Int) : Prop where
  r : IRow wr S l
  x : Rlx M t D Wm l
  be : Below S W1 wr
section
variable {M t : Nat} {D : List Int} {Wm : Int} {W1 wr w2 : World} {S : Nat} {l : List Int}
theorem DS.sz (h : DS M t D Wm W1 wr S l) : S + 1 ≤ wr.heap.size := h.r.lt
theorem DS.next (h : DS M t D Wm W1 wr S l) (hb : Below wr.heap.size wr w2) : DS M t D Wm W1 w2 S l :=
  ⟨h.r.below hb h.r.lt, h.x, h.be.trans (hb.mono (by have := h.sz; omega))⟩
theorem DS.set {k : Nat} {x : Int} (h : DS M t D Wm W1 wr S l) (hx : Rlx M t D Wm (l.set k x)) : DS M t D Wm W1 (wr.setCell ⟨S, k, none⟩ (.int .i64 x)) S (l.set k x) :=
  ⟨h.r.set k x, hx, h.be.setCell (p := ⟨S, k, none⟩) (Nat.le_refl _) _⟩
end
end Go.Proofs.YtcpanfpijljeaaaGreat

/-! partM3: Contracts: leastBeyond, consistent, Consistent. -/
namespace Go.Proofs.YtcpanfpijljeaaaGreat
set_option linter.unusedVariables false
set_option linter.unusedSimpArgs false
open Go.RowKit

/-- what 'consistent' looks at -/
def TCon (p : Pl) (M t : Nat) (l : List Int) (k : Nat) : Prop := ∀ u, u < k → -1 ≤ gI l u ∧ gI l u ≤ (M : Int) * 31000000 ∧ (u ≠ t → gI l u = wantL (lenAt p) l (nxN p u))
theorem TCon.succ {p : Pl} {M t k : Nat} {l : List Int} (h : TCon p M t l k) (h1 : -1 ≤ gI l k ∧ gI l k ≤ (M : Int) * 31000000) (h2 : k ≠ t → gI l k = wantL (lenAt p) l (nxN p k)) : TCon p M t l (k + 1) := fun u hu => by
  by_cases e : u = k
  · subst e; exact ⟨h1.1, h1.2, h2⟩
  · exact h u (by omega)

end Go.Proofs.YtcpanfpijljeaaaGreat

/-! partM4: Contract: the specification's Consistent. -/
namespace Go.Proofs.YtcpanfpijljeaaaGreat
set_option linter.unusedVariables false
set_option linter.unusedSimpArgs false
open Go.RowKit

end Go.Proofs.YtcpanfpijljeaaaGreat

/-! partM5: Contracts: the predicate of descend, IndexFunc at it, descend. -/
namespace Go.Proofs.YtcpanfpijljeaaaGreat
set_option linter.unusedVariables false
set_option linter.unusedSimpArgs false
open Go.RowKit

/-- the step of descend -/
def stepB (ln : Int → Int) (cs : List C2) (u z : Nat) : Bool := decide (0 ≤ (gC cs z).1) && decide ((gC cs z).1 + ln ((z : Int) / 2) = (gC cs u).1) && decide ((gC cs z).2 + 1 = (gC cs u).2)
/-- costs that fit into integers -/
def BdC (cs : List C2) : Prop := ∀ u, u < cs.length → -1 ≤ (gC cs u).1 ∧ (gC cs u).1 ≤ 1000000000000 ∧ (0 ≤ (gC cs u).1 → 0 ≤ (gC cs u).2 ∧ (gC cs u).2 ≤ 1000000000000)
theorem gC_get {cs : List C2} {v : Nat} (h : v < cs.length) : gC cs v = cs[v] := by simp [gC, h]
theorem CRow.gc {w : World} {b : Nat} {l : List C2} (h : CRow w b l) {i : Nat} (hi : i < l.length) : w.cell? ⟨b, i * 2, none⟩ = some (.int .i64 (gC l i).1) ∧ w.cell? ⟨b, i * 2 + 1, none⟩ = some (.int .i64 (gC l i).2) := by
  rw [gC_get hi]; exact h.cell hi

set_option maxRecDepth 100000 in
set_option maxHeartbeats 2000000 in
theorem step_any (B g M u z cb b7 b4 b10 : Nat) (cs : List C2) (p : Pl) (w : World) (hM : 2 * p.rails.length = M) (h : Nw w B g p) (hc : CRow w cb cs) (hl : cs.length = M) (hu : u < M) (hz : z < M) (hbd : BdC cs) (hu0 : 0 ≤ (gC cs u).1)
    (e7 : w.cell? ⟨b7, 0, none⟩ = some (.slice (some ⟨cb, 0, none⟩) M M)) (e4 : w.cell? ⟨b4, 0, none⟩ = some (.pointer (some ⟨g, 0, none⟩))) (e10 : w.cell? ⟨b10, 0, none⟩ = some (.int .i64 (u : Int))) :
    Calls Tryz.prog 84 #[.int .i64 (z : Int), .pointer (some ⟨b7, 0, none⟩), .pointer (some ⟨b4, 0, none⟩), .pointer (some ⟨b10, 0, none⟩)] w fun e w' => e = .returned (.bool (stepB (lenAt p) cs u z)) ∧ Below w.heap.size w w' := by
  have hsz := h.sizes
  have hv := h.v
  obtain ⟨A1, c1, A2, c2, lb, sb, nb, bb, hN, x1, x2, x3, x4, x5, x6⟩ := h.net
  obtain ⟨_, _, k2, _, _, _⟩ := hN.cell
  have hM8 : M ≤ 800 := by omega
  have hzh : z / 2 < p.rails.length := by omega
  have q5 := x3.cell (i := z / 2) (by rw [lens_len]; exact hzh)
  rw [lens_get hzh] at q5
  obtain ⟨r0, r1⟩ := hc.gc (i := z) (by omega)
  obtain ⟨s0, s1⟩ := hc.gc (i := u) (by omega)
  have hbz := hbd z (by omega)
  have hbu := hbd u (by omega)
  have hby := lenAt_bd hv ((z / 2 : Nat) : Int)
  obtain ⟨zl, hzl⟩ : ∃ x, (gC cs z).1 = x := ⟨_, rfl⟩
  obtain ⟨zm, hzm⟩ : ∃ x, (gC cs z).2 = x := ⟨_, rfl⟩
  obtain ⟨ul, hul⟩ : ∃ x, (gC cs u).1 = x := ⟨_, rfl⟩
  obtain ⟨um, hum⟩ : ∃ x, (gC cs u).2 = x := ⟨_, rfl⟩
  obtain ⟨y, hy⟩ : ∃ x, lenAt p ((z / 2 : Nat) : Int) = x := ⟨_, rfl⟩
  rw [hzl] at r0; rw [hzm] at r1; rw [hul] at s0 hu0; rw [hum] at s1; rw [hy] at q5 hby
  rw [hzl, hzm] at hbz
  rw [hul, hum] at hbu
  have HST := Lib.hid (show stepB (lenAt p) cs u z = (decide (0 ≤ zl) && decide (zl + y = ul) && decide (zm + 1 = um)) by
    unfold stepB; rw [hzl, hzm, hul, hum, show ((z : Int) / 2) = ((z / 2 : Nat) : Int) by omega, hy])
  obtain ⟨hz0, hz1, hz2⟩ := hbz
  obtain ⟨_, hu1, hu2⟩ := hbu
  obtain ⟨hu3, hu4⟩ := hu2 hu0
  obtain ⟨hy0, hy1⟩ := hby
  have i0 : (0 : Int) ≤ (z : Int) := by omega
  have i1 : (z : Int) < (M : Int) := by omega
  have i2 : (0 : Int) ≤ (u : Int) := by omega
  have i3 : (u : Int) < (M : Int) := by omega
  clear hN h x3 x4 x5 x6 hc hbd hzl hzm hul hum hy hu2
  by_cases c1 : 0 ≤ zl
  · obtain ⟨hz3, hz4⟩ := hz2 c1
    have w1 : IntKind.i64.wrap (zl + y) = zl + y := by rw [IntKind.wrap_i64]; omega
    have w2 : IntKind.i64.wrap (zm + 1) = zm + 1 := by rw [IntKind.wrap_i64]; omega
    clear hz2
    by_cases c2 : zl + y = ul
    · subst c2
      have d2 : ((zl + y : Int) == zl + y) = true := by simp
      by_cases c3 : zm + 1 = um
      · subst c3
        have HF := Lib.hid (show stepB (lenAt p) cs u z = true by rw [HST.out]; simp [c1])
        have d3 : ((zm + 1 : Int) == zm + 1) = true := by simp
        go_enter Tryz.func84, Tryz.ntmps84
        go_wp2
        go_quiet (fail)
        go_wp2
        go_ret
        exact ⟨by rw [HF.out]; rfl, bDrewN (Below.refl _ _) _⟩
      · have HF := Lib.hid (show stepB (lenAt p) cs u z = false by rw [HST.out]; simp [c1, c3])
        have d3 : ((zm + 1 : Int) == um) = false := by simpa using c3
        clear c3
        go_enter Tryz.func84, Tryz.ntmps84
        go_wp2
        go_quiet (fail)
        go_wp2
        go_ret
        exact ⟨by rw [HF.out]; rfl, bDrewN (Below.refl _ _) _⟩
    · have HF := Lib.hid (show stepB (lenAt p) cs u z = false by rw [HST.out]; simp [c1, c2])
      have d2 : ((zl + y : Int) == ul) = false := by simpa using c2
      clear c2
      go_enter Tryz.func84, Tryz.ntmps84
      go_wp2
      go_quiet (fail)
      go_wp2
      go_ret
      exact ⟨by rw [HF.out]; rfl, bDrewN (Below.refl _ _) _⟩
  · have HF := Lib.hid (show stepB (lenAt p) cs u z = false by rw [HST.out]; simp [c1])
    have d1 : decide (0 ≤ zl) = false := by rw [decide_eq_false_iff_not]; exact c1
    have d1' : decide (zl ≥ 0) = false := by rw [decide_eq_false_iff_not]; exact c1
    clear hz2
    go_enter Tryz.func84, Tryz.ntmps84
    go_wp2
    go_quiet (fail)
    go_wp2
    go_ret
    exact ⟨by rw [HF.out]; rfl, bDrewN (Below.refl _ _) _⟩

set_option maxRecDepth 100000 in
set_option maxHeartbeats 2000000 in
theorem indexFn_any (A : Option Addr) (L : List Int) (c : Nat) (lb : Array Value) (f : Int → Bool) (w : World) (hA : Sl w w.heap.size 1 CI A L) (hl : L.length ≤ 1000) (k : Nat) (hk : k < L.length) (hfk : f L[k] = true) (hf : ∀ j (hj : j < k), f (L[j]'(by omega)) = false)
    (hC : ∀ z ∈ L, ∀ w', Below w.heap.size w w' → Calls Tryz.prog 84 (#[.int .i64 z] ++ lb) w' fun e w2 => e = .returned (.bool (f z)) ∧ Below w'.heap.size w' w2) :
    Calls Tryz.prog 83 #[.slice A L.length c, .func (.func 84) #[] lb] w fun e w' => e = .returned (.int .i64 (k : Int)) ∧ Below w.heap.size w w' := by
  have HC := Lib.hid (show ∀ j (hj : j < L.length) (x : Int) (b : Bool), L[j] = x → f x = b → ∀ w', Below w.heap.size w w' → Calls Tryz.prog 84 (#[.int .i64 x] ++ lb) w' fun e w2 => e = .returned (.bool b) ∧ Below w'.heap.size w' w2 from fun j hj x b hx hb w' hw => by
    subst hx; subst hb
    exact hC _ (List.getElem_mem hj) w' hw)
  have HFK := Lib.hid hfk; have HF := Lib.hid hf; have HA := Lib.hid hA
  clear hC hfk hf hA
  go_enter Tryz.func83, Tryz.ntmps83
  go_wp2
  go_loopw [5, 8] (fun _ i wr => ∃ j : Nat, j ≤ k ∧ i = .int .i64 (j : Int) ∧ Below w.heap.size w wr) (fun _ i _ => L.length - (intOf i).toNat)
  case atStart => exact ⟨0, Nat.zero_le _, rfl, Below.refl _ _⟩
  case round =>
    obtain ⟨j, hj, rfl, hb⟩ := hrel
    have HB := Lib.hid hb
    have hjl : j < L.length := by omega
    obtain ⟨b3, o3, e3, g3, q3⟩ := int_at HA.out hjl
    replace q3 := (hb.cell (p := ⟨b3, o3 + j, none⟩) (by simp; omega)).trans q3
    obtain ⟨x, hx⟩ : ∃ x, L[j] = x := ⟨_, rfl⟩
    rw [hx] at q3
    have j0 : (0 : Int) ≤ (j : Int) := by omega
    have j1 : (j : Int) < (L.length : Int) := by omega
    have hzw := hb.size
    by_cases hjk : j = k
    · subst hjk
      have hcall := HC.out j hjl x true hx (by rw [← hx]; exact HFK.out) wr hb
      have HCC := Lib.hid hcall
      subst e3
      clear hx hb hcall
      go_wp2_with fail
      refine HCC.out.mono ?_
      rintro e w5 ⟨rfl, hb5⟩
      have HB5 := Lib.hid (HB.out.trans (hb5.mono hzw))
      clear hb5
      go_wp2
      go_ret
      exact ⟨rfl, HB5.out⟩
    · have hcall := HC.out j hjl x false hx (by rw [← hx]; exact HF.out j (by omega)) wr hb
      have HCC := Lib.hid hcall
      subst e3
      clear hx hb hcall
      go_wp2_with fail
      refine HCC.out.mono ?_
      rintro e w5 ⟨rfl, hb5⟩
      have HB5 := Lib.hid (HB.out.trans (hb5.mono hzw))
      clear hb5
      go_wp2
      go_roundw
      case rel => exact ⟨j + 1, by omega, by go_num, HB5.out⟩
      case measure => simp [intOf]; omega

/-- what descend has gone so far -/
structure Pth (M : Nat) (ln : Int → Int) (nx : Nat → List Nat) (cs : List C2) (f u : Nat) (q : List Nat) : Prop where
  hd : q.head? = some f
  la : q.getLast? = some u
  st : ∀ i (hi : i + 1 < q.length), q[i + 1] ∈ nx (q[i]'(by omega))
  pw : q.Pairwise fun a b => (gC cs b).1 < (gC cs a).1
  mM : ∀ x ∈ q, x < M ∧ (gC cs u).1 ≤ (gC cs x).1
  sm : (gC cs f).1 + ln ((f : Int) / 2) = (q.map fun x : Nat => ln ((x : Int) / 2)).sum + (gC cs u).1
theorem Pth.start {M : Nat} {ln : Int → Int} {nx : Nat → List Nat} {cs : List C2} {f : Nat} (hf : f < M) : Pth M ln nx cs f f [f] :=
  ⟨rfl, rfl, fun i hi => by simp at hi, by simp, fun x hx => by
    obtain rfl : x = f := by simpa using hx
    exact ⟨hf, Int.le_refl _⟩, by simp; omega⟩
theorem Pth.len {M : Nat} {ln : Int → Int} {nx : Nat → List Nat} {cs : List C2} {f u : Nat} {q : List Nat} (h : Pth M ln nx cs f u q) : 1 ≤ q.length ∧ q.length ≤ M := by
  refine ⟨?_, nodup_le (h.pw.imp fun {a b} hab e => by subst e; omega) fun x hx => (h.mM x hx).1⟩
  rcases q with _ | ⟨x, r⟩
  · have := h.hd; simp at this
  · simp
theorem Pth.last {M : Nat} {ln : Int → Int} {nx : Nat → List Nat} {cs : List C2} {f u : Nat} {q : List Nat} (h : Pth M ln nx cs f u q) : u ∈ q := List.mem_of_getLast? h.la
theorem Pth.step {M : Nat} {ln : Int → Int} {nx : Nat → List Nat} {cs : List C2} {f u v : Nat} {q : List Nat} (h : Pth M ln nx cs f u q) (hv : v ∈ nx u) (hvM : v < M) (h1 : 1 ≤ ln ((v : Int) / 2)) (he : (gC cs v).1 + ln ((v : Int) / 2) = (gC cs u).1) : Pth M ln nx cs f v (q ++ [v]) := by
  have hq := h.len.1
  refine ⟨?_, by simp, fun i hi => ?_, ?_, fun x hx => ?_, ?_⟩
  · rcases q with _ | ⟨x, r⟩
    · simp at hq
    · have := h.hd; simpa using this
  · have hi2 : i < q.length := by simpa using hi
    by_cases e : i + 1 < q.length
    · rw [List.getElem_append_left e, List.getElem_append_left hi2]
      exact h.st i e
    · rw [List.getElem_append_right (show q.length ≤ i + 1 by omega), List.getElem_append_left hi2]
      have hl := h.la
      rw [List.getLast?_eq_getElem?, show q.length - 1 = i by omega, List.getElem?_eq_getElem hi2] at hl
      rw [Option.some.inj hl]
      simpa using hv
  · rw [List.pairwise_append]
    refine ⟨h.pw, by simp, fun a ha b hb => ?_⟩
    obtain rfl : b = v := by simpa using hb
    have := (h.mM a ha).2
    omega
  · rcases List.mem_append.1 hx with hx | hx
    · have := h.mM x hx; exact ⟨this.1, by omega⟩
    · obtain rfl : x = v := by simpa using hx
      exact ⟨hvM, Int.le_refl _⟩
  · have := h.sm
    rw [List.map_append, List.sum_append]
    simp only [List.map_cons, List.map_nil, List.sum_cons, List.sum_nil]
    omega
/-- the measure: what is left -/
def muD (cs : List C2) (v : Value) (w : World) : Nat := match v with
  | .pointer (some a) => (match w.cell? a with
    | some (.int _ n) => (gC cs n.toNat).1.toNat
    | _ => 0)
  | _ => 0
/-- a first one of which something holds -/
theorem first_of (L : List Int) (f : Int → Bool) : (∃ x ∈ L, f x = true) → ∃ k, ∃ hk : k < L.length, f L[k] = true ∧ ∀ j (hj : j < k), f (L[j]'(by omega)) = false := by
  induction L with
  | nil => rintro ⟨x, hx, _⟩; cases hx
  | cons y L ih =>
    intro h
    cases hy : f y
    · obtain ⟨k, hk, h1, h2⟩ := ih (by
        obtain ⟨x, hx, hf⟩ := h
        rcases List.mem_cons.1 hx with rfl | hx
        · rw [hy] at hf; cases hf
        · exact ⟨x, hx, hf⟩)
      refine ⟨k + 1, by simpa using hk, by simpa using h1, fun j hj => ?_⟩
      cases j with
      | zero => simpa using hy
      | succ j => have := h2 j (by omega); simpa using this
    · exact ⟨0, by simp, by simpa using hy, fun j hj => by omega⟩

/-- what lies in memory while descend goes -/
structure DG (w wr : World) (W1 : World) (bm : Nat) (v : Value) (u : Nat) (q : List Nat) : Prop where
  ro : wr.heap[bm]? = some (.cells #[.int .i64 (u : Int)] 3)
  bo : W1.heap.size ≤ bm
  ow : Own wr W1.heap.size 3 1 fI v (q.map fun x : Nat => (x : Int))
  ne : ∀ k, v.ownBlock = some k → k ≠ bm
  be : Below W1.heap.size W1 wr

set_option maxRecDepth 100000 in
set_option maxHeartbeats 4000000 in
theorem descend_any (B g M f t cb : Nat) (cs : List C2) (p : Pl) (w : World) (hM : 2 * p.rails.length = M) (h : Nw w B g p) (hB : B ≤ w.heap.size) (hc : CRow w cb cs) (hl : cs.length = M) (hf : f < M) (ht : t < M) (hbd : BdC cs)
    (hnx : ∀ u, u < M → u ≠ t → 0 ≤ (gC cs u).1 → ∃ b ∈ nxN p u, stepB (lenAt p) cs u b = true) (hf0 : 0 ≤ (gC cs f).1) :
    Calls Tryz.prog 58 #[.pointer (some ⟨g, 0, none⟩), .int .i64 (f : Int), .int .i64 (t : Int), .slice (some ⟨cb, 0, none⟩) M M] w fun e w' => (∃ v q, e = .returned v ∧ Own w' w.heap.size 3 1 fI v (q.map fun x : Nat => (x : Int)) ∧ Pth M (lenAt p) (nxN p) cs f t q) ∧ Below w.heap.size w w' := by
  have hsz := h.sizes
  have hgB := h.gB
  have hv := h.v
  have hM8 : M ≤ 800 := by omega
  have hcl := hc.lt
  obtain ⟨i0, hi, hz0, hz1, hz2⟩ := info_parts inf3
  have hg : Grf M (lenAt p) (nxN p) 31000000 := by rw [← hM]; exact plan_gr hv
  have HG := Lib.hid hg
  have HPTH := Lib.hid (fun (u : Nat) (q : List Nat) (hp : Pth M (lenAt p) (nxN p) cs f u q) => (hp.mM u hp.last).1)
  have HFST := Lib.hid (show ∀ u, u < M → u ≠ t → 0 ≤ (gC cs u).1 → ∃ k z : Nat, ∃ hk : k < (nextL p u).length, (nextL p u)[k] = (z : Int) ∧ stepB (lenAt p) cs u (nextL p u)[k].toNat = true ∧ (∀ j (hj : j < k), stepB (lenAt p) cs u ((nextL p u)[j]'(by omega)).toNat = false) ∧ z < M ∧ z ∈ nxN p u ∧ 0 ≤ (gC cs z).1 ∧ (gC cs z).1 + lenAt p ((z : Int) / 2) = (gC cs u).1 from fun u hu hut hu0 => by
    obtain ⟨b, hb, hst⟩ := hnx u hu hut hu0
    have hb2 := (mem_nxN hv (by omega)).1 hb
    obtain ⟨k, hk, h1, h2⟩ := first_of (nextL p u) (fun x => stepB (lenAt p) cs u x.toNat) ⟨_, hb2, by simpa using hst⟩
    have hz := nextL_bd hv (by omega) _ (List.getElem_mem hk)
    have h3 := h1
    unfold stepB at h3
    simp only [Bool.and_eq_true, decide_eq_true_eq] at h3
    exact ⟨k, (nextL p u)[k].toNat, hk, by omega, h1, h2, by omega, (mem_nxN hv (by omega)).2 (by rw [show (((nextL p u)[k].toNat : Nat) : Int) = (nextL p u)[k] by omega]; exact List.getElem_mem hk), h3.1.1, h3.1.2⟩)
  have HNB := Lib.hid (show ∀ u, u < M → ∀ z ∈ nextL p u, ∃ x : Nat, z = x ∧ x < M from fun u hu z hz => by
    have := nextL_bd hv (by omega) z hz
    exact ⟨z.toNat, by omega, by omega⟩)
  have HBC := Lib.hid hbd
  have HCL := Lib.hid hl; have HMM := Lib.hid hM
  have HT0 := Lib.hid ht
  have hb0 : Below w.heap.size w ((w.alloc (.cells #[.pointer (some ⟨g, 0, none⟩)] 100)).alloc (.cells #[.slice (some ⟨cb, 0, none⟩) M M] 115)) := ((Below.refl _ w).alloc (Nat.le_refl _) _).alloc (by simp) _
  have HB0 := Lib.hid hb0
  have HX := Lib.hid (show ∀ j : Nat, ((w.alloc (.cells #[.pointer (some ⟨g, 0, none⟩)] 100)).alloc (.cells #[.slice (some ⟨cb, 0, none⟩) M M] 115)).cell? ⟨w.heap.size, j, none⟩ = #[.pointer (some ⟨g, 0, none⟩)][j]? ∧ ((w.alloc (.cells #[.pointer (some ⟨g, 0, none⟩)] 100)).alloc (.cells #[.slice (some ⟨cb, 0, none⟩) M M] 115)).cell? ⟨w.heap.size + 1, j, none⟩ = #[.slice (some ⟨cb, 0, none⟩) M M][j]? from fun j => by
    have h1 := cell_keep1 (o := .cells #[.slice (some ⟨cb, 0, none⟩) M M] 115) (cell_new1 w #[.pointer (some ⟨g, 0, none⟩)] 100 j) (by simp)
    have h2 := cell_new1 (w.alloc (.cells #[.pointer (some ⟨g, 0, none⟩)] 100)) #[.slice (some ⟨cb, 0, none⟩) M M] 115 j
    rw [show (w.alloc (.cells #[.pointer (some ⟨g, 0, none⟩)] 100)).heap.size = w.heap.size + 1 by simp] at h2
    exact ⟨h1, h2⟩)
  have HN := Lib.hid ((h.below (hb0.mono hB)).more (Nat.le_trans hB hb0.size))
  have HC := Lib.hid (hc.below hb0 hcl)
  obtain ⟨W1, hW1⟩ : ∃ W1, (w.alloc (.cells #[.pointer (some ⟨g, 0, none⟩)] 100)).alloc (.cells #[.slice (some ⟨cb, 0, none⟩) M M] 115) = W1 := ⟨_, rfl⟩
  have hzW : W1.heap.size = w.heap.size + 2 := by rw [← hW1]; simp
  rw [hW1] at HB0 HX HN HC
  have HO1 := Lib.hid (show DG w ((W1.alloc (.cells #[.int .i64 (f : Int)] 3)).alloc (.cells #[.int .i64 (f : Int)] 3)) W1 (W1.heap.size + 1) (.slice (some ⟨W1.heap.size, 0, none⟩) 1 1) f [f] from by
    have h1 := Own.built (f := fI) (size := 1) W1 W1.heap.size 3 (f : Int) #[.int .i64 (f : Int)] rfl fI_len (Nat.le_refl _)
    have h2 := heap_alloc_new (W1.alloc (.cells #[.int .i64 (f : Int)] 3)) (.cells #[.int .i64 (f : Int)] 3)
    rw [show (W1.alloc (.cells #[.int .i64 (f : Int)] 3)).heap.size = W1.heap.size + 1 by simp] at h2
    exact ⟨h2, by omega, h1.alloc _, fun k hk => by
      have : k = W1.heap.size := by simpa [Value.ownBlock] using hk.symm
      omega, ((Below.refl _ W1).alloc (Nat.le_refl _) _).alloc (by simp) _⟩)
  have hf1 : (0 : Int) ≤ (f : Int) := by omega
  have HF0 := Lib.hid hf0; have HFM := Lib.hid hf
  clear h hc hb0 hsz hv hg hbd hnx hf0 hl hM ht hf
  go_enter Tryz.func58, Tryz.ntmps58
  go_wp2_with fail
  clear hW1
  have hw2 : w.heap.size + 2 = W1.heap.size := hzW.symm
  simp only [hw2]
  have hwa : W1.heap.size ≤ w.heap.size + 2 := by omega
  have hwb : w.heap.size + 2 ≤ W1.heap.size := by omega
  clear hw2 hzW
  generalize ((W1.alloc (.cells #[.int .i64 (f : Int)] 3)).alloc (.cells #[.int .i64 (f : Int)] 3)) = W2 at *
  go_loopw [9, 10] (fun s9 s10 wr => ∃ (q : List Nat) (u bm : Nat), s10 = .pointer (some ⟨bm, 0, none⟩) ∧ DG w wr W1 bm s9 u q ∧ Pth M (lenAt p) (nxN p) cs f u q ∧ 0 ≤ (gC cs u).1) (fun _ s10 wr => muD cs s10 wr)
  case atStart => exact ⟨[f], f, W1.heap.size + 1, rfl, HO1.out, Pth.start HFM.out, HF0.out⟩
  case round =>
    obtain ⟨q, u, bm, rfl, hdg, hpt, hu0⟩ := hrel
    have huM := HPTH.out u q hpt
    have HDG := Lib.hid hdg; have HPT := Lib.hid hpt; have HU0 := Lib.hid hu0
    have hq8 := hpt.len.2
    have hzr := hdg.be.size
    have hbml : bm < wr.heap.size := (Array.getElem?_eq_some_iff.1 hdg.ro).1
    have hbo := hdg.bo
    have m0 := cell_of_row wr bm 0 _ 3 (0, 0) hdg.ro
    simp only [List.getElem?_toArray, List.getElem?_cons_zero] at m0
    have HMU := Lib.hid (show muD cs (.pointer (some ⟨bm, 0, none⟩)) wr = (gC cs u).1.toNat by simp only [muD, m0, Int.toNat_natCast])
    have iu0 : (0 : Int) ≤ (u : Int) := by omega
    have iu1 : (u : Int) < (M : Int) := by omega
    clear hdg hpt hu0
    by_cases hut : u = t
    · subst hut
      have HPT2 := Lib.hid HPT.out
      have n1 : ((u : Int) != (u : Int)) = false := by simp
      have n2 : (!((u : Int) == (u : Int))) = false := by simp
      go_wp2
      go_ret
      exact ⟨⟨_, q, rfl, HDG.out.ow.lower (by omega), HPT2.out⟩, HB0.out.trans (HDG.out.be.mono (by omega))⟩
    · obtain ⟨k, z, hk, hkz, hst, hft, hzM, hzn, hz0, hze⟩ := HFST.out u huM hut HU0.out
      have HZ := Lib.hid (And.intro hzn (And.intro hz0 hze))
      have n1 : ((u : Int) != (t : Int)) = true := by simp; omega
      have n2 : (!((u : Int) == (t : Int))) = true := by simp; omega
      have HN2 := Lib.hid ((HN.out.below HDG.out.be).more hzr)
      obtain ⟨A1, c1, A2, c2, lb, sb, nb, bb, hN, x1, x2, x3, x4, x5, x6⟩ := HN2.out.net
      obtain ⟨_, _, _, _, k4, _⟩ := hN.cell
      rw [HMM.out] at k4 x5
      obtain ⟨Ab, cb2, r0, r1, r2, r3⟩ := x5.2 u huM
      have hgl := hN.lt
      have hnb := x5.1
      obtain ⟨b5, o5, rfl, g5, q5⟩ := int_at r3 hk
      rw [hkz] at q5
      have hcbl := HC.out.lt
      have e4 := (HDG.out.be.cell (p := ⟨w.heap.size, 0, none⟩) (by simp; omega)).trans (HX.out 0).1
      have e7 := (HDG.out.be.cell (p := ⟨w.heap.size + 1, 0, none⟩) (by simp; omega)).trans (HX.out 0).2
      simp only [List.getElem?_toArray, List.getElem?_cons_zero] at e4 e7
      have hcrow := HC.out.below HDG.out.be hcbl
      have hn7 : bm ≠ w.heap.size := by omega
      have hn8 : bm ≠ w.heap.size + 1 := by omega
      have HK := Lib.hid (show ∀ w', Below wr.heap.size wr w' → (w'.cell? ⟨w.heap.size, 0, none⟩ = some (.pointer (some ⟨g, 0, none⟩)) ∧ w'.cell? ⟨g, 4, none⟩ = some (.slice (some ⟨nb, 0, none⟩) M M) ∧ w'.cell? ⟨bm, 0, none⟩ = some (.int .i64 (u : Int)) ∧ w'.cell? ⟨nb, u, none⟩ = some (.slice (some ⟨b5, o5, none⟩) (nextL p u).length cb2)) from fun w' hb =>
        ⟨(hb.cell (p := ⟨w.heap.size, 0, none⟩) (by simp; omega)).trans e4, (hb.cell (p := ⟨g, 4, none⟩) (by simp; omega)).trans k4, (hb.cell (p := ⟨bm, 0, none⟩) (by simp; omega)).trans m0, (hb.cell (p := ⟨nb, u, none⟩) (by simp; omega)).trans r0⟩)
      have HC83 := Lib.hid (show ∀ w', Below wr.heap.size wr w' → Calls Tryz.prog 83 #[.slice (some ⟨b5, o5, none⟩) (nextL p u).length cb2, .func (.func 84) #[] #[.pointer (some ⟨w.heap.size + 1, 0, none⟩), .pointer (some ⟨w.heap.size, 0, none⟩), .pointer (some ⟨bm, 0, none⟩)]] w' fun e w2 => e = .returned (.int .i64 (k : Int)) ∧ Below w'.heap.size w' w2 from fun w' hb =>
        indexFn_any (some ⟨b5, o5, none⟩) (nextL p u) cb2 _ (fun x => stepB (lenAt p) cs u x.toNat) w' ((r3.below hb).more (fun _ _ h => h) hb.size) (by have := nextL_len p u; omega) k hk hst hft fun x hx w2 hb2 => by
          obtain ⟨y, rfl, hyM⟩ := HNB.out u huM x hx
          have hb3 := hb.trans (hb2.mono hb.size)
          rw [Int.toNat_natCast]
          exact step_any w2.heap.size g M u y cb (w.heap.size + 1) w.heap.size bm cs p w2 HMM.out ((HN2.out.below hb3).more hb3.size) (hcrow.below hb3 hcrow.lt) HCL.out huM hyM HBC.out HU0.out
            ((hb3.cell (p := ⟨w.heap.size + 1, 0, none⟩) (by simp; omega)).trans e7) ((hb3.cell (p := ⟨w.heap.size, 0, none⟩) (by simp; omega)).trans e4) ((hb3.cell (p := ⟨bm, 0, none⟩) (by simp; omega)).trans m0))
      have hkn0 : (0 : Int) ≤ (k : Int) := by omega
      have hkn1 : (k : Int) < ((nextL p u).length : Int) := by omega
      obtain ⟨L, hL⟩ : ∃ L, (nextL p u).length = L := ⟨_, rfl⟩
      rw [hL] at HK HC83 hkn1 r0 r1
      clear hL hkz hst hft hzn hz0 hze r3 hN x3 x4 x5 x6 hk
      go_upto_region 4 with (fail)
      go_cut [11] from 18 to 26 (fun s11 wx => s11 = .int .i64 (k : Int) ∧ Below wr.heap.size wr wx)
      case first =>
        have hbq : Below wr.heap.size wr wr.drew := (Below.refl _ _).drew
        go_region_held3 (fun w' => w'.cell? ⟨w.heap.size, 0, none⟩ = some (.pointer (some ⟨g, 0, none⟩)) ∧ w'.cell? ⟨g, 4, none⟩ = some (.slice (some ⟨nb, 0, none⟩) M M) ∧ w'.cell? ⟨bm, 0, none⟩ = some (.int .i64 (u : Int)) ∧ w'.cell? ⟨nb, u, none⟩ = some (.slice (some ⟨b5, o5, none⟩) L cb2))
          (exact HK.out _ hbq)
          ((first
            | (go_at_call 83; (with_reducible refine (HC83.out _ hbq).mono ?_); rintro e w6 ⟨rfl, hb6⟩; replace hbq := hbq.trans (hb6.mono hbq.size))))
        all_goals
          go_wp2_with fail
          go_meet
          exact ⟨rfl, hbq⟩
      case rest =>
      obtain ⟨rfl, hbq⟩ := hcut
      have hzq := hbq.size
      obtain ⟨f0, f1, f2, f3⟩ := HK.out _ hbq
      replace q5 := (hbq.cell (p := ⟨b5, o5 + k, none⟩) (by simp; omega)).trans q5
      have frow := (hbq.block bm hbml).trans HDG.out.ro
      have ffr : wc.frozen? ⟨bm, 0, none⟩ = false := by simp [World.frozen?, frow]
      have HO2 := Lib.hid (HDG.out.ow.below hbq (Nat.le_refl _))
      have HB2 := Lib.hid (HDG.out.be.trans (hbq.mono hzr))
      have HFR := Lib.hid frow
      clear hbq frow m0 e4 e7 k4 r0 hcrow HK HC83 HN2
      have hwz : bm < wc.heap.size := by omega
      obtain ⟨we, hwe⟩ : ∃ x, wc = x := ⟨_, rfl⟩
      rw [hwe] at f0 f1 f2 f3 q5 ffr HO2 HB2 HFR hwz ⊢
      clear hwe
      go_upto_region 5 with (fail)
      go_region
      have HNE := Lib.hid (show some bm ≠ u9.ownBlock from fun e => HDG.out.ne bm e.symm rfl)
      have hrow3 : ((we.setCell ⟨bm, 0, none⟩ (.int .i64 (z : Int))).drew).heap[bm]? = some (.cells #[.int .i64 (z : Int)] 3) := heap_set_same (i := 0) _ HFR.out
      have m3 := cell_of_row _ bm 0 _ 3 (0, 0) hrow3
      simp only [List.getElem?_toArray, List.getElem?_cons_zero] at m3
      have HO3 := Lib.hid (show Own ((we.setCell ⟨bm, 0, none⟩ (.int .i64 (z : Int))).drew) W1.heap.size 3 1 fI u9 (q.map fun x : Nat => (x : Int)) from HO2.out.of_blocks fun i hi => Below.heap_setCell _ _ _ _ (by intro e; exact HNE.out (by rw [hi]; exact congrArg some e.symm)))
      have HB3 := Lib.hid (show Below W1.heap.size W1 ((we.setCell ⟨bm, 0, none⟩ (.int .i64 (z : Int))).drew) from (HB2.out.setCell (p := ⟨bm, 0, none⟩) hbo _).drew)
      have hz3 : ((we.setCell ⟨bm, 0, none⟩ (.int .i64 (z : Int))).drew).heap.size = we.heap.size := by simp [World.setCell]
      have HR3 := Lib.hid hrow3
      have hqq : (q.map fun x : Nat => (x : Int)).length ≤ 800 := by rw [List.length_map]; omega
      obtain ⟨w3, hw3⟩ : ∃ x, (we.setCell ⟨bm, 0, none⟩ (.int .i64 (z : Int))).drew = x := ⟨_, rfl⟩
      rw [hw3] at m3 HO3 HB3 hz3 HR3 ⊢
      have hz3a : w3.heap.size ≤ we.heap.size := by omega
      have hz3b : we.heap.size ≤ w3.heap.size := by omega
      clear hz3
      clear hw3 hrow3 f0 f1 f2 f3 q5 ffr HO2 HB2 HFR
      have hzM0 : (0 : Int) ≤ (z : Int) := by omega
      go_wp2_with (at_builtin; go_must (refine wpList_app _ rfl (.tmp 37) (.tmp 39) _ rfl W1.heap.size 3 i0 _ 1 8 Tryz.underlying50 hi hz0 hz1 hz2 rfl (by omega) fI_len fI_one u9 _ rfl (HO3.out.alloc _) _ _ [(z : Int)] 1 rfl (Sl.new _ _ (z : Int) _ rfl) (by unfold maxLen; simp only [List.length_cons, List.length_nil]; omega) (by simp only [List.length_cons, List.length_nil]; omega) (by simp; omega) (fun _ => .inr ⟨_, rfl⟩) ?_); intro v2 w4 o2 gr2 at2 ne2; have g4 := (gr2.block bm (by simp; omega) HNE.out).trans ((Below.heap_alloc w3 (.cells #[.int .i64 (z : Int)] 3) bm (by omega)).trans HR3.out); have m4 := cell_of_row w4 bm 0 _ 3 (0, 0) g4; simp only [List.getElem?_toArray, List.getElem?_cons_zero] at m4)
      go_roundw
      case rel =>
        have hz4 : w3.heap.size + 1 ≤ w4.heap.size := by have := gr2.size; simpa using this
        have hgln := (HG.out.ln z hzM).1
        refine ⟨q ++ [z], z, w4.heap.size, rfl, ⟨heap_alloc_new w4 _, by have := HB3.out.size; omega, by rw [List.map_append]; exact o2.alloc _, fun i hi => by have := (o2.lt i hi).2; omega, ?_⟩, HPT.out.step HZ.out.1 hzM hgln HZ.out.2.2, HZ.out.2.1⟩
        exact ((HB3.out.alloc (by have := HB3.out.size; omega) _).grown gr2 (by simp; have := HB3.out.size; omega) (fun i hi => (HO3.out.lt i hi).1)).alloc (by have := HB3.out.size; omega) _
      case measure =>
        have hgln := (HG.out.ln z hzM).1
        have h1 := cell_of_row (w4.alloc (.cells #[.int .i64 (z : Int)] 3)) w4.heap.size 0 _ 3 (0, 0) (heap_alloc_new w4 _)
        simp only [List.getElem?_toArray, List.getElem?_cons_zero] at h1
        rw [HMU.out]
        simp only [muD, h1, Int.toNat_natCast]
        have := HZ.out.2
        omega
end Go.Proofs.YtcpanfpijljeaaaGreat

/-! partM6: Contract: Shortest. -/
namespace Go.Proofs.YtcpanfpijljeaaaGreat
set_option linter.unusedVariables false
set_option linter.unusedSimpArgs false
open Go.RowKit

/-- two moves in boxes -/
def SM (K : Nat) (m n : E) (w' : World) : Prop := w'.cell? ⟨K + 1, 0, none⟩ = some (.int .i64 m.rail) ∧ w'.cell? ⟨K + 1, 1, none⟩ = some (.bool m.last) ∧ w'.cell? ⟨K + 1 + 1, 0, none⟩ = some (.int .i64 n.rail) ∧ w'.cell? ⟨K + 1 + 1, 1, none⟩ = some (.bool n.last)
def ShPost (p : Pl) (M f t : Nat) (res : List C2) (w : World) (e : Ending) (w' : World) : Prop :=
  (((gC res f).1 < 0 ∧ e = .returned (.tuple #[.slice none 0 0, .int .i64 4])) ∨ (0 ≤ (gC res f).1 ∧ ∃ v q, e = .returned (.tuple #[v, .int .i64 0]) ∧ Own w' w.heap.size 27 2 fE v ((q.map fun x : Nat => (x : Int)).map moveE) ∧ Pth M (lenAt p) (nxN p) res f t q)) ∧ Below w.heap.size w w'
set_option maxRecDepth 100000 in
set_option maxHeartbeats 4000000 in
theorem Shortest_in (A A2 : Option Addr) (c c2 M nn : Nat) (res : List C2) (p : Pl) (m n : E) (w : World) (hM : 2 * p.rails.length = M) (hP : PlAt w w.heap.size A c A2 c2 p) (hv : Vld p) (hm : railIn p m.rail = true) (hn : railIn p n.rail = true)
    (hs : costsL (lenAt p) (befL p M) (List.replicate M false) M (keyE n) nn = some res) (hbd : BdC res)
    (hnx : ∀ u, u < M → u ≠ keyE n → 0 ≤ (gC res u).1 → ∃ b ∈ nxN p u, stepB (lenAt p) res u b = true) :
    Calls Tryz.prog 18 #[.agg #[.slice A p.nodes.length c, .slice A2 p.rails.length c2], .agg #[.int .i64 m.rail, .bool m.last], .agg #[.int .i64 n.rail, .bool n.last]] w (ShPost p M (keyE m) (keyE n) res w) := by
  have H1 := Lib.hid (G3st.start m n hP)
  have HV := Lib.hid hv
  have hsz := of_decide_eq_true hv.sizes
  have hM8 : M ≤ 800 := by omega
  have km := key_in hm
  have kn := key_in hn
  have hm0 := km.1
  have hn0 := kn.1
  have hm1 : m.rail ≤ 1000000 := by have := of_decide_eq_true hm; omega
  have hn1 : n.rail ≤ 1000000 := by have := of_decide_eq_true hn; omega
  have HKM := Lib.hid km.2.2
  have HKN := Lib.hid kn.2.2
  have hfM : keyE m < M := by omega
  have htM : keyE n < M := by omega
  have HRM := Lib.hid hm; have HRN := Lib.hid hn
  obtain ⟨f, hf⟩ : ∃ f, keyE m = f := ⟨_, rfl⟩
  obtain ⟨t, ht⟩ : ∃ t, keyE n = t := ⟨_, rfl⟩
  rw [hf] at HKM hfM
  rw [ht] at HKN htM hs hnx
  rw [hf, ht]
  have HRL := Lib.hid (costsL_len hs)
  have HS2 := Lib.hid hs; have HBD := Lib.hid hbd; have HNX := Lib.hid hnx; have HMM := Lib.hid hM
  have hrep : (List.replicate M false).length = M := by simp
  obtain ⟨i1, hi1, hy0, hy1, hy2⟩ := info_parts inf4
  have hmb : ∀ W : World, (Instr.makeSlice 57 (.int .i64 (M : Int)) (.int .i64 (M : Int))).run Tryz.prog W = .ok (.slice (some ⟨W.heap.size, 0, none⟩) M M) (W.alloc (.cells (madeCells #[.bool false] M) 4)) := fun W => by
    have := run_mk (P := Tryz.prog) 57 4 i1 _ 1 Tryz.underlying57 hi1 hy0 hy1 (M : Int) (M : Int) M M rfl rfl (by omega) (by rw [hy2]; omega) (by omega) W
    rw [this, Nat.mul_one]; rfl
  clear hP hv hm hn hs hbd hnx hM km kn hf ht
  go_enter Tryz.func18, Tryz.ntmps18
  go_wp2_with fail
  refine (survey_any A A2 c c2 p _ H1.out.pl).mono ?_
  rintro e w1 ⟨hb, ⟨hv, rfl⟩ | ⟨hv, g, rfl, hg, hN⟩⟩
  · exact absurd HV.out hv
  have H2 := Lib.hid (H1.out.next hb)
  have HN := Lib.hid hN
  clear hb hv hN H1
  obtain ⟨_, _, m0, m1, n0, n1, _, _, hlt⟩ := H2.out
  go_wp2_with fail
  refine (hasRail_any _ g p m.rail _ HN.out).mono ?_
  rintro e w2 ⟨rfl, rfl⟩
  rw [HRM.out]
  go_wp2_with fail
  refine (hasRail_any _ g p n.rail _ HN.out).mono ?_
  rintro e w2 ⟨rfl, rfl⟩
  rw [HRN.out]
  obtain ⟨A', c', A2', c2', lb, sb, nb, bb, hN, x1, x2, x3, x4, x5, x6⟩ := HN.out.net
  obtain ⟨_, _, _, _, k4, _⟩ := hN.cell
  rw [HMM.out] at k4
  have hgl := hN.lt
  clear hN x1 x2 x3 x4 x5 x6
  go_upto_region 4 with (fail)
  obtain ⟨W0, hW0⟩ : ∃ x, w1 = x := ⟨_, rfl⟩
  rw [hW0] at m0 m1 n0 n1 k4 hgl hlt ⊢
  have H2' := Lib.hid (show G3st w W0 w.heap.size A c A2 c2 p m n by rw [← hW0]; exact H2.out)
  have HN' := Lib.hid (show Nw W0 W0.heap.size g p by rw [← hW0]; exact HN.out)
  clear H2 HN hW0
  go_cut [10] from 32 to 41 (fun s10 wx => (∃ cb : Nat, s10 = .slice (some ⟨cb, 0, none⟩) M M ∧ CRow wx cb res) ∧ Below W0.heap.size W0 wx)
  case first =>
    go_region_held3 (fun w' => w'.cell? ⟨g, 4, none⟩ = some (.slice (some ⟨nb, 0, none⟩) M M) ∧ w'.cell? ⟨w.heap.size + 1 + 1, 0, none⟩ = some (.int .i64 n.rail) ∧ w'.cell? ⟨w.heap.size + 1 + 1, 1, none⟩ = some (.bool n.last))
      (first
        | (go_keep; done)
        | exact ⟨(hx.cell (p := ⟨g, 4, none⟩) hgl).trans k4, (hx.cell (p := ⟨w.heap.size + 1 + 1, 0, none⟩) hlt).trans n0, (hx.cell (p := ⟨w.heap.size + 1 + 1, 1, none⟩) hlt).trans n1⟩
        | exact ⟨(hy.cell (p := ⟨g, 4, none⟩) hgl).trans k4, (hy.cell (p := ⟨w.heap.size + 1 + 1, 0, none⟩) hlt).trans n0, (hy.cell (p := ⟨w.heap.size + 1 + 1, 1, none⟩) hlt).trans n1⟩)
      ((first
        | (go_at_call 51; refine (number_any n _ hn0 hn1).mono ?_; rintro e w2 ⟨rfl, hb2⟩; rw [HKN.out]; have hxs := hb2.size; have hx : Below W0.heap.size W0 w2 := by first | exact (Below.refl _ _).drew.trans hb2 | exact (((Below.refl W0.heap.size W0).alloc (Nat.le_refl _) _).drew.trans (hb2.mono (by simp))))
        | (go_at_call 57; have hxz := hx.size; have q1 : W0.heap.size ≤ w2.heap.size := (by omega); have q2 := HN'.out.below (hx.alloc q1 (.cells (madeCells #[.bool false] M) 4)); have q3 := BRow.made w2 M; have q4 : W0.heap.size ≤ (w2.alloc (.cells (madeCells #[.bool false] M) 4)).heap.size := (by simp; omega); (with_reducible refine (costs_M W0.heap.size g w2.heap.size t nn (List.replicate M false) res p _ M HMM.out q2 q4 htM hrep q3 HS2.out).mono ?_); rintro e w3 ⟨⟨cb, rfl, hrow, hcb⟩, hb3⟩; have hy : Below W0.heap.size W0 w3 := (hx.alloc hxz _).trans (hb3.mono (by simp; omega)); clear q2 q3)
        | (go_at_call 57; have hxz := hx.size; have q1 : W0.heap.size ≤ w2.heap.size := (by omega); have q2 := HN'.out.below hx; have q3 := (BRow.made W0 M).below (B := W0.heap.size + 1) ((Below.refl _ _).drew.trans (hb2.mono (by simp))) (by omega); (with_reducible refine (costs_M W0.heap.size g W0.heap.size t nn (List.replicate M false) res p _ M HMM.out q2 q1 htM hrep q3 HS2.out).mono ?_); rintro e w3 ⟨⟨cb, rfl, hrow, hcb⟩, hb3⟩; have hy : Below W0.heap.size W0 w3 := hx.trans (hb3.mono hxz); clear q2 q3)))
    all_goals
      go_wp2_with fail
      go_meet
      exact ⟨⟨cb, rfl, hrow⟩, hy⟩
  case rest =>
  clear hmb
  obtain ⟨⟨cb, rfl, hrow⟩, hbq⟩ := hcut
  have H3 := Lib.hid (H2'.out.next hbq)
  have HN3 := Lib.hid ((HN'.out.below hbq).more hbq.size)
  have HROW := Lib.hid hrow
  clear hrow hbq H2' HN' m0 m1 n0 n1 k4 hgl hlt
  obtain ⟨_, _, m0, m1, n0, n1, _, _, hlt⟩ := H3.out
  go_wp2_with fail
  refine (number_any m _ hm0 hm1).mono ?_
  rintro e w5 ⟨rfl, hb5⟩
  rw [HKM.out]
  have H5 := Lib.hid (H3.out.next hb5)
  have HN5 := Lib.hid ((HN3.out.below hb5).more hb5.size)
  have hrow5 := HROW.out.below hb5 HROW.out.lt
  obtain ⟨d0, d1⟩ := hrow5.gc (i := f) (by rw [HRL.out]; exact hfM)
  have HROW5 := Lib.hid hrow5
  have hbb := HBD.out f (by rw [HRL.out]; exact hfM)
  obtain ⟨x, hx⟩ : ∃ x, (gC res f).1 = x := ⟨_, rfl⟩
  have HX := Lib.hid hx
  rw [hx] at d0 hbb
  have hx1 := hbb.2.1
  have hx2 := hbb.1
  have j0 : (0 : Int) ≤ (f : Int) := by omega
  have j1 : (f : Int) < (M : Int) := by omega
  clear hb5 hrow5 H3 HN3 HROW m0 m1 n0 n1 hlt hx hbb d1
  by_cases hneg : x < 0
  · go_wp2_with fail
    go_ret2
    exact ⟨.inl ⟨by rw [HX.out]; exact hneg, rfl⟩, H5.out.be⟩
  · have hnd : decide (x < 0) = false := by rw [decide_eq_false_iff_not]; exact hneg
    obtain ⟨_, _, m0, m1, n0, n1, _, _, hlt⟩ := H5.out
    go_upto_region 7 with (fail)
    have hl1 : w.heap.size + 1 < w5.heap.size := by omega
    have hl2 : w.heap.size + 1 + 1 < w5.heap.size := hlt
    have HK := Lib.hid (show ∀ w', Below w5.heap.size w5 w' → SM w.heap.size m n w' from fun w' hb' =>
      ⟨(hb'.cell (p := ⟨w.heap.size + 1, 0, none⟩) hl1).trans m0, (hb'.cell (p := ⟨w.heap.size + 1, 1, none⟩) hl1).trans m1, (hb'.cell (p := ⟨w.heap.size + 1 + 1, 0, none⟩) hl2).trans n0, (hb'.cell (p := ⟨w.heap.size + 1 + 1, 1, none⟩) hl2).trans n1⟩)
    have hbq : Below w5.heap.size w5 w5.drew := (Below.refl _ _).drew
    have HS := Lib.hid (HK.out _ hbq)
    refine wp_region_held_drew (S := SM w.heap.size m n) (by kernel_rfl) HS.out (fun _ => ?_)
    refine hTake (i := 0) (d := 49) (v := .pointer (some ⟨g, 0, none⟩)) rfl rfl (by kernel_rfl) (by kernel_rfl) (by kernel_rfl) (fun _ _ _ h => h) (Or.inl ⟨rfl, ?gr⟩) HS.out ?_
    case gr =>
      rintro W' ⟨s0, s1, s2, s3⟩
      go_simp
    simp only [Act.put, List.setIfInBounds_toArray, List.set_cons_zero, List.set_cons_succ]
    refine hTake (i := 1) (d := 50) (v := .agg #[.int .i64 m.rail, .bool m.last]) rfl rfl (by kernel_rfl) (by kernel_rfl) (by kernel_rfl) (fun _ _ _ h => h) (Or.inl ⟨rfl, ?gr⟩) HS.out ?_
    case gr =>
      rintro W' ⟨s0, s1, s2, s3⟩
      go_simp
    simp only [Act.put, List.setIfInBounds_toArray, List.set_cons_zero, List.set_cons_succ]
    refine hTake (i := 3) (d := 52) (v := .agg #[.int .i64 n.rail, .bool n.last]) rfl rfl (by kernel_rfl) (by kernel_rfl) (by kernel_rfl) (fun _ _ _ h => h) (Or.inl ⟨rfl, ?gr⟩) HS.out ?_
    case gr =>
      rintro W' ⟨s0, s1, s2, s3⟩
      go_simp
    simp only [Act.put, List.setIfInBounds_toArray, List.set_cons_zero, List.set_cons_succ]
    refine hTake (i := 5) (d := 54) (v := .slice (some ⟨cb, 0, none⟩) M M) rfl rfl (by kernel_rfl) (by kernel_rfl) (by kernel_rfl) (fun _ _ _ h => h) (Or.inl ⟨rfl, ?gr⟩) HS.out ?_
    case gr =>
      rintro W' ⟨s0, s1, s2, s3⟩
      go_simp
    simp only [Act.put, List.setIfInBounds_toArray, List.set_cons_zero, List.set_cons_succ]
    refine wpAnyH_ready (rs := [2]) (by kernel_rfl) (by simp) ?_
    refine AllReadyH.cons rfl (fun K hK => ?_) AllReadyH.nil
    rw [if_pos (by rfl)]
    go_simp
    go_at_call 51
    refine (number_any m _ hm0 hm1).mono ?_
    rintro e v1 ⟨rfl, hb5⟩
    rw [HKM.out]
    replace hbq := hbq.trans (hb5.mono hbq.size)
    have HS := Lib.hid (HK.out _ hbq)
    clear hb5
    refine hK.out _ _ HS.out (fun _ => ?_)
    clear hK K
    try simp only [Act.put, List.setIfInBounds_toArray, List.set_cons_zero, List.set_cons_succ]
    refine wpAnyH_ready (rs := [4]) (by kernel_rfl) (by simp) ?_
    refine AllReadyH.cons rfl (fun K hK => ?_) AllReadyH.nil
    rw [if_pos (by rfl)]
    go_simp
    go_at_call 51
    refine (number_any n _ hn0 hn1).mono ?_
    rintro e v2 ⟨rfl, hb5⟩
    rw [HKN.out]
    replace hbq := hbq.trans (hb5.mono hbq.size)
    have HS := Lib.hid (HK.out _ hbq)
    clear hb5
    refine hK.out _ _ HS.out (fun _ => ?_)
    clear hK K
    try simp only [Act.put, List.setIfInBounds_toArray, List.set_cons_zero, List.set_cons_succ]
    refine wpAnyH_ready (rs := [6]) (by kernel_rfl) (by simp) ?_
    refine AllReadyH.cons rfl (fun K hK => ?_) AllReadyH.nil
    rw [if_pos (by rfl)]
    go_simp
    go_at_call 58
    have hnw := (HN5.out.below hbq).more hbq.size
    have hcw := HROW5.out.below hbq HROW5.out.lt
    have hpos : 0 ≤ (gC res f).1 := by rw [HX.out]; omega
    have hwb := hbq.size
    (with_reducible refine (descend_any _ g M f t cb res p _ HMM.out hnw (Nat.le_refl _) hcw HRL.out hfM htM HBD.out HNX.out hpos).mono ?_)
    rintro e v3 ⟨⟨vd, q, rfl, hown, hpth⟩, hb5⟩
    obtain ⟨qz, hqz⟩ : ∃ z, (q.map fun x : Nat => (x : Int)) = z := ⟨_, rfl⟩
    rw [hqz] at hown
    have HQZ := Lib.hid hqz
    obtain ⟨Ad, cd, rfl, _, _, _⟩ := hown.form
    have hsl := fI_CI (hown.sl fI_len rfl)
    have HPT := Lib.hid hpth
    have hqM := hpth.len.2
    have HQB := Lib.hid (show ∀ x ∈ qz, 0 ≤ x ∧ x ≤ 1000000 from fun x hx => by
      rw [← hqz] at hx
      obtain ⟨y, hy, rfl⟩ := List.mem_map.1 hx
      have := (HPT.out.mM y hy).1
      omega)
    replace hbq := hbq.trans (hb5.mono hbq.size)
    have HS := Lib.hid (HK.out _ hbq)
    clear hb5 hnw hcw hpth hown hqz
    refine hK.out _ _ HS.out (fun _ => ?_)
    clear hK K
    try simp only [Act.put, List.setIfInBounds_toArray, List.set_cons_zero, List.set_cons_succ]
    refine wpAnyH_ready (rs := [7]) (by kernel_rfl) (by simp) ?_
    refine AllReadyH.cons rfl (fun K hK => ?_) AllReadyH.nil
    rw [if_pos (by rfl)]
    go_simp
    go_at_call 50
    have hlq : qz.length ≤ 100000 := by rw [← HQZ.out, List.length_map]; omega
    have hwc := hbq.size
    (with_reducible refine (moves_any Ad _ cd _ hsl hlq HQB.out).mono ?_)
    rintro e v4 ⟨⟨vm, rfl, hown⟩, hb5⟩
    have hfin := And.intro hown HPT.out
    replace hbq := hbq.trans (hb5.mono hbq.size)
    have HS := Lib.hid (HK.out _ hbq)
    clear hb5 hown hsl
    refine hK.out _ _ HS.out (fun _ => ?_)
    clear hK K
    try simp only [Act.put, List.setIfInBounds_toArray, List.set_cons_zero, List.set_cons_succ]
    refine hTake (i := 8) (d := 6) (v := vm) rfl rfl (by kernel_rfl) (by kernel_rfl) (by kernel_rfl) (fun _ _ _ h => h) (Or.inl ⟨rfl, ?gr⟩) HS.out ?_
    case gr =>
      rintro W' ⟨s0, s1, s2, s3⟩
      go_simp
    simp only [Act.put, List.setIfInBounds_toArray, List.set_cons_zero, List.set_cons_succ]
    refine hTake (i := 9) (d := 7) (v := .int .i64 0) rfl rfl (by kernel_rfl) (by kernel_rfl) (by kernel_rfl) (fun _ _ _ h => h) (Or.inl ⟨rfl, ?gr⟩) HS.out ?_
    case gr =>
      rintro W' ⟨s0, s1, s2, s3⟩
      go_simp
    simp only [Act.put, List.setIfInBounds_toArray, List.set_cons_zero, List.set_cons_succ]
    refine wpAnyH_done (by kernel_rfl) ?_ _
    have HF := Lib.hid hfin
    go_wp2_with fail
    go_ret2
    exact ⟨.inr ⟨by rw [HX.out]; omega, _, q, rfl, by rw [HQZ.out]; exact HF.out.1.lower (by have := H5.out.be.size; have := hwc; omega), HF.out.2⟩, H5.out.be.trans (hbq.mono (by have := H5.out.be.size; omega))⟩
end Go.Proofs.YtcpanfpijljeaaaGreat

/-! partM7a: Plain: what the search gives: distances, costs that fit, a step where there is a way. -/
namespace Go.Proofs.YtcpanfpijljeaaaGreat
set_option linter.unusedVariables false
set_option linter.unusedSimpArgs false
open Go.RowKit

theorem in_befL {p : Pl} {k y x : Nat} : (x : Int) ∈ befL p k y ↔ x < k ∧ (y : Int) ∈ nextL p x := by
  rw [mem_nextL]
  refine ⟨fun h => ?_, fun h => mem_befL h.1 h.2⟩
  unfold befL at h
  rw [List.mem_flatMap] at h
  obtain ⟨a, ha, h⟩ := h
  obtain ⟨z, hz, e⟩ := List.mem_map.1 h
  obtain ⟨h1, h2⟩ := List.mem_filter.1 hz
  obtain rfl : a = x := by omega
  obtain rfl : z = (y : Int) := by simpa using h2
  exact ⟨List.mem_range.1 ha, h1⟩
theorem wy_moves {M t : Nat} {ln : Int → Int} {bef : Nat → List Int} (hln : ∀ u : Nat, u < M → 1 ≤ ln ((u : Int) / 2)) (hb : ∀ u b : Nat, (u : Int) ∈ bef b → b < M) {w : Nat} {l m : Int} (h : Wy ln bef t w l m) : 0 ≤ m ∧ m ≤ l := by
  induction h with
  | nil => omega
  | @cons u w l m hb' _ ih =>
    have := hln u (hb w u hb')
    omega
theorem move_key {p : Pl} {m : E} (h : railIn p m.rail = true) : moveE ((keyE m : Nat) : Int) = m := by
  have hk := key_in h
  rw [← hk.2.2]
  obtain ⟨r, l⟩ := m
  unfold moveE endNo
  cases l <;> simp <;> omega
end Go.Proofs.YtcpanfpijljeaaaGreat

/-! partL2 -/
namespace Go.Proofs.YtcpanfpijljeaaaGreat
set_option linter.unusedVariables false
set_option linter.unusedSimpArgs false
open Go.RowKit

theorem endNo_half (m : E) : endNo m / 2 = m.rail := by unfold endNo; split <;> omega
theorem wlen_snoc {p : Pl} {l : List E} {k : Nat} (h : k < l.length) : wlen p ((l.take (k + 1)).map endNo) = wlen p ((l.take k).map endNo) + lenAt p l[k].rail := by
  rw [List.map_take, List.map_take, wlen_succ p _ (by simpa using h), List.getElem_map, endNo_half]
theorem wlen_take_bd {p : Pl} (hv : Vld p) (l : List E) (k : Nat) (hk : k ≤ 2000) : 0 ≤ wlen p ((l.take k).map endNo) ∧ wlen p ((l.take k).map endNo) ≤ 2214592512000 := by
  have := wlen_bd hv ((l.take k).map endNo)
  have h2 : ((l.take k).map endNo).length ≤ 2000 := by simp; omega
  omega

set_option maxRecDepth 100000 in
set_option maxHeartbeats 2000000 in
theorem rWayLength_any (A A2 A3 : Option Addr) (c c2 c3 : Nat) (p : Pl) (l : List E) (w : World) (hP : PlAt w w.heap.size A c A2 c2 p) (hv : Vld p) (hA : Sl w w.heap.size 2 CE A3 l) (hl : l.length ≤ 2000) (hin : ∀ j (hj : j < l.length), railIn p l[j].rail = true) :
    Calls Tryz.prog 25 #[.agg #[.slice A p.nodes.length c, .slice A2 p.rails.length c2], .slice A3 l.length c3] w (PlainPost (.int .i64 (wlen p (l.map endNo))) w) := by
  have HP1 := Lib.hid (hP.box (.cells #[.slice A p.nodes.length c, .slice A2 p.rails.length c2] 25))
  have hB0 := (Below.refl w.heap.size w).alloc (Nat.le_refl _) (.cells #[.slice A p.nodes.length c, .slice A2 p.rails.length c2] 25)
  have HA := Lib.hid ((hA.below hB0).more (fun _ _ h => h) hB0.size)
  have HX := Lib.hid (show ∀ j : Nat, (w.alloc (.cells #[.slice A p.nodes.length c, .slice A2 p.rails.length c2] 25)).cell? ⟨w.heap.size, j, none⟩ = #[.slice A p.nodes.length c, .slice A2 p.rails.length c2][j]? from fun j => cell_new1 w _ 25 j)
  have hz3 : (w.alloc (.cells #[.slice A p.nodes.length c, .slice A2 p.rails.length c2] 25)).heap.size = w.heap.size + 1 := by simp
  have HV := Lib.hid hv; have HI := Lib.hid hin
  have HB0 := Lib.hid hB0
  clear hP hv hA hB0 hin
  go_enter Tryz.func25, Tryz.ntmps25
  go_wp2
  generalize w.alloc (.cells #[.slice A p.nodes.length c, .slice A2 p.rails.length c2] 25) = W1 at *
  go_loopw [5, 6] (fun s i wr => ∃ k : Nat, k ≤ l.length ∧ i = .int .i64 k ∧ s = .int .i64 (wlen p ((l.take k).map endNo)) ∧ Below W1.heap.size W1 wr) (fun _ i _ => l.length - (intOf i).toNat)
  case atStart => exact ⟨0, Nat.zero_le _, rfl, by simp [wlen], Below.refl _ _⟩
  case round =>
    obtain ⟨k, hk, rfl, rfl, hb⟩ := hrel
    have hzw := hb.size
    have ha0 : w.heap.size < W1.heap.size := by omega
    have k0 := (hb.cell (p := ⟨w.heap.size, 0, none⟩) ha0).trans (HX.out 0)
    have k1 := (hb.cell (p := ⟨w.heap.size, 1, none⟩) ha0).trans (HX.out 1)
    simp only [List.getElem?_toArray, List.getElem?_cons_zero, List.getElem?_cons_succ] at k0 k1
    have HPw := Lib.hid ((HP1.out.below hb).more hzw)
    have HAw := Lib.hid ((HA.out.below hb).more (fun _ _ h => h) hzw)
    have HB := Lib.hid hb
    clear hb
    have hr0 : w.heap.size < wr.heap.size := by omega
    by_cases hlt : k < l.length
    · have hk0 : (0 : Int) ≤ (k : Int) := by omega
      have hk1 : (k : Int) < (l.length : Int) := by omega
      obtain ⟨b1, o1, e1, g1, q0, q1⟩ := end_at HAw.out hlt
      have hs1 := wlen_snoc (p := p) hlt
      have hri := HI.out k hlt
      obtain ⟨⟨mr, ml⟩, hx⟩ : ∃ x, l[k] = x := ⟨_, rfl⟩
      rw [hx] at q0 q1 hs1 hri
      have HRI := Lib.hid hri
      have hbx := wlen_take_bd HV.out l k (by omega)
      have hby := lenAt_bd HV.out mr
      obtain ⟨X, hX⟩ : ∃ x, wlen p ((l.take k).map endNo) = x := ⟨_, rfl⟩
      obtain ⟨Y, hY⟩ : ∃ x, lenAt p mr = x := ⟨_, rfl⟩
      rw [hX] at hbx hs1 ⊢
      simp only [hY] at hby hs1
      have HS1 := Lib.hid hs1; have HY := Lib.hid hY
      have hx0 := hbx.1; have hx1 := hbx.2; have hy0 := hby.1; have hy1 := hby.2
      subst e1
      clear hx hX hY hs1 hri hbx hby
      go_upto_region 5 with (fail)
      have hbq : Below wr.heap.size wr wr.drew := (Below.refl _ _).drew
      have hwr : IntKind.i64.wrap (X + Y) = X + Y := by rw [IntKind.wrap_i64]; omega
      first
        | (go_region_held3 (fun w' => w'.cell? ⟨w.heap.size, 0, none⟩ = some (.slice A p.nodes.length c) ∧ w'.cell? ⟨w.heap.size, 1, none⟩ = some (.slice A2 p.rails.length c2) ∧ w'.cell? ⟨b1, o1 + k * 2, none⟩ = some (.int .i64 mr))
            (exact ⟨(hbq.cell (p := ⟨w.heap.size, 0, none⟩) hr0).trans k0, (hbq.cell (p := ⟨w.heap.size, 1, none⟩) hr0).trans k1, (hbq.cell (p := ⟨b1, o1 + k * 2, none⟩) g1).trans q0⟩)
            ((first
              | (go_at_call 35; have hpw := (HPw.out.below hbq).more hbq.size; have hlc := rLength_in A A2 c c2 p mr _ hpw HV.out HRI.out; rw [HY.out] at hlc; (with_reducible refine hlc.mono ?_); rintro e w5 ⟨rfl, hb5⟩; replace hbq := hbq.trans (hb5.mono hbq.size)))))
        | fail "held3"
      all_goals
        have HB2 := Lib.hid (HB.out.trans (hbq.mono hzw))
        clear hbq hwr
        go_wp2
        go_roundw
        case rel => exact ⟨k + 1, by omega, by go_num, by rw [HS1.out], HB2.out⟩
        case measure => simp [intOf]; omega
    · obtain rfl : k = l.length := by omega
      have HQ := Lib.hid (show wlen p ((l.take l.length).map endNo) = wlen p (l.map endNo) by rw [List.take_length])
      go_wp2
      go_ret
      exact ⟨by rw [← HQ.out]; rfl, HB0.out.trans (HB.out.mono (by omega))⟩



/-- a plan, two moves and a list of numbers, in a later world -/
structure LD (w wr : World) (K : Nat) (A : Option Addr) (c : Nat) (A2 : Option Addr) (c2 : Nat) (p : Pl) (m n : E) (A3 : Option Addr) (l : List Int) : Prop where
  g : G3st w wr K A c A2 c2 p m n
  s : Sl wr wr.heap.size 1 CI A3 l
theorem LD.next {w wr w' : World} {K c c2 : Nat} {A A2 A3 : Option Addr} {p : Pl} {m n : E} {l : List Int} (h : LD w wr K A c A2 c2 p m n A3 l) (hb : Below wr.heap.size wr w') : LD w w' K A c A2 c2 p m n A3 l :=
  ⟨h.g.next hb, (h.s.below hb).more (fun _ _ h => h) hb.size⟩
/-- the boxes, as loads want them -/
def SB (K : Nat) (A : Option Addr) (a : Nat) (c : Nat) (A2 : Option Addr) (a2 : Nat) (c2 : Nat) (m n : E) (w' : World) : Prop :=
  w'.cell? ⟨K, 0, none⟩ = some (.slice A a c) ∧ w'.cell? ⟨K, 1, none⟩ = some (.slice A2 a2 c2) ∧ w'.cell? ⟨K + 1, 0, none⟩ = some (.int .i64 m.rail) ∧ w'.cell? ⟨K + 1, 1, none⟩ = some (.bool m.last) ∧ w'.cell? ⟨K + 1 + 1, 0, none⟩ = some (.int .i64 n.rail) ∧ w'.cell? ⟨K + 1 + 1, 1, none⟩ = some (.bool n.last)
theorem G3st.sb {w wr : World} {K c c2 : Nat} {A A2 : Option Addr} {p : Pl} {m n : E} (h : G3st w wr K A c A2 c2 p m n) : SB K A p.nodes.length c A2 p.rails.length c2 m n wr := ⟨h.k0, h.k1, h.m0, h.m1, h.n0, h.n1⟩
section
variable (A A2 A3 : Option Addr) (c c2 c3 : Nat) (p : Pl) (m n : E) (l : List Int) (w : World)
end
section row
open Go.ChangeShapes Go.WideShapes Go.ChangeAt Go.Deep
theorem Tryz.c27q : Tryz.prog.cellsOf 27 = 2 := by kernel_rfl
section
variable {H : Type} {enc : TypeId × Value → H} {w : World} {fuel : Nat} {cs : List Value} {x : DataW H × List MemPlace}
set_option maxRecDepth 100000 in
theorem read_Mq (h : DataW.trod enc Tryz.prog w 0 (fun _ => true) true fuel 27 cs = some x) (hl : InReach Tryz.prog 27 x.1) : ∃ z : E, CE z cs := by
  have hn := read_len Tryz.underlying27 h
  rw [Tryz.c27q] at hn
  obtain ⟨n1, y1, h1, _⟩ := read_at Tryz.underlying27 h hl 0 rfl Tryz.c3
  obtain ⟨n2, y2, h2, _⟩ := read_at Tryz.underlying27 h hl 1 rfl Tryz.c4
  obtain ⟨a, ha, _, _⟩ := DataW.trod_int Tryz.underlying3 h1
  obtain ⟨b, hb, _⟩ := DataW.trod_bool Tryz.underlying4 h2
  match cs, hn with
  | [u, v], _ =>
    simp at ha hb
    subst ha; subst hb
    exact ⟨⟨a, b⟩, rfl⟩
end
section
variable {H : Type} {enc : TypeId × Value → H} {w : World} {fuel : Nat} {cs : List Value} {x : DataW H × List MemPlace}
end

end row

end Go.Proofs.YtcpanfpijljeaaaGreat
