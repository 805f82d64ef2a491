/- The search for all ways, plain; detours and their pile in memory. -/
import Derived.BigRegion
import Derived.Deep.AppendLies
import Derived.Deep.LoopGhost
import Derived.Deep.RegionLaw
import Derived.RegionTactic
import Derived.Test.YtcpanfpijljeaaaGreatG3
import Derived.Test.YtcpanfpijljeaaaGreatQ1
import Derived.Test.YtcpanfpijljeaaaGreatQ4
import Derived.Test.YtcpanfpijljeaaaGreatQ6
namespace Go.Proofs.YtcpanfpijljeaaaGreat.DH
set_option linter.unusedVariables false
set_option linter.unusedSimpArgs false

/-- a detour, ta it lies in memory, with the two lists that its slices read ta -/
structure D6 where
  l : Int
  m : Int
  A : Option Addr
  b : List Nat
  ac : Nat
  k : Nat
  t : Nat
  F : Option Addr
  f : List Nat
  fc : Nat

/-- lists of numbers, compared -/
def cmpL : List Nat → List Nat → Int
  | [], [] => 0
  | [], _ :: _ => -1
  | _ :: _, [] => 1
  | a :: ta, b :: bs => if cmpI (a : Int) (b : Int) = 0 then cmpL ta bs else cmpI (a : Int) (b : Int)
def ltI : List Nat → List Nat → Prop
  | [], [] => False
  | [], _ :: _ => True
  | _ :: _, [] => False
  | a :: ta, b :: bs => a < b ∨ (a = b ∧ ltI ta bs)
theorem cmpL_lt : ∀ (a b : List Nat), cmpL a b < 0 ↔ ltI a b
  | [], [] => by simp [cmpL, ltI]
  | [], _ :: _ => by simp [cmpL, ltI]
  | _ :: _, [] => by simp [cmpL, ltI]
  | a :: ta, b :: bs => by
    have ih := cmpL_lt ta bs
    unfold cmpL ltI cmpI
    by_cases h1 : a < b
    · have h1' : (a : Int) < (b : Int) := by omega
      rw [if_pos h1']; simp [h1]
    · have h1' : ¬ (a : Int) < (b : Int) := by omega
      by_cases h2 : b < a
      · have h2' : (b : Int) < (a : Int) := by omega
        rw [if_neg h1', if_pos h2']; simp; omega
      · have : a = b := by omega
        subst this
        simp [ih]
theorem ltI_asymm : ∀ (a b : List Nat), ltI a b → ¬ ltI b a
  | [], [] => by simp [ltI]
  | [], _ :: _ => by simp [ltI]
  | _ :: _, [] => by simp [ltI]
  | a :: ta, b :: bs => by
    have ih := ltI_asymm ta bs
    unfold ltI
    rintro (h | ⟨rfl, h⟩) (h2 | ⟨h2, h3⟩)
    · omega
    · omega
    · omega
    · exact ih h h3
theorem ltI_neg_trans : ∀ (a b c : List Nat), ¬ ltI b a → ¬ ltI c b → ¬ ltI c a
  | [], [], [] => by simp [ltI]
  | [], [], _ :: _ => by simp [ltI]
  | [], _ :: _, [] => by simp [ltI]
  | [], _ :: _, _ :: _ => by simp [ltI]
  | _ :: _, [], [] => by simp [ltI]
  | _ :: _, [], _ :: _ => by simp [ltI]
  | _ :: _, _ :: _, [] => by simp [ltI]
  | a :: ta, b :: bs, c :: cs => by
    have ih := ltI_neg_trans ta bs cs
    unfold ltI
    intro h1 h2
    rintro (h | ⟨rfl, h⟩)
    · apply h1
      by_cases e : b < a
      · exact .inl e
      · exact absurd (.inl (by omega)) h2
    · by_cases e : b < c
      · exact h1 (.inl e)
      · by_cases e2 : c < b
        · exact h2 (.inl e2)
        · have : c = b := by omega
          subst this
          exact ih (fun h3 => h1 (.inr ⟨rfl, h3⟩)) (fun h3 => h2 (.inr ⟨rfl, h3⟩)) h
theorem ltI_total : ∀ (a b : List Nat), ¬ ltI a b → ¬ ltI b a → a = b
  | [], [] => by simp
  | [], _ :: _ => by simp [ltI]
  | _ :: _, [] => by simp [ltI]
  | a :: ta, b :: bs => by
    have ih := ltI_total ta bs
    unfold ltI
    intro h1 h2
    have : a = b := by
      rcases Nat.lt_trichotomy a b with h | h | h
      · exact absurd (.inl h) h1
      · exact h
      · exact absurd (.inl h) h2
    subst this
    rw [ih (fun h => h1 (.inr ⟨rfl, h⟩)) (fun h => h2 (.inr ⟨rfl, h⟩))]
def cmpV (a b : D6) : Int := if (if cmpI a.l b.l = 0 then cmpI a.m b.m else cmpI a.l b.l) = 0 then cmpL a.f b.f else (if cmpI a.l b.l = 0 then cmpI a.m b.m else cmpI a.l b.l)
def ltV (a b : D6) : Bool := decide (cmpV a b < 0)
def atV (l : List D6) (k : Nat) : D6 := (l[k]?).getD ⟨0, 0, none, [], 0, 0, 0, none, [], 0⟩
def ltP (a b : D6) : Prop := a.l < b.l ∨ (a.l = b.l ∧ (a.m < b.m ∨ (a.m = b.m ∧ ltI a.f b.f)))
def leP (a b : D6) : Prop := a.l < b.l ∨ (a.l = b.l ∧ (a.m < b.m ∨ (a.m = b.m ∧ ¬ ltI b.f a.f)))
theorem ltV_iff (a b : D6) : ltV a b = true ↔ ltP a b := by
  unfold ltV cmpV cmpI ltP
  rw [decide_eq_true_iff]
  have h := cmpL_lt a.f b.f
  by_cases h1 : a.l < b.l
  · simp [h1]
  · by_cases h2 : b.l < a.l
    · simp [h1, h2]; omega
    · have e : a.l = b.l := by omega
      by_cases h3 : a.m < b.m
      · simp [e, h3]
      · by_cases h4 : b.m < a.m
        · simp [e, h3, h4]; omega
        · have e2 : a.m = b.m := by omega
          simp [e, e2, h]
theorem leP_of_not {a b : D6} (h : ¬ ltP a b) : leP b a := by
  unfold ltP leP at *
  by_cases h1 : b.l < a.l
  · exact .inl h1
  · right
    refine ⟨by omega, ?_⟩
    by_cases h2 : b.m < a.m
    · exact .inl h2
    · right
      exact ⟨by omega, fun h3 => h (.inr ⟨by omega, .inr ⟨by omega, h3⟩⟩)⟩
theorem leP_of {a b : D6} (h : ltP a b) : leP a b := by
  unfold ltP leP at *
  rcases h with h | ⟨h1, h | ⟨h2, h⟩⟩
  · exact .inl h
  · exact .inr ⟨h1, .inl h⟩
  · exact .inr ⟨h1, .inr ⟨h2, ltI_asymm _ _ h⟩⟩
theorem leP_refl (a : D6) : leP a a := .inr ⟨rfl, .inr ⟨rfl, fun h => ltI_asymm _ _ h h⟩⟩
theorem leP_trans {a b c : D6} (h : leP a b) (h2 : leP b c) : leP a c := by
  unfold leP at *
  rcases h with h | ⟨h1, h | ⟨h3, h⟩⟩ <;> rcases h2 with g | ⟨g1, g | ⟨g3, g⟩⟩
  · left; omega
  · left; omega
  · left; omega
  · left; omega
  · right; exact ⟨by omega, .inl (by omega)⟩
  · right; exact ⟨by omega, .inl (by omega)⟩
  · left; omega
  · right; exact ⟨by omega, .inl (by omega)⟩
  · right; exact ⟨by omega, .inr ⟨by omega, ltI_neg_trans _ _ _ h g⟩⟩
def ltAt (l : List D6) (i j : Nat) : Bool :=
  match l[i]?, l[j]? with
  | some x, some y => ltV x y
  | _, _ => false
def swapL (l : List D6) (i j : Nat) : List D6 :=
  match l[i]?, l[j]? with
  | some x, some y => (l.set i y).set j x
  | _, _ => l
theorem swapL_len (l : List D6) (i j : Nat) : (swapL l i j).length = l.length := by
  unfold swapL; split <;> simp
theorem swapL_at {l : List D6} {i j : Nat} (hi : i < l.length) (hj : j < l.length) : swapL l i j = (l.set i l[j]).set j l[i] := by
  unfold swapL; simp [hi, hj]
theorem ltAt_at {l : List D6} {i j : Nat} (hi : i < l.length) (hj : j < l.length) : ltAt l i j = ltV l[i] l[j] := by
  unfold ltAt; simp [hi, hj]

/-- an item goes up to where it belongs -/
def upF : Nat → List D6 → Nat → List D6
  | 0, l, _ => l
  | n + 1, l, i => if 0 < i ∧ ltAt l i ((i - 1) / 2) = true then upF n (swapL l i ((i - 1) / 2)) ((i - 1) / 2) else l
theorem upF_more : ∀ (n m : Nat) (l : List D6) (i : Nat), i ≤ n → i ≤ m → upF n l i = upF m l i := by
  intro n
  induction n with
  | zero =>
    intro m l i h1 h2
    obtain rfl : i = 0 := by omega
    cases m with
    | zero => rfl
    | succ m => simp [upF]
  | succ n ih =>
    intro m l i h1 h2
    cases m with
    | zero =>
      obtain rfl : i = 0 := by omega
      simp [upF]
    | succ m =>
      simp only [upF]
      by_cases h : 0 < i ∧ ltAt l i ((i - 1) / 2) = true
      · rw [if_pos h, if_pos h]
        exact ih m _ _ (by omega) (by omega)
      · rw [if_neg h, if_neg h]
def upL (l : List D6) (i : Nat) : List D6 := upF i l i
theorem upL_go {l : List D6} {i : Nat} (h0 : 0 < i) (h : ltAt l i ((i - 1) / 2) = true) : upL l i = upL (swapL l i ((i - 1) / 2)) ((i - 1) / 2) := by
  unfold upL
  obtain ⟨n, rfl⟩ : ∃ n, i = n + 1 := ⟨i - 1, by omega⟩
  rw [upF, if_pos ⟨h0, h⟩]
  exact upF_more _ _ _ _ (by omega) (by omega)
theorem upL_end {l : List D6} {i : Nat} (h : i = 0 ∨ ltAt l i ((i - 1) / 2) = false) : upL l i = l := by
  unfold upL
  cases i with
  | zero => rfl
  | succ n =>
    rw [upF, if_neg]
    rintro ⟨h1, h2⟩
    rcases h with h | h
    · omega
    · rw [h] at h2; cases h2
theorem upF_len : ∀ (n : Nat) (l : List D6) (i : Nat), (upF n l i).length = l.length := by
  intro n
  induction n with
  | zero => intro l i; rfl
  | succ n ih =>
    intro l i
    rw [upF]
    split
    · rw [ih, swapL_len]
    · rfl
theorem upL_len (l : List D6) (i : Nat) : (upL l i).length = l.length := upF_len _ _ _
def putL (l : List D6) (x : D6) : List D6 := upL (l ++ [x]) l.length
theorem putL_len (l : List D6) (x : D6) : (putL l x).length = l.length + 1 := by simp [putL, upL_len]

/-- the lesser one of the two items below an item -/
def childL (l : List D6) (i : Nat) : Nat := if 2 * i + 2 < l.length ∧ ltAt l (2 * i + 2) (2 * i + 1) = true then 2 * i + 2 else 2 * i + 1
/-- an item goes down to where it belongs -/
def downF : Nat → List D6 → Nat → List D6
  | 0, l, _ => l
  | n + 1, l, i => if 2 * i + 1 < l.length ∧ ltAt l (childL l i) i = true then downF n (swapL l i (childL l i)) (childL l i) else l
theorem childL_lt {l : List D6} {i : Nat} (h : 2 * i + 1 < l.length) : childL l i < l.length ∧ i < childL l i := by
  unfold childL; split <;> omega
theorem downF_more : ∀ (n m : Nat) (l : List D6) (i : Nat), l.length ≤ n + i → l.length ≤ m + i → downF n l i = downF m l i := by
  intro n
  induction n with
  | zero =>
    intro m l i h1 h2
    cases m with
    | zero => rfl
    | succ m => rw [downF, downF, if_neg (by omega)]
  | succ n ih =>
    intro m l i h1 h2
    cases m with
    | zero => rw [downF, downF, if_neg (by omega)]
    | succ m =>
      simp only [downF]
      by_cases h : 2 * i + 1 < l.length ∧ ltAt l (childL l i) i = true
      · rw [if_pos h, if_pos h]
        have := childL_lt h.1
        exact ih m _ _ (by rw [swapL_len]; omega) (by rw [swapL_len]; omega)
      · rw [if_neg h, if_neg h]
def downL (l : List D6) (i : Nat) : List D6 := downF l.length l i
theorem downL_go {l : List D6} {i : Nat} (h0 : 2 * i + 1 < l.length) (h : ltAt l (childL l i) i = true) : downL l i = downL (swapL l i (childL l i)) (childL l i) := by
  unfold downL
  rw [swapL_len]
  obtain ⟨n, hn⟩ : ∃ n, l.length = n + 1 := ⟨l.length - 1, by omega⟩
  rw [hn, downF, if_pos ⟨h0, h⟩]
  have := childL_lt h0
  exact downF_more _ _ _ _ (by rw [swapL_len]; omega) (by rw [swapL_len]; omega)
theorem downL_end {l : List D6} {i : Nat} (h : l.length ≤ 2 * i + 1 ∨ ltAt l (childL l i) i = false) : downL l i = l := by
  unfold downL
  rcases Nat.eq_zero_or_pos l.length with hz | hp
  · rw [hz]; rfl
  · obtain ⟨n, hn⟩ : ∃ n, l.length = n + 1 := ⟨l.length - 1, by omega⟩
    rw [hn, downF, if_neg]
    rintro ⟨h1, h2⟩
    rcases h with h | h
    · omega
    · rw [h] at h2; cases h2
theorem downF_len : ∀ (n : Nat) (l : List D6) (i : Nat), (downF n l i).length = l.length := by
  intro n
  induction n with
  | zero => intro l i; rfl
  | succ n ih =>
    intro l i
    rw [downF]
    split
    · rw [ih, swapL_len]
    · rfl
theorem downL_len (l : List D6) (i : Nat) : (downL l i).length = l.length := downF_len _ _ _
/-- what is left when the least is taken -/
def restL (x : D6) (r : List D6) : List D6 := downL (((x :: r).set 0 ((x :: r).getLast (by simp))).take r.length) 0
theorem restL_len (x : D6) (r : List D6) : (restL x r).length = r.length := by simp [restL, downL_len]

theorem atV_get {l : List D6} {k : Nat} (h : k < l.length) : atV l k = l[k] := by simp [atV, h]
theorem ltAt_iff {l : List D6} {i j : Nat} (hi : i < l.length) (hj : j < l.length) : ltAt l i j = true ↔ ltP (atV l i) (atV l j) := by
  rw [ltAt_at hi hj, ltV_iff, atV_get hi, atV_get hj]
theorem swap_at {l : List D6} {i j k : Nat} (hi : i < l.length) (hj : j < l.length) (hk : k < l.length) : atV (swapL l i j) k = if k = j then atV l i else if k = i then atV l j else atV l k := by
  rw [atV_get (by rw [swapL_len]; exact hk)]
  simp only [swapL_at hi hj, List.getElem_set, atV_get hi, atV_get hj, atV_get hk]
  by_cases h1 : k = j
  · subst h1; simp
  · by_cases h2 : k = i
    · subst h2; rw [if_neg (Ne.symm h1), if_neg h1, if_pos rfl]
    · rw [if_neg (Ne.symm h1), if_neg (Ne.symm h2), if_neg h1, if_neg h2]
theorem swap_perm {l : List D6} {i j : Nat} (hi : i < l.length) (hj : j < l.length) : (swapL l i j).Perm l := by
  rw [swapL_at hi hj]
  exact List.set_set_perm hi hj

def Heap (l : List D6) : Prop := ∀ k, 0 < k → k < l.length → leP (atV l ((k - 1) / 2)) (atV l k)
def UpI (l : List D6) (i : Nat) : Prop := (∀ k, 0 < k → k < l.length → k ≠ i → leP (atV l ((k - 1) / 2)) (atV l k)) ∧ ∀ k, 0 < k → k < l.length → (k - 1) / 2 = i → 0 < i → leP (atV l ((i - 1) / 2)) (atV l k)
theorem up_heap : ∀ (n : Nat) (l : List D6) (i : Nat), i ≤ n → i < l.length → UpI l i → Heap (upF n l i) ∧ (upF n l i).Perm l := by
  intro n
  induction n with
  | zero =>
    intro l i h1 h2 h
    exact ⟨fun k h0 hk => h.1 k h0 hk (by omega), List.Perm.refl _⟩
  | succ n ih =>
    intro l i h1 h2 h
    rw [upF]
    split
    · rename_i hc
      obtain ⟨h0, hlt⟩ := hc
      have hq : (i - 1) / 2 < l.length := by omega
      rw [ltAt_iff h2 hq] at hlt
      have hle := leP_of hlt
      have key : UpI (swapL l i ((i - 1) / 2)) ((i - 1) / 2) := by
        constructor
        · intro k k0 kl kne
          rw [swapL_len] at kl
          rw [swap_at h2 hq (by omega), swap_at h2 hq kl, if_neg kne]
          by_cases e1 : k = i
          · subst e1; rw [if_pos rfl, if_pos rfl]; exact hle
          · rw [if_neg e1]
            by_cases e2 : (k - 1) / 2 = (i - 1) / 2
            · rw [if_pos e2]
              have := h.1 k k0 kl e1
              rw [e2] at this
              exact leP_trans hle this
            · rw [if_neg e2]
              by_cases e3 : (k - 1) / 2 = i
              · rw [if_pos e3]; exact h.2 k k0 kl e3 h0
              · rw [if_neg e3]; exact h.1 k k0 kl e1
        · intro k k0 kl ke q0
          rw [swapL_len] at kl
          rw [swap_at h2 hq (by omega), swap_at h2 hq kl, if_neg (show ¬ ((i - 1) / 2 - 1) / 2 = (i - 1) / 2 by omega), if_neg (show ¬ ((i - 1) / 2 - 1) / 2 = i by omega), if_neg (show ¬ k = (i - 1) / 2 by omega)]
          have hqq := h.1 ((i - 1) / 2) q0 hq (by omega)
          by_cases e1 : k = i
          · rw [if_pos e1]; exact hqq
          · rw [if_neg e1]
            have := h.1 k k0 kl e1
            rw [ke] at this
            exact leP_trans hqq this
      obtain ⟨a, b⟩ := ih _ _ (by omega) (by rw [swapL_len]; exact hq) key
      exact ⟨a, b.trans (swap_perm h2 hq)⟩
    · rename_i hc
      refine ⟨fun k k0 kl => ?_, List.Perm.refl _⟩
      by_cases e : k = i
      · subst e
        refine leP_of_not fun hl => hc ⟨k0, ?_⟩
        rw [ltAt_iff h2 (by omega)]
        exact hl
      · exact h.1 k k0 kl e
theorem put_heap {l : List D6} (x : D6) (h : Heap l) : Heap (putL l x) ∧ (putL l x).Perm (x :: l) := by
  have hz : l.length < (l ++ [x]).length := by simp
  have e : ∀ k, k < l.length → atV (l ++ [x]) k = atV l k := fun k hk => by
    rw [atV_get (by simp; omega), atV_get hk, List.getElem_append_left hk]
  obtain ⟨a, b⟩ := up_heap l.length (l ++ [x]) l.length (Nat.le_refl _) hz ⟨fun k k0 kl kn => by
    have kl' : k < l.length := by simp at kl; omega
    rw [e _ (by omega), e _ kl']; exact h k k0 kl', fun k k0 kl ke i0 => by simp at kl; omega⟩
  exact ⟨a, b.trans (List.perm_append_comm (l₁ := l) (l₂ := [x]))⟩

def DnI (l : List D6) (i : Nat) : Prop := (∀ k, 0 < k → k < l.length → (k - 1) / 2 ≠ i → leP (atV l ((k - 1) / 2)) (atV l k)) ∧ ∀ k, 0 < k → k < l.length → (k - 1) / 2 = i → 0 < i → leP (atV l ((i - 1) / 2)) (atV l k)
theorem child_least {l : List D6} {i k : Nat} (h : 2 * i + 1 < l.length) (k0 : 0 < k) (kl : k < l.length) (ke : (k - 1) / 2 = i) : leP (atV l (childL l i)) (atV l k) := by
  unfold childL
  split
  · rename_i hc
    have h2 := (ltAt_iff hc.1 h).1 hc.2
    rcases (show k = 2 * i + 1 ∨ k = 2 * i + 2 by omega) with rfl | rfl
    · exact leP_of h2
    · exact leP_refl _
  · rename_i hc
    rcases (show k = 2 * i + 1 ∨ k = 2 * i + 2 by omega) with rfl | rfl
    · exact leP_refl _
    · exact leP_of_not fun hl => hc ⟨kl, (ltAt_iff kl h).2 hl⟩
theorem child_of {l : List D6} {i : Nat} : (childL l i - 1) / 2 = i ∧ 0 < childL l i := by
  unfold childL; split <;> omega
theorem dn_heap : ∀ (n : Nat) (l : List D6) (i : Nat), l.length ≤ n + i → DnI l i → Heap (downF n l i) ∧ (downF n l i).Perm l := by
  intro n
  induction n with
  | zero =>
    intro l i h1 h
    exact ⟨fun k h0 hk => h.1 k h0 hk (by have hk2 : k < l.length := hk; omega), List.Perm.refl _⟩
  | succ n ih =>
    intro l i h1 h
    rw [downF]
    split
    · rename_i hc
      obtain ⟨h0, hlt⟩ := hc
      have hq := childL_lt h0
      have hco := child_of (l := l) (i := i)
      have hi : i < l.length := by omega
      rw [ltAt_iff hq.1 hi] at hlt
      have hle := leP_of hlt
      have hlst : ∀ k, 0 < k → k < l.length → (k - 1) / 2 = i → leP (atV l (childL l i)) (atV l k) := fun k a b e => child_least h0 a b e
      generalize childL l i = c at *
      have key : DnI (swapL l i c) c := by
        constructor
        · intro k k0 kl kne
          rw [swapL_len] at kl
          rw [swap_at hi hq.1 (by omega), swap_at hi hq.1 kl, if_neg kne]
          by_cases e1 : (k - 1) / 2 = i
          · rw [if_pos e1]
            by_cases e2 : k = c
            · rw [if_pos e2]; exact hle
            · rw [if_neg e2, if_neg (show ¬ k = i by omega)]; exact hlst k k0 kl e1
          · rw [if_neg e1]
            by_cases e2 : k = i
            · rw [if_neg (show ¬ k = c by omega), if_pos e2]
              rw [e2]
              exact h.2 c hco.2 hq.1 hco.1 (by omega)
            · rw [if_neg (show ¬ k = c by omega), if_neg e2]
              exact h.1 k k0 kl e1
        · intro k k0 kl ke c0
          rw [swapL_len] at kl
          rw [hco.1, swap_at hi hq.1 hi, swap_at hi hq.1 kl, if_neg (show ¬ i = c by omega), if_pos rfl, if_neg (show ¬ k = c by omega), if_neg (show ¬ k = i by omega)]
          have := h.1 k k0 kl (by omega)
          rw [ke] at this
          exact this
      obtain ⟨a, b⟩ := ih _ _ (by rw [swapL_len]; omega) key
      exact ⟨a, b.trans (swap_perm hi hq.1)⟩
    · rename_i hc
      refine ⟨fun k k0 kl => ?_, List.Perm.refl _⟩
      by_cases e : (k - 1) / 2 = i
      · have h0 : 2 * i + 1 < l.length := by omega
        have hq := childL_lt h0
        have h3 := child_least h0 k0 kl e
        rw [e]
        refine leP_trans (leP_of_not fun hl => hc ⟨h0, ?_⟩) h3
        rw [ltAt_iff hq.1 (by omega)]
        exact hl
      · exact h.1 k k0 kl e
theorem rest_row (x : D6) (r : List D6) : ((((x :: r).set 0 ((x :: r).getLast (by simp))).take r.length)).Perm r ∧ ∀ k, 0 < k → k < r.length → atV (((x :: r).set 0 ((x :: r).getLast (by simp))).take r.length) k = atV (x :: r) k := by
  constructor
  · rcases List.eq_nil_or_concat r with rfl | ⟨s, z, rfl⟩
    · simp
    · have e : ((x :: s.concat z).set 0 ((x :: s.concat z).getLast (by simp))).take (s.concat z).length = z :: s := by
        apply List.ext_getElem
        · simp
        · intro k h1 h2
          cases k with
          | zero =>
            simp only [List.getElem_take, List.set_cons_zero, List.getElem_cons_zero, List.concat_eq_append]
            rw [List.getLast_cons (by simp)]
            simp
          | succ k =>
            simp
      rw [e, List.concat_eq_append]
      exact List.perm_append_comm (l₁ := [z]) (l₂ := s)
  · intro k k0 kl
    obtain ⟨j, rfl⟩ : ∃ j, k = j + 1 := ⟨k - 1, by omega⟩
    rw [atV_get (by simp; omega), atV_get (by simp; omega)]
    simp
theorem rest_heap {x : D6} {r : List D6} (h : Heap (x :: r)) : Heap (restL x r) ∧ (restL x r).Perm r := by
  have hr := rest_row x r
  have hl : (((x :: r).set 0 ((x :: r).getLast (by simp))).take r.length).length = r.length := by simp
  unfold restL downL
  obtain ⟨a, b⟩ := dn_heap _ _ 0 (Nat.le_refl _) (show DnI (((x :: r).set 0 ((x :: r).getLast (by simp))).take r.length) 0 from ⟨fun k k0 kl kn => by
    rw [hl] at kl
    rw [hr.2 k k0 kl, hr.2 ((k - 1) / 2) (by omega) (by omega)]
    exact h k k0 (by simp; omega), fun k k0 kl ke h0 => absurd h0 (by omega)⟩)
  exact ⟨a, b.trans hr.1⟩
theorem heap_least {x : D6} {r : List D6} (h : Heap (x :: r)) : ∀ y ∈ x :: r, leP x y := by
  have key : ∀ k, k < (x :: r).length → leP x (atV (x :: r) k) := by
    intro k
    induction k using Nat.strongRecOn with
    | ind k ih =>
      intro hk
      by_cases h0 : k = 0
      · subst h0; exact leP_refl _
      · exact leP_trans (ih ((k - 1) / 2) (by omega) (by omega)) (h k (by omega) hk)
  intro y hy
  obtain ⟨k, hk, rfl⟩ := List.getElem_of_mem hy
  rw [← atV_get hk]
  exact key k hk
theorem heap_one (x : D6) : Heap [x] := fun k h0 hk => by simp at hk; omega


theorem ltI_trans {a b c : List Nat} (h : ltI a b) (h2 : ltI b c) : ltI a c := by
  by_cases h3 : ltI a c
  · exact h3
  · exact absurd h2 (ltI_neg_trans c a b h3 (ltI_asymm _ _ h))
theorem ltI_app : ∀ (p a b : List Nat), ltI (p ++ a) (p ++ b) ↔ ltI a b
  | [], _, _ => Iff.rfl
  | x :: p, a, b => by
    have ih := ltI_app p a b
    simp only [List.cons_append, ltI, ih]
    constructor
    · rintro (h | ⟨_, h⟩)
      · exact absurd h (Nat.lt_irrefl _)
      · exact h
    · exact fun h => .inr ⟨trivial, h⟩
/-- lengths of ways, without the first move -/
def pl (wt : Nat → Int) (q : List Nat) : Int := (q.tail.map wt).sum
def Wk (nx : Nat → List Nat) (t : Nat) : List Nat → Prop
  | [] => False
  | [u] => u = t
  | u :: v :: r => v ∈ nx u ∧ Wk nx t (v :: r)
def Chn (nx : Nat → List Nat) : List Nat → Prop
  | [] => True
  | [_] => True
  | u :: v :: r => v ∈ nx u ∧ Chn nx (v :: r)
/-- the order of all ways -/
def bf (wt : Nat → Int) (q r : List Nat) : Prop := pl wt q < pl wt r ∨ (pl wt q = pl wt r ∧ (q.length < r.length ∨ (q.length = r.length ∧ ltI q r)))
theorem bf_irr {wt : Nat → Int} {q : List Nat} : ¬ bf wt q q := by
  rintro (h | ⟨_, h | ⟨_, h⟩⟩)
  · omega
  · omega
  · exact ltI_asymm _ _ h h
theorem bf_trans {wt : Nat → Int} {q r s : List Nat} (h : bf wt q r) (g : bf wt r s) : bf wt q s := by
  rcases h with h | ⟨h1, h | ⟨h2, h⟩⟩ <;> rcases g with g | ⟨g1, g | ⟨g2, g⟩⟩
  · left; omega
  · left; omega
  · left; omega
  · left; omega
  · right; exact ⟨by omega, .inl (by omega)⟩
  · right; exact ⟨by omega, .inl (by omega)⟩
  · left; omega
  · right; exact ⟨by omega, .inl (by omega)⟩
  · right; exact ⟨by omega, .inr ⟨by omega, ltI_trans h g⟩⟩
theorem bf_total {wt : Nat → Int} (q r : List Nat) : q = r ∨ bf wt q r ∨ bf wt r q := by
  unfold bf
  by_cases h1 : pl wt q = pl wt r
  · by_cases h2 : q.length = r.length
    · by_cases h3 : ltI q r
      · exact .inr (.inl (.inr ⟨h1, .inr ⟨h2, h3⟩⟩))
      · by_cases h4 : ltI r q
        · exact .inr (.inr (.inr ⟨h1.symm, .inr ⟨h2.symm, h4⟩⟩))
        · exact .inl (ltI_total _ _ h3 h4)
    · by_cases h3 : q.length < r.length
      · exact .inr (.inl (.inr ⟨h1, .inl h3⟩))
      · exact .inr (.inr (.inr ⟨h1.symm, .inl (by omega)⟩))
  · by_cases h2 : pl wt q < pl wt r
    · exact .inr (.inl (.inl h2))
    · exact .inr (.inr (.inl (by omega)))
theorem pl_app (wt : Nat → Int) (p : List Nat) (u : Nat) (s : List Nat) : pl wt (p ++ u :: s) = pl wt (p ++ [u]) + pl wt (u :: s) := by
  unfold pl
  cases p with
  | nil => simp
  | cons a p => simp [List.sum_append]; omega
theorem pl_cons (wt : Nat → Int) (u v : Nat) (s : List Nat) : pl wt (u :: v :: s) = wt v + pl wt (v :: s) := by simp [pl]
theorem bf_app {wt : Nat → Int} {p s s' : List Nat} {u : Nat} (h : bf wt (u :: s) (u :: s')) : bf wt (p ++ u :: s) (p ++ u :: s') := by
  unfold bf at *
  rw [pl_app, pl_app wt p u s', ltI_app]
  simp only [List.length_append]
  rcases h with h | ⟨h1, h | ⟨h2, h⟩⟩
  · left; omega
  · right; exact ⟨by omega, .inl (by omega)⟩
  · right; exact ⟨by omega, .inr ⟨by omega, h⟩⟩
theorem wk_app {nx : Nat → List Nat} {t : Nat} : ∀ (p : List Nat) (u : Nat) (s : List Nat), Wk nx t (p ++ u :: s) ↔ Chn nx (p ++ [u]) ∧ Wk nx t (u :: s)
  | [], u, s => by simp [Chn]
  | [a], u, s => by simp [Chn, Wk]
  | a :: b :: p, u, s => by
    have ih := wk_app (nx := nx) (t := t) (b :: p) u s
    simp only [List.cons_append, Wk, Chn] at *
    rw [ih, and_assoc]
theorem wk_last {nx : Nat → List Nat} {t : Nat} : ∀ (q : List Nat), Wk nx t q → q.getLast? = some t
  | [], h => absurd h (by simp [Wk])
  | [u], h => by
    obtain rfl : u = t := h
    rfl
  | u :: v :: r, h => by
    rw [List.getLast?_cons_cons]
    exact wk_last (v :: r) h.2
theorem wk_mem {nx : Nat → List Nat} {t : Nat} {q : List Nat} (h : Wk nx t q) : t ∈ q := List.mem_of_getLast? (wk_last q h)

/-- pairs of a length and a number of moves -/
def le2 (a b : Int × Int) : Prop := a.1 < b.1 ∨ (a.1 = b.1 ∧ a.2 ≤ b.2)
/-- what the search for costs gives, over moves that are not closed -/
structure Lab (M t : Nat) (nx : Nat → List Nat) (wt : Nat → Int) (cl : Nat → Prop) (cs : Nat → Int × Int) : Prop where
  tz : cs t = (0, 0)
  low : ∀ u, u < M → ¬ cl u → ∀ b ∈ nx u, 0 ≤ (cs b).1 → 0 ≤ (cs u).1 ∧ le2 (cs u) ((cs b).1 + wt b, (cs b).2 + 1)
  hit : ∀ u, u < M → u ≠ t → 0 ≤ (cs u).1 → ¬ cl u
def stp (wt : Nat → Int) (cs : Nat → Int × Int) (u v : Nat) : Prop := 0 ≤ (cs v).1 ∧ (cs v).1 + wt v = (cs u).1 ∧ (cs v).2 + 1 = (cs u).2
/-- the way that is found, step by step -/
def Gr (t : Nat) (nx : Nat → List Nat) (wt : Nat → Int) (cs : Nat → Int × Int) : List Nat → Prop
  | [] => False
  | [u] => u = t
  | u :: v :: r => u ≠ t ∧ v ∈ nx u ∧ stp wt cs u v ∧ (∀ b ∈ nx u, stp wt cs u b → v ≤ b) ∧ Gr t nx wt cs (v :: r)
/-- the plan's moves: what follows is in order, and each is longer than nothing -/
structure Net (M : Nat) (nx : Nat → List Nat) (wt : Nat → Int) : Prop where
  nb : ∀ u, u < M → ∀ v ∈ nx u, v < M
  nd : ∀ u, u < M → (nx u).Nodup
  w1 : ∀ u, u < M → 1 ≤ wt u
  ln : ∀ u, u < M → (nx u).length ≤ M
section
variable {M t : Nat} {nx : Nat → List Nat} {wt : Nat → Int} {cl : Nat → Prop} {cs : Nat → Int × Int}
theorem gr_wk : ∀ (q : List Nat), Gr t nx wt cs q → Wk nx t q
  | [], h => h
  | [_], h => h
  | _ :: v :: r, h => ⟨h.2.1, gr_wk (v :: r) h.2.2.2.2⟩
theorem gr_lt (hn : Net M nx wt) : ∀ (r : List Nat) (u : Nat), u < M → Gr t nx wt cs (u :: r) → ∀ x ∈ u :: r, x < M
  | [], u, hu, _, x, hx => by
    obtain rfl : x = u := by simpa using hx
    exact hu
  | v :: r, u, hu, h, x, hx => by
    rcases List.mem_cons.1 hx with rfl | hx
    · exact hu
    · exact gr_lt hn r v (hn.nb u hu v h.2.1) h.2.2.2.2 x hx
theorem gr_cost (hL : Lab M t nx wt cl cs) : ∀ (r : List Nat) (u : Nat), Gr t nx wt cs (u :: r) → cs u = (pl wt (u :: r), ((u :: r).length : Int) - 1)
  | [], u, h => by
    obtain rfl : u = t := h
    rw [hL.tz]; simp [pl]
  | v :: r, u, h => by
    have ih := gr_cost hL r v h.2.2.2.2
    obtain ⟨_, h1, h2⟩ := h.2.2.1
    rw [ih] at h1 h2
    rw [pl_cons]
    apply Prod.ext
    · simp only at *; omega
    · simp only [List.length_cons, Int.natCast_add, Int.cast_ofNat_Int] at *; omega
theorem gr_nn (hL : Lab M t nx wt cl cs) (hn : Net M nx wt) : ∀ (r : List Nat) (u : Nat), u < M → Gr t nx wt cs (u :: r) → 0 ≤ (cs u).1 ∧ ∀ x ∈ r, 0 ≤ (cs x).1 ∧ (cs x).1 < (cs u).1
  | [], u, _, h => by
    obtain rfl : u = t := h
    rw [hL.tz]; simp
  | v :: r, u, hu, h => by
    have hv := hn.nb u hu v h.2.1
    obtain ⟨h0, h1⟩ := gr_nn hL hn r v hv h.2.2.2.2
    obtain ⟨_, h2, _⟩ := h.2.2.1
    have := hn.w1 v hv
    refine ⟨by omega, fun x hx => ?_⟩
    rcases List.mem_cons.1 hx with rfl | hx
    · exact ⟨h0, by omega⟩
    · have := h1 x hx; omega
theorem gr_nd (hL : Lab M t nx wt cl cs) (hn : Net M nx wt) : ∀ (r : List Nat) (u : Nat), u < M → Gr t nx wt cs (u :: r) → (u :: r).Nodup
  | [], u, _, _ => by simp
  | v :: r, u, hu, h => by
    have hv := hn.nb u hu v h.2.1
    rw [List.nodup_cons]
    refine ⟨fun hm => ?_, gr_nd hL hn r v hv h.2.2.2.2⟩
    have := ((gr_nn hL hn (v :: r) u hu h).2 u hm).2
    omega
theorem low_walk (hL : Lab M t nx wt cl cs) : ∀ (r : List Nat) (u : Nat), Wk nx t (u :: r) → (∀ x ∈ u :: r, x < M ∧ ¬ cl x) → 0 ≤ (cs u).1 ∧ le2 (cs u) (pl wt (u :: r), ((u :: r).length : Int) - 1)
  | [], u, h, _ => by
    obtain rfl : u = t := h
    rw [hL.tz]; simp [le2, pl]
  | v :: r, u, h, hx => by
    obtain ⟨h0, h1⟩ := low_walk hL r v h.2 (fun x hx' => hx x (List.mem_cons_of_mem _ hx'))
    obtain ⟨g0, g1⟩ := hL.low u (hx u (by simp)).1 (hx u (by simp)).2 v h.1 h0
    refine ⟨g0, ?_⟩
    rw [pl_cons]
    unfold le2 at *
    simp only [List.length_cons, Int.natCast_add, Int.cast_ofNat_Int] at *
    omega
theorem gr_min (hL : Lab M t nx wt cl cs) : ∀ (r' r : List Nat) (u : Nat), Gr t nx wt cs (u :: r) → Wk nx t (u :: r') → (∀ x ∈ u :: r', x < M ∧ ¬ cl x) → t ∉ (u :: r').dropLast → u :: r = u :: r' ∨ bf wt (u :: r) (u :: r')
  | [], r, u, h, hw, _, _ => by
    obtain rfl : u = t := hw
    cases r with
    | nil => exact .inl rfl
    | cons v r => exact absurd rfl h.1
  | v :: r', r, u, h, hw, hx, ht => by
    have hut : u ≠ t := fun e => ht (by subst e; simp)
    cases r with
    | nil => exact absurd h hut
    | cons w r =>
      have hc := gr_cost hL (w :: r) u h
      obtain ⟨l0, l1⟩ := low_walk hL r' v hw.2 (fun x hx' => hx x (List.mem_cons_of_mem _ hx'))
      obtain ⟨g0, g1⟩ := hL.low u (hx u (by simp)).1 (hx u (by simp)).2 v hw.1 l0
      have e1 : pl wt (u :: v :: r') = wt v + pl wt (v :: r') := pl_cons _ _ _ _
      have hc1 : (cs u).1 = pl wt (u :: w :: r) := by rw [hc]
      have hc2 : (cs u).2 = ((u :: w :: r).length : Int) - 1 := by rw [hc]
      unfold le2 at *
      simp only at l1 g1
      by_cases hs : (cs u).1 = pl wt (u :: v :: r') ∧ (cs u).2 = ((u :: v :: r').length : Int) - 1
      · simp only [List.length_cons, Int.natCast_add, Int.cast_ofNat_Int] at hs hc2 l1 g1
        have hst : stp wt cs u v := ⟨l0, by omega, by omega⟩
        have hle := h.2.2.2.1 v hw.1 hst
        by_cases hwv : w < v
        · right
          unfold bf
          right
          refine ⟨by omega, .inr ⟨by simp only [List.length_cons]; omega, ?_⟩⟩
          exact .inr ⟨rfl, .inl hwv⟩
        · obtain rfl : w = v := by omega
          rcases gr_min hL r' r w h.2.2.2.2 hw.2 (fun x hx' => hx x (List.mem_cons_of_mem _ hx')) (fun hm => ht (by rw [List.dropLast_cons_of_ne_nil (by simp)]; exact List.mem_cons_of_mem _ hm)) with e | hb
          · left; rw [e]
          · right
            exact bf_app (p := [u]) hb
      · right
        unfold bf
        simp only [List.length_cons, Int.natCast_add, Int.cast_ofNat_Int] at hs hc2 l1 g1 ⊢
        by_cases h3 : pl wt (u :: w :: r) < pl wt (u :: v :: r')
        · exact .inl h3
        · right
          refine ⟨by omega, .inl (by omega)⟩
end
/-! detours -/
def pre (d : D6) : List Nat := d.b.take d.k
/-- ways without repeated moves -/
structure Sw (M f t : Nat) (nx : Nat → List Nat) (q : List Nat) : Prop where
  wk : Wk nx t q
  hd : q.head? = some f
  nd : q.Nodup
  lt : ∀ x ∈ q, x < M
/-- the ways that a detour stands for -/
def cls (M f t : Nat) (nx : Nat → List Nat) (d : D6) (q : List Nat) : Prop := Sw M f t nx q ∧ ∃ s, q = pre d ++ d.t :: s
def spn (wt : Nat → Int) (p : List Nat) (u : Nat) (c : Int × Int) : Int × Int := (pl wt (p ++ [u]) + c.1, (p.length : Int) + c.2)
structure DOk (M f t : Nat) (nx : Nat → List Nat) (wt : Nat → Int) (free : Nat → Int × Int) (d : D6) : Prop where
  hk : d.k ≤ d.b.length
  hd : (pre d ++ [d.t]).head? = some f
  ch : Chn nx (pre d ++ [d.t])
  nd : (pre d ++ [d.t]).Nodup
  lt : ∀ x ∈ pre d ++ [d.t], x < M
  tn : t ∉ pre d
  fr : 0 ≤ (free d.t).1
  bd : d.f = [] → (d.l, d.m) = spn wt (pre d) d.t (free d.t)
  fd : d.f ≠ [] → cls M f t nx d d.f ∧ (d.l, d.m) = (pl wt d.f, (d.f.length : Int) - 1) ∧ ∀ q, cls M f t nx d q → d.f = q ∨ bf wt d.f q
section
variable {M f t : Nat} {nx : Nat → List Nat} {wt : Nat → Int} {free : Nat → Int × Int} {d d' : D6}
theorem nodup_app {p s : List Nat} {u : Nat} (h1 : (p ++ [u]).Nodup) (h2 : (u :: s).Nodup) (h3 : ∀ x ∈ u :: s, x ∉ p) : (p ++ u :: s).Nodup := by
  rw [List.nodup_append] at *
  refine ⟨h1.1, h2, fun a ha b hb e => ?_⟩
  subst e
  exact h3 a hb ha
theorem last_drop {t : Nat} : ∀ {q : List Nat}, q.Nodup → q.getLast? = some t → t ∉ q.dropLast
  | [], _, h => by simp at h
  | [u], _, _ => by simp
  | u :: v :: r, h, hl => by
    rw [List.getLast?_cons_cons] at hl
    rw [List.dropLast_cons_of_ne_nil (by simp), List.mem_cons]
    rw [List.nodup_cons] at h
    rintro (e | hm)
    · subst e; exact h.1 (List.mem_of_getLast? hl)
    · exact last_drop h.2 hl hm
theorem cls_tail (h : DOk M f t nx wt free d) {s : List Nat} (hq : Sw M f t nx (pre d ++ d.t :: s)) : Wk nx t (d.t :: s) ∧ (∀ x ∈ d.t :: s, x < M ∧ x ∉ pre d) ∧ t ∉ (d.t :: s).dropLast := by
  have hw := ((wk_app _ _ _).1 hq.wk).2
  have hn := hq.nd
  rw [List.nodup_append] at hn
  refine ⟨hw, fun x hx => ⟨hq.lt x (List.mem_append.2 (.inr hx)), fun hp => hn.2.2 x hp x hx rfl⟩, last_drop hn.2.1 (wk_last _ hw)⟩
/-- a way is found that is the best one of its class -/
theorem found (h : DOk M f t nx wt free d) {cl : Nat → Prop} {cs : Nat → Int × Int} (hn : Net M nx wt) (hL : Lab M t nx wt cl cs) (hcl : ∀ x, cl x → x ∈ pre d) {s : List Nat} (hg : Gr t nx wt cs (d.t :: s))
    (hd : ∀ x ∈ d.t :: s, x ∉ pre d) (e1 : pre d' = pre d) (e2 : d'.t = d.t) (e3 : d'.k ≤ d'.b.length) (ef : d'.f = pre d ++ d.t :: s) (ec : (d'.l, d'.m) = spn wt (pre d) d.t (cs d.t)) :
    DOk M f t nx wt free d' ∧ ∀ q, cls M f t nx d' q ↔ cls M f t nx d q := by
  have hM : d.t < M := h.lt d.t (by simp)
  have hcls : ∀ q, cls M f t nx d' q ↔ cls M f t nx d q := fun q => by unfold cls; rw [e1, e2]
  have hlt := gr_lt hn s d.t hM hg
  have hsw : Sw M f t nx (pre d ++ d.t :: s) := by
    refine ⟨(wk_app _ _ _).2 ⟨h.ch, gr_wk _ hg⟩, ?_, nodup_app h.nd (gr_nd hL hn s d.t hM hg) hd, fun x hx => ?_⟩
    · have := h.hd
      cases hp : pre d with
      | nil => rw [hp] at this; simpa using this
      | cons a p => rw [hp] at this; simpa using this
    · rcases List.mem_append.1 hx with hx | hx
      · exact h.lt x (List.mem_append.2 (.inl hx))
      · exact hlt x hx
  refine ⟨⟨e3, by rw [e1, e2]; exact h.hd, by rw [e1, e2]; exact h.ch, by rw [e1, e2]; exact h.nd, by rw [e1, e2]; exact h.lt, by rw [e1]; exact h.tn, by rw [e2]; exact h.fr, fun e => ?_, fun _ => ⟨?_, ?_, fun q hq => ?_⟩⟩, hcls⟩
  · rw [ef] at e; simp at e
  · rw [hcls, ef]; exact ⟨hsw, s, rfl⟩
  · rw [ec, ef, gr_cost hL s d.t hg]
    unfold spn
    rw [pl_app wt (pre d) d.t s]
    simp only [List.length_append, List.length_cons, Int.natCast_add]
    apply Prod.ext
    · rfl
    · simp only [Int.cast_ofNat_Int]; omega
  · rw [hcls] at hq
    obtain ⟨hq1, s', rfl⟩ := hq
    obtain ⟨a1, a2, a3⟩ := cls_tail h hq1
    rw [ef]
    rcases gr_min hL s' s d.t hg a1 (fun x hx => ⟨(a2 x hx).1, fun hc => (a2 x hx).2 (hcl x hc)⟩) a3 with e | hb
    · left; rw [e]
    · right; exact bf_app hb
/-- there is none -/
theorem none_found (h : DOk M f t nx wt free d) {cl : Nat → Prop} {cs : Nat → Int × Int} (hL : Lab M t nx wt cl cs) (hcl : ∀ x, cl x → x ∈ pre d) (h0 : (cs d.t).1 < 0) : ∀ q, ¬ cls M f t nx d q := by
  rintro q ⟨hq, s, rfl⟩
  obtain ⟨a1, a2, _⟩ := cls_tail h hq
  have := (low_walk hL s d.t a1 (fun x hx => ⟨(a2 x hx).1, fun hc => (a2 x hx).2 (hcl x hc)⟩)).1
  omega
/-- the bound of a detour that is not found yet -/
theorem bound (h : DOk M f t nx wt free d) (hF : Lab M t nx wt (fun _ => False) free) {q : List Nat} (hq : cls M f t nx d q) (hf : d.f = []) : le2 (d.l, d.m) (pl wt q, (q.length : Int) - 1) := by
  obtain ⟨hq, s, rfl⟩ := hq
  obtain ⟨a1, a2, _⟩ := cls_tail h hq
  have := (low_walk hF s d.t a1 (fun x hx => ⟨(a2 x hx).1, fun hc => hc⟩)).2
  rw [h.bd hf]
  unfold spn le2 at *
  rw [pl_app wt (pre d) d.t s]
  simp only [List.length_append, List.length_cons, Int.natCast_add, Int.cast_ofNat_Int] at *
  omega

/-- the number at a place -/
def gN (l : List Nat) (i : Nat) : Nat := l.getD i 0
theorem gN_at {l : List Nat} {i : Nat} (h : i < l.length) : gN l i = l[i] := by simp [gN, h]
def newD (wt : Nat → Int) (free : Nat → Int × Int) (d : D6) (i x : Nat) : D6 :=
  ⟨(spn wt (d.f.take (i + 1)) x (free x)).1, (spn wt (d.f.take (i + 1)) x (free x)).2, d.F, d.f, d.fc, i + 1, x, none, [], 0⟩
def wantB (free : Nat → Int × Int) (d : D6) (i x : Nat) : Bool := !(decide (x = gN d.f (i + 1)) || decide ((free x).1 < 0) || (d.f.take (i + 1)).contains x)
def brI (nx : Nat → List Nat) (wt : Nat → Int) (free : Nat → Int × Int) (d : D6) (i : Nat) : List D6 := ((nx (gN d.f i)).filter (wantB free d i)).map (newD wt free d i)
def brs (nx : Nat → List Nat) (wt : Nat → Int) (free : Nat → Int × Int) (d : D6) : List D6 := (List.range' d.k (d.f.length - 1 - d.k)).flatMap (brI nx wt free d)
theorem want_iff {i x : Nat} : wantB free d i x = true ↔ x ≠ gN d.f (i + 1) ∧ 0 ≤ (free x).1 ∧ x ∉ d.f.take (i + 1) := by
  unfold wantB
  simp [and_assoc, Int.not_lt]
theorem mem_brs {d2 : D6} : d2 ∈ brs nx wt free d ↔ ∃ i x, d.k ≤ i ∧ i + 1 < d.f.length ∧ x ∈ nx (gN d.f i) ∧ (x ≠ gN d.f (i + 1) ∧ 0 ≤ (free x).1 ∧ x ∉ d.f.take (i + 1)) ∧ d2 = newD wt free d i x := by
  unfold brs brI
  rw [List.mem_flatMap]
  constructor
  · rintro ⟨i, hi, h⟩
    obtain ⟨x, hx, rfl⟩ := List.mem_map.1 h
    obtain ⟨h1, h2⟩ := List.mem_filter.1 hx
    rw [List.mem_range'_1] at hi
    exact ⟨i, x, hi.1, by omega, h1, want_iff.1 h2, rfl⟩
  · rintro ⟨i, x, h1, h2, h3, h4, rfl⟩
    exact ⟨i, by rw [List.mem_range'_1]; omega, List.mem_map.2 ⟨x, List.mem_filter.2 ⟨h3, want_iff.2 h4⟩, rfl⟩⟩
theorem new_pre {i x : Nat} : pre (newD wt free d i x) = d.f.take (i + 1) := rfl
/-- a way that a new detour stands for: where it leaves the old one -/
theorem new_at {i x : Nat} {q : List Nat} (hi : i + 1 < d.f.length) (h : cls M f t nx (newD wt free d i x) q) : q.take (i + 1) = d.f.take (i + 1) ∧ q[i + 1]? = some x := by
  obtain ⟨_, s, rfl⟩ := h
  have hl : (d.f.take (i + 1)).length = i + 1 := by simp; omega
  rw [new_pre]
  constructor
  · rw [List.take_append_of_le_length (by omega), List.take_take, Nat.min_self]
  · rw [List.getElem?_append_right (by omega), hl, Nat.sub_self]; rfl
section br
variable (hn : Net M nx wt) (h : DOk M f t nx wt free d) (hf : d.f ≠ [])
include h hf
theorem found_pre : d.f.take (d.k + 1) = pre d ++ [d.t] ∧ d.k + 1 ≤ d.f.length := by
  obtain ⟨⟨_, s, e⟩, _, _⟩ := h.fd hf
  have hl : (pre d).length = d.k := by unfold pre; have := h.hk; simp; omega
  constructor
  · rw [e, show pre d ++ d.t :: s = (pre d ++ [d.t]) ++ s by simp, List.take_append_of_le_length (by simp; omega), List.take_of_length_le (by simp; omega)]
  · rw [e]; simp; omega
theorem new_sub {i x : Nat} {q : List Nat} (hk : d.k ≤ i) (hi : i + 1 < d.f.length) (hx : x ≠ gN d.f (i + 1)) (hq : cls M f t nx (newD wt free d i x) q) : cls M f t nx d q ∧ d.f ≠ q := by
  obtain ⟨h1, h2⟩ := new_at hi hq
  obtain ⟨g1, g2⟩ := found_pre h hf
  refine ⟨⟨hq.1, q.drop (d.k + 1), ?_⟩, fun e => ?_⟩
  · have h3 : q.take (d.k + 1) = pre d ++ [d.t] := by
      rw [← g1]
      have := congrArg (List.take (d.k + 1)) h1
      rwa [List.take_take, List.take_take, Nat.min_eq_left (by omega)] at this
    rw [show pre d ++ d.t :: q.drop (d.k + 1) = (pre d ++ [d.t]) ++ q.drop (d.k + 1) by simp, ← h3, List.take_append_drop]
  · subst e
    rw [List.getElem?_eq_getElem hi] at h2
    exact hx (by rw [gN_at hi]; exact (Option.some.inj h2).symm)
include hn in
theorem new_ok {i x : Nat} (hk : d.k ≤ i) (hi : i + 1 < d.f.length) (hx : x ∈ nx (gN d.f i)) (h0 : 0 ≤ (free x).1) (hx2 : x ∉ d.f.take (i + 1)) : DOk M f t nx wt free (newD wt free d i x) := by
  obtain ⟨⟨hs, _⟩, _, _⟩ := h.fd hf
  have hi2 : i < d.f.length := by omega
  have e1 : d.f.take (i + 1) = d.f.take i ++ [d.f[i]] := List.take_succ_eq_append_getElem hi2
  have hsplit : d.f = d.f.take i ++ d.f[i] :: d.f.drop (i + 1) := by
    rw [← List.drop_eq_getElem_cons hi2, List.take_append_drop]
  have hch : Chn nx (d.f.take i ++ [d.f[i]]) := by
    have := hs.wk
    rw [hsplit] at this
    exact ((wk_app _ _ _).1 this).1
  have hch2 : Chn nx ((d.f.take i ++ [d.f[i]]) ++ [x]) := by
    clear hsplit e1 hx2
    rw [gN_at hi2] at hx
    generalize d.f.take i = p at *
    generalize d.f[i] = u at *
    induction p with
    | nil => exact ⟨hx, trivial⟩
    | cons a p ih =>
      cases p with
      | nil => exact ⟨hch.1, hx, trivial⟩
      | cons b p => exact ⟨hch.1, ih hch.2⟩
  refine ⟨by simp [newD]; omega, ?_, by rw [new_pre, e1]; exact hch2, ?_, ?_, ?_, h0, fun _ => rfl, fun e => absurd rfl e⟩
  · rw [new_pre]
    have := hs.hd
    cases hff : d.f with
    | nil => exact absurd hff hf
    | cons a r => rw [hff] at this; simpa using this
  · rw [new_pre, List.nodup_append]
    refine ⟨hs.nd.sublist (List.take_sublist _ _), by simp, fun a ha b hb e => ?_⟩
    have hb' : b = x := by simpa [newD] using hb
    subst hb'; subst e
    exact hx2 ha
  · intro y hy
    rw [new_pre] at hy
    rcases List.mem_append.1 hy with hy | hy
    · exact hs.lt y (List.mem_of_mem_take hy)
    · obtain rfl : y = x := by simpa [newD] using hy
      rw [gN_at hi2] at hx
      exact hn.nb _ (hs.lt _ (List.getElem_mem hi2)) _ hx
  · rw [new_pre]
    have hl := last_drop hs.nd (wk_last _ hs.wk)
    intro hm
    apply hl
    rw [List.dropLast_eq_take]
    obtain ⟨j, hj, e⟩ := List.getElem_of_mem hm
    rw [List.length_take] at hj
    rw [List.getElem_take] at e
    rw [← e]
    exact List.mem_take_iff_getElem.2 ⟨j, by omega, rfl⟩
/-- each other way of the class belongs to a new detour -/
theorem new_all (hF : Lab M t nx wt (fun _ => False) free) {q : List Nat} (hq : cls M f t nx d q) (hne : d.f ≠ q) : ∃ d2 ∈ brs nx wt free d, cls M f t nx d2 q := by
  obtain ⟨hc, _, _⟩ := h.fd hf
  obtain ⟨g1, g2⟩ := found_pre h hf
  have hs := hc.1
  have hqs := hq.1
  obtain ⟨s, hqe⟩ := hq.2
  have hl : (pre d).length = d.k := by unfold pre; have := h.hk; simp; omega
  have q1 : q.take (d.k + 1) = d.f.take (d.k + 1) := by
    rw [g1, hqe, show pre d ++ d.t :: s = (pre d ++ [d.t]) ++ s by simp, List.take_append_of_le_length (by simp; omega), List.take_of_length_le (by simp; omega)]
  have q2 : d.k + 1 ≤ q.length := by rw [hqe]; simp; omega
  -- the first place where they part
  have key : ∀ n, d.k + 1 + n ≤ d.f.length → q.take (d.k + 1 + n) = d.f.take (d.k + 1 + n) ∨ ∃ i, d.k ≤ i ∧ i + 1 < d.f.length ∧ q.take (i + 1) = d.f.take (i + 1) ∧ q[i + 1]? ≠ d.f[i + 1]? := by
    intro n
    induction n with
    | zero => exact fun _ => .inl q1
    | succ n ih =>
      intro hn
      rcases ih (by omega) with h1 | h1
      · by_cases e : q[d.k + 1 + n]? = d.f[d.k + 1 + n]?
        · left
          rw [show d.k + 1 + (n + 1) = d.k + 1 + n + 1 by omega, List.take_add_one, List.take_add_one, h1, e]
        · right
          exact ⟨d.k + n, by omega, by omega, by rw [show d.k + n + 1 = d.k + 1 + n by omega]; exact h1, by rw [show d.k + n + 1 = d.k + 1 + n by omega]; exact e⟩
      · exact .inr h1
  have hdf := last_drop hs.nd (wk_last _ hs.wk)
  have hdq := last_drop hqs.nd (wk_last _ hqs.wk)
  have tf := wk_mem hs.wk
  have tq := wk_mem hqs.wk
  rcases key (d.f.length - (d.k + 1)) (by omega) with h1 | ⟨i, i1, i2, i3, i4⟩
  · exfalso
    rw [show d.k + 1 + (d.f.length - (d.k + 1)) = d.f.length by omega, List.take_length] at h1
    by_cases hle : q.length ≤ d.f.length
    · rw [List.take_of_length_le hle] at h1
      exact hne h1.symm
    · apply hdq
      rw [← h1] at tf
      rw [List.dropLast_eq_take]
      obtain ⟨j, hj, e⟩ := List.mem_take_iff_getElem.1 tf
      exact List.mem_take_iff_getElem.2 ⟨j, by omega, e⟩
  · have hiq : i + 1 < q.length := by
      by_cases hle : i + 1 < q.length
      · exact hle
      · exfalso
        rw [List.take_of_length_le (by omega)] at i3
        apply hdf
        rw [i3] at tq
        rw [List.dropLast_eq_take]
        obtain ⟨j, hj, e⟩ := List.mem_take_iff_getElem.1 tq
        exact List.mem_take_iff_getElem.2 ⟨j, by omega, e⟩
    rw [List.getElem?_eq_getElem hiq, List.getElem?_eq_getElem i2] at i4
    have e1 : q.take (i + 1) = q.take i ++ [q[i]] := List.take_succ_eq_append_getElem (by omega)
    have e2 : d.f.take (i + 1) = d.f.take i ++ [d.f[i]] := List.take_succ_eq_append_getElem (by omega)
    have hii : q[i] = d.f[i] := by
      have := congrArg (fun l => l[i]?) i3
      simp only [List.getElem?_take, Nat.lt_succ_self, if_true] at this
      rw [List.getElem?_eq_getElem (by omega), List.getElem?_eq_getElem (by omega)] at this
      exact Option.some.inj this
    have hsp : q = q.take i ++ q[i] :: q[i + 1] :: q.drop (i + 2) := by
      rw [← List.drop_eq_getElem_cons hiq, ← List.drop_eq_getElem_cons (show i < q.length by omega), List.take_append_drop]
    have hwk := hqs.wk
    rw [hsp] at hwk
    have hwk2 := ((wk_app _ _ _).1 hwk).2
    have hsp2 : q = q.take (i + 1) ++ q[i + 1] :: q.drop (i + 2) := by
      rw [← List.drop_eq_getElem_cons hiq, List.take_append_drop]
    have hnd := hqs.nd
    rw [hsp2, List.nodup_append] at hnd
    have hfree := (low_walk hF (q.drop (i + 2)) q[i + 1] hwk2.2 (fun x hx => ⟨hqs.lt x (by rw [hsp2]; exact List.mem_append.2 (.inr hx)), fun hc => hc⟩)).1
    refine ⟨newD wt free d i q[i + 1], mem_brs.2 ⟨i, q[i + 1], i1, i2, ?_, ⟨?_, hfree, ?_⟩, rfl⟩, hqs, q.drop (i + 2), ?_⟩
    · rw [gN_at (by omega), ← hii]; exact hwk2.1
    · rw [gN_at i2]; exact fun e => i4 (by rw [e])
    · rw [← i3]
      exact fun hm => hnd.2.2 q[i + 1] hm q[i + 1] (List.mem_cons_self) rfl
    · rw [new_pre, ← i3]; exact hsp2
end br
theorem new_apart (hn : Net M nx wt) (hlt : ∀ i, i < d.f.length → gN d.f i < M) : (brs nx wt free d).Pairwise fun a b => ∀ q, ¬ (cls M f t nx a q ∧ cls M f t nx b q) := by
  unfold brs brI
  rw [List.pairwise_flatMap]
  constructor
  · intro i hi
    rw [List.mem_range'_1] at hi
    rw [List.pairwise_map]
    have hnd := (hn.nd (gN d.f i) (hlt i (by omega))).filter (wantB free d i)
    refine hnd.imp ?_
    rintro a b hab q ⟨h1, h2⟩
    have e1 := (new_at (by omega) h1).2
    have e2 := (new_at (by omega) h2).2
    rw [e1] at e2
    exact hab (Option.some.inj e2)
  · refine (List.pairwise_lt_range' (s := d.k) (n := d.f.length - 1 - d.k)).imp_of_mem ?_
    intro i j hi hj hij x hx y hy q hq
    rw [List.mem_range'_1] at hi hj
    obtain ⟨a, ha, rfl⟩ := List.mem_map.1 hx
    obtain ⟨b, hb, rfl⟩ := List.mem_map.1 hy
    have h1 := want_iff.1 (List.mem_filter.1 ha).2
    have e1 := (new_at (by omega) hq.1).2
    have e2 := (new_at (by omega) hq.2).1
    apply h1.1
    have e3 := congrArg (fun l => l[i + 1]?) e2
    simp only [List.getElem?_take] at e3
    rw [if_pos (by omega), if_pos (by omega), e1, List.getElem?_eq_getElem (by omega)] at e3
    rw [gN_at (by omega)]
    exact Option.some.inj e3
end
/-! the search for all ways -/
structure Inv (M f t : Nat) (nx : Nat → List Nat) (wt : Nat → Int) (free : Nat → Int × Int) (ws : List (List Nat)) (ds : List D6) : Prop where
  ok : ∀ d ∈ ds, DOk M f t nx wt free d
  al : ∀ q, Sw M f t nx q → q ∈ ws ∨ ∃ d ∈ ds, cls M f t nx d q
  ap : ds.Pairwise fun a b => ∀ q, ¬ (cls M f t nx a q ∧ cls M f t nx b q)
  bw : ∀ w ∈ ws, Sw M f t nx w ∧ ∀ d ∈ ds, ∀ q, cls M f t nx d q → bf wt w q
  so : ws.Pairwise (bf wt)
/-- the first ways of all -/
structure Res (M f t : Nat) (nx : Nat → List Nat) (wt : Nat → Int) (most : Nat) (ws : List (List Nat)) : Prop where
  so : ws.Pairwise (bf wt)
  sw : ∀ w ∈ ws, Sw M f t nx w
  al : ∀ q, Sw M f t nx q → q ∈ ws ∨ (ws.length = most ∧ ∀ w ∈ ws, bf wt w q)
section
variable {M f t : Nat} {nx : Nat → List Nat} {wt : Nat → Int} {free : Nat → Int × Int} {d d' : D6} {ws : List (List Nat)} {ds ds' r : List D6}
theorem Inv.perm (h : Inv M f t nx wt free ws ds) (hp : ds.Perm ds') : Inv M f t nx wt free ws ds' :=
  ⟨fun d hd => h.ok d (hp.mem_iff.2 hd), fun q hq => (h.al q hq).imp id fun ⟨d, hd, h2⟩ => ⟨d, hp.mem_iff.1 hd, h2⟩, (hp.pairwise_iff (fun {a b} hab q hq => hab q ⟨hq.2, hq.1⟩)).1 h.ap,
    fun w hw => ⟨(h.bw w hw).1, fun d hd => (h.bw w hw).2 d (hp.mem_iff.2 hd)⟩, h.so⟩
theorem Inv.drop (h : Inv M f t nx wt free ws (d :: r)) (hd : ∀ q, ¬ cls M f t nx d q) : Inv M f t nx wt free ws r :=
  ⟨fun x hx => h.ok x (List.mem_cons_of_mem _ hx), fun q hq => (h.al q hq).imp id fun ⟨x, hx, h2⟩ => by
    rcases List.mem_cons.1 hx with rfl | hx
    · exact absurd h2 (hd q)
    · exact ⟨x, hx, h2⟩, (List.pairwise_cons.1 h.ap).2, fun w hw => ⟨(h.bw w hw).1, fun x hx => (h.bw w hw).2 x (List.mem_cons_of_mem _ hx)⟩, h.so⟩
theorem Inv.swap (h : Inv M f t nx wt free ws (d :: r)) (hd : DOk M f t nx wt free d') (hc : ∀ q, cls M f t nx d' q ↔ cls M f t nx d q) : Inv M f t nx wt free ws (d' :: r) := by
  obtain ⟨a1, a2⟩ := List.pairwise_cons.1 h.ap
  refine ⟨fun x hx => ?_, fun q hq => (h.al q hq).imp id ?_, List.pairwise_cons.2 ⟨fun x hx q hq => a1 x hx q ⟨(hc q).1 hq.1, hq.2⟩, a2⟩, fun w hw => ⟨(h.bw w hw).1, fun x hx q hq => ?_⟩, h.so⟩
  · rcases List.mem_cons.1 hx with rfl | hx
    · exact hd
    · exact h.ok x (List.mem_cons_of_mem _ hx)
  · rintro ⟨x, hx, h2⟩
    rcases List.mem_cons.1 hx with rfl | hx
    · exact ⟨d', by simp, (hc q).2 h2⟩
    · exact ⟨x, List.mem_cons_of_mem _ hx, h2⟩
  · rcases List.mem_cons.1 hx with rfl | hx
    · exact (h.bw w hw).2 d (by simp) q ((hc q).1 hq)
    · exact (h.bw w hw).2 x (List.mem_cons_of_mem _ hx) q hq
theorem cost_bf {wt : Nat → Int} {q r : List Nat} (h : pl wt q < pl wt r ∨ (pl wt q = pl wt r ∧ (q.length : Int) - 1 < (r.length : Int) - 1)) : bf wt q r := by
  rcases h with h | ⟨h1, h2⟩
  · exact .inl h
  · exact .inr ⟨h1, .inl (by omega)⟩
theorem Inv.emit (h : Inv M f t nx wt free ws (d :: r)) (hn : Net M nx wt) (hF : Lab M t nx wt (fun _ => False) free) (hf : d.f ≠ []) (hl : ∀ y ∈ r, leP d y) : Inv M f t nx wt free (ws ++ [d.f]) (brs nx wt free d ++ r) := by
  have hd := h.ok d (by simp)
  obtain ⟨a1, a2⟩ := List.pairwise_cons.1 h.ap
  obtain ⟨f1, f2, f3⟩ := hd.fd hf
  have hsub : ∀ x ∈ brs nx wt free d, ∀ q, cls M f t nx x q → cls M f t nx d q ∧ d.f ≠ q := fun x hx q hq => by
    obtain ⟨i, y, i1, i2, _, i4, rfl⟩ := mem_brs.1 hx
    exact new_sub hd hf i1 i2 i4.1 hq
  have hf2 := Prod.ext_iff.1 f2
  simp only at hf2
  refine ⟨fun x hx => ?_, fun q hq => ?_, ?_, fun w hw => ?_, ?_⟩
  · rcases List.mem_append.1 hx with hx | hx
    · obtain ⟨i, y, i1, i2, i3, i4, rfl⟩ := mem_brs.1 hx
      exact new_ok hn hd hf i1 i2 i3 i4.2.1 i4.2.2
    · exact h.ok x (List.mem_cons_of_mem _ hx)
  · by_cases he : d.f = q
    · left; simp [he]
    · rcases h.al q hq with h1 | ⟨x, hx, h2⟩
      · left; simp [h1]
      · right
        rcases List.mem_cons.1 hx with rfl | hx
        · obtain ⟨d2, h3, h4⟩ := new_all hd hf hF h2 he
          exact ⟨d2, List.mem_append.2 (.inl h3), h4⟩
        · exact ⟨x, List.mem_append.2 (.inr hx), h2⟩
  · rw [List.pairwise_append]
    refine ⟨new_apart hn (fun i hi => by rw [gN_at hi]; exact f1.1.lt _ (List.getElem_mem hi)), a2, fun x hx y hy q hq => ?_⟩
    exact a1 y hy q ⟨(hsub x hx q hq.1).1, hq.2⟩
  · rcases List.mem_append.1 hw with hw | hw
    · refine ⟨(h.bw w hw).1, fun x hx q hq => ?_⟩
      rcases List.mem_append.1 hx with hx | hx
      · exact (h.bw w hw).2 d (by simp) q (hsub x hx q hq).1
      · exact (h.bw w hw).2 x (List.mem_cons_of_mem _ hx) q hq
    · obtain rfl : w = d.f := by simpa using hw
      refine ⟨f1.1, fun x hx q hq => ?_⟩
      rcases List.mem_append.1 hx with hx | hx
      · obtain ⟨h1, h2⟩ := hsub x hx q hq
        exact (f3 q h1).resolve_left h2
      · have hx2 := h.ok x (List.mem_cons_of_mem _ hx)
        have hle := hl x hx
        have hne : d.f ≠ q := fun e => a1 x hx q ⟨by rw [← e]; exact f1, hq⟩
        unfold leP at hle
        by_cases hxf : x.f = []
        · have hb := bound hx2 hF hq hxf
          unfold le2 at hb
          simp only at hb
          rw [hxf] at hle
          have h0 : ltI [] d.f := by
            cases hdf : d.f with
            | nil => exact absurd hdf hf
            | cons a l => trivial
          apply cost_bf
          rcases hle with hle | ⟨e1, hle | ⟨_, hle⟩⟩
          · omega
          · omega
          · exact absurd h0 hle
        · obtain ⟨g1, g2, g3⟩ := hx2.fd hxf
          have hg2 := Prod.ext_iff.1 g2
          simp only at hg2
          have key : d.f = x.f ∨ bf wt d.f x.f := by
            rcases hle with hle | ⟨e1, hle | ⟨e2, hle⟩⟩
            · exact .inr (cost_bf (.inl (by omega)))
            · exact .inr (cost_bf (.inr ⟨by omega, by omega⟩))
            · by_cases h3 : ltI d.f x.f
              · exact .inr (.inr ⟨by omega, .inr ⟨by omega, h3⟩⟩)
              · exact .inl (ltI_total _ _ h3 hle)
          rcases key with e | hb
          · rcases g3 q hq with e2 | hb
            · exact absurd (e.trans e2) hne
            · rw [e]; exact hb
          · rcases g3 q hq with e2 | hb2
            · rw [← e2]; exact hb
            · exact bf_trans hb hb2
  · rw [List.pairwise_append]
    refine ⟨h.so, by simp, fun w hw x hx => ?_⟩
    obtain rfl : x = d.f := by simpa using hx
    exact (h.bw w hw).2 d (by simp) _ f1
theorem Inv.done (h : Inv M f t nx wt free ws []) (most : Nat) : Res M f t nx wt most ws :=
  ⟨h.so, fun w hw => (h.bw w hw).1, fun q hq => (h.al q hq).imp id fun ⟨_, hx, _⟩ => by cases hx⟩
theorem Inv.most (h : Inv M f t nx wt free ws ds) {most : Nat} (hm : ws.length = most) : Res M f t nx wt most ws :=
  ⟨h.so, fun w hw => (h.bw w hw).1, fun q hq => (h.al q hq).imp id fun ⟨d, hd, h2⟩ => ⟨hm, fun w hw => (h.bw w hw).2 d hd q h2⟩⟩
def d0 (free : Nat → Int × Int) (f : Nat) : D6 := ⟨(free f).1, (free f).2, none, [], 0, 0, f, none, [], 0⟩
theorem Inv.start (hF : Lab M t nx wt (fun _ => False) free) (hf : f < M) (h0 : 0 ≤ (free f).1) : Inv M f t nx wt free [] [d0 free f] := by
  refine ⟨fun d hd => ?_, fun q hq => .inr ⟨d0 free f, by simp, hq, ?_⟩, by simp, (fun w hw => by cases hw), List.Pairwise.nil⟩
  · obtain rfl : d = d0 free f := by simpa using hd
    refine ⟨by simp [d0], rfl, trivial, by simp [d0, pre], fun x hx => ?_, by simp [d0, pre], h0, fun _ => ?_, fun e => absurd rfl e⟩
    · have : x = f := by simpa [d0, pre] using hx
      omega
    · simp [spn, d0, pre, pl]
  · have := hq.hd
    cases q with
    | nil => simp at this
    | cons a s =>
      obtain rfl : a = f := by simpa using this
      exact ⟨s, rfl⟩
theorem Inv.none (hF : Lab M t nx wt (fun _ => False) free) (h0 : (free f).1 < 0) : Inv M f t nx wt free [] [] := by
  refine ⟨(fun d hd => by cases hd), fun q hq => ?_, List.Pairwise.nil, (fun w hw => by cases hw), List.Pairwise.nil⟩
  exfalso
  have := hq.hd
  cases q with
  | nil => simp at this
  | cons a s =>
    obtain rfl : a = f := by simpa using this
    have := (low_walk hF s a hq.wk (fun x hx => ⟨hq.lt x hx, fun h => h⟩)).1
    omega
/-- two sorted lists, of which one has the first ones of the other -/
theorem first_ones {wt : Nat → Int} : ∀ (ws al : List (List Nat)), ws.Pairwise (bf wt) → al.Pairwise (bf wt) → (∀ w ∈ ws, w ∈ al) → (∀ q ∈ al, q ∈ ws ∨ ∀ w ∈ ws, bf wt w q) → ws = al.take ws.length
  | [], al, _, _, _, _ => by simp
  | w :: ws, [], _, _, h, _ => absurd (h w (by simp)) (by simp)
  | w :: ws, a :: ta, h1, h2, h3, h4 => by
    obtain ⟨p1, p2⟩ := List.pairwise_cons.1 h1
    obtain ⟨r1, r2⟩ := List.pairwise_cons.1 h2
    have hno : ¬ bf wt w a := fun hb => by
      rcases List.mem_cons.1 (h3 w (by simp)) with rfl | hm
      · exact bf_irr hb
      · exact bf_irr (bf_trans hb (r1 w hm))
    have e : a = w := by
      rcases h4 a (by simp) with hm | hall
      · rcases List.mem_cons.1 hm with e | hm
        · exact e
        · exact absurd (p1 a hm) hno
      · exact absurd (hall w (by simp)) hno
    subst e
    rw [List.length_cons, List.take_succ_cons, ← first_ones ws ta p2 r2 (fun x hx => ?_) (fun q hq => ?_)]
    · rcases List.mem_cons.1 (h3 x (List.mem_cons_of_mem _ hx)) with rfl | hm
      · exact absurd (p1 _ hx) bf_irr
      · exact hm
    · rcases h4 q (List.mem_cons_of_mem _ hq) with hm | hall
      · rcases List.mem_cons.1 hm with rfl | hm
        · exact absurd (r1 _ hq) bf_irr
        · exact .inl hm
      · exact .inr fun x hx => hall x (List.mem_cons_of_mem _ hx)
theorem Res.is {most : Nat} {al : List (List Nat)} (h : Res M f t nx wt most ws) (hm : ws.length ≤ most) (ha : al.Pairwise (bf wt)) (hall : ∀ q, q ∈ al ↔ Sw M f t nx q) : ws = al.take most := by
  have e := first_ones ws al h.so ha (fun w hw => (hall w).2 (h.sw w hw)) (fun q hq => (h.al q ((hall q).1 hq)).imp id (·.2))
  by_cases hl : ws.length = most
  · rw [← hl]; exact e
  · have hle : al.length ≤ ws.length := by
      have hnd : al.Nodup := ha.imp fun hab e => by subst e; exact bf_irr hab
      exact hnd.length_le_of_subset fun q hq => (h.al q ((hall q).1 hq)).resolve_right fun h2 => hl h2.1
    rw [List.take_of_length_le (by omega)]
    rw [List.take_of_length_le hle] at e
    exact e

/-! all ways, one after the other -/
def onL (nx : Nat → List Nat) (t : Nat) : Nat → List Nat → Nat → List (List Nat)
  | 0, _, _ => []
  | n + 1, way, u => if u = t then [way] else (nx u).flatMap fun x => if x ∈ way then [] else onL nx t n (way ++ [x]) x
theorem onL_mem (hn : Net M nx wt) : ∀ (n : Nat) (p : List Nat) (u : Nat), M ≤ n + p.length → (p ++ [u]).head? = some f → Chn nx (p ++ [u]) → (p ++ [u]).Nodup → (∀ x ∈ p ++ [u], x < M) → t ∉ p →
    (∀ q, q ∈ onL nx t n (p ++ [u]) u ↔ Sw M f t nx q ∧ ∃ s, q = p ++ u :: s) ∧ (onL nx t n (p ++ [u]) u).Nodup
  | 0, p, u, hM, _, _, hnd, hlt, _ => by
    exfalso
    have := hnd.length_le_of_subset (l₂ := List.range M) fun x hx => List.mem_range.2 (hlt x hx)
    simp at this
    omega
  | n + 1, p, u, hM, hhd, hch, hnd, hlt, ht => by
    rw [onL]
    by_cases hu : u = t
    · rw [if_pos hu]
      refine ⟨fun q => ?_, by simp⟩
      rw [List.mem_singleton]
      constructor
      · rintro rfl
        exact ⟨⟨(wk_app _ _ _).2 ⟨hch, hu⟩, hhd, hnd, hlt⟩, [], by simp⟩
      · rintro ⟨hs, s, rfl⟩
        have hw := ((wk_app _ _ _).1 hs.wk).2
        cases s with
        | nil => simp
        | cons v s =>
          exfalso
          have h1 := hs.nd
          rw [List.nodup_append] at h1
          have := wk_mem hw.2
          rw [← hu] at this
          exact (List.nodup_cons.1 h1.2.1).1 this
    · rw [if_neg hu]
      have ih : ∀ x ∈ nx u, x ∉ p ++ [u] → (∀ q, q ∈ onL nx t n (p ++ [u] ++ [x]) x ↔ Sw M f t nx q ∧ ∃ s, q = p ++ [u] ++ x :: s) ∧ (onL nx t n (p ++ [u] ++ [x]) x).Nodup := fun x hx hxn => by
        have hxM := hn.nb u (hlt u (by simp)) x hx
        refine onL_mem hn n (p ++ [u]) x (by simp; omega) ?_ ?_ ?_ ?_ ?_
        · cases p with
          | nil => simpa using hhd
          | cons a p => simpa using hhd
        · clear hhd hnd hlt ht hxn hM
          induction p with
          | nil => exact ⟨hx, trivial⟩
          | cons a p ih =>
            cases p with
            | nil => exact ⟨hch.1, hx, trivial⟩
            | cons b p => exact ⟨hch.1, ih hch.2⟩
        · rw [List.nodup_append]
          refine ⟨hnd, by simp, fun a ha b hb e => ?_⟩
          obtain rfl : b = x := by simpa using hb
          subst e; exact hxn ha
        · intro y hy
          rcases List.mem_append.1 hy with hy | hy
          · exact hlt y hy
          · obtain rfl : y = x := by simpa using hy
            exact hxM
        · intro hm
          rcases List.mem_append.1 hm with hm | hm
          · exact ht hm
          · have e : t = u := by simpa using hm
            exact hu e.symm
      constructor
      · intro q
        rw [List.mem_flatMap]
        constructor
        · rintro ⟨x, hx, hq⟩
          by_cases hxn : x ∈ p ++ [u]
          · rw [if_pos hxn] at hq; cases hq
          · rw [if_neg hxn] at hq
            obtain ⟨h1, s, rfl⟩ := ((ih x hx hxn).1 q).1 hq
            exact ⟨h1, x :: s, by simp⟩
        · rintro ⟨hs, s, rfl⟩
          have hw := ((wk_app _ _ _).1 hs.wk).2
          cases s with
          | nil => exact absurd hw hu
          | cons x s =>
            have hxn : x ∉ p ++ [u] := by
              have h1 := hs.nd
              rw [show p ++ u :: x :: s = (p ++ [u]) ++ x :: s by simp, List.nodup_append] at h1
              exact fun hm => h1.2.2 x hm x (by simp) rfl
            refine ⟨x, hw.1, ?_⟩
            rw [if_neg hxn]
            exact ((ih x hw.1 hxn).1 _).2 ⟨hs, s, by simp⟩
      · unfold List.Nodup
        rw [List.pairwise_flatMap]
        constructor
        · intro x hx
          by_cases hxn : x ∈ p ++ [u]
          · rw [if_pos hxn]; exact List.Pairwise.nil
          · rw [if_neg hxn]; exact (ih x hx hxn).2
        · refine (hn.nd u (hlt u (by simp))).imp_of_mem fun {a b} ha hb hab x hx y hy e => ?_
          subst e
          by_cases h1 : a ∈ p ++ [u]
          · rw [if_pos h1] at hx; cases hx
          · by_cases h2 : b ∈ p ++ [u]
            · rw [if_pos h2] at hy; cases hy
            · rw [if_neg h1] at hx; rw [if_neg h2] at hy
              obtain ⟨_, s1, e1⟩ := ((ih a ha h1).1 x).1 hx
              obtain ⟨_, s2, e2⟩ := ((ih b hb h2).1 x).1 hy
              rw [e1] at e2
              have := List.append_cancel_left e2
              exact hab (by injection this)
/-- a way is put where it belongs -/
theorem ins_sorted {x : List Nat} {out : List (List Nat)} (hs : out.Pairwise (bf wt)) (hx : x ∉ out) {k : Nat} (hk : k ≤ out.length) (ha : ∀ j (hj : j < out.length), k ≤ j → bf wt x out[j])
    (hb : ∀ h : 0 < k, ¬ bf wt x (out[k - 1]'(by omega))) : (out.take k ++ x :: out.drop k).Pairwise (bf wt) ∧ ∀ q, q ∈ out.take k ++ x :: out.drop k ↔ q = x ∨ q ∈ out := by
  have hmem : ∀ q, q ∈ out.take k ++ x :: out.drop k ↔ q = x ∨ q ∈ out := fun q => by
    have := List.take_append_drop k out
    constructor
    · intro h
      rcases List.mem_append.1 h with h | h
      · exact .inr (List.mem_of_mem_take h)
      · rcases List.mem_cons.1 h with h | h
        · exact .inl h
        · exact .inr (List.mem_of_mem_drop h)
    · rintro (h | h)
      · simp [h]
      · rw [← this] at h
        rcases List.mem_append.1 h with h | h
        · exact List.mem_append.2 (.inl h)
        · exact List.mem_append.2 (.inr (List.mem_cons_of_mem _ h))
  refine ⟨?_, hmem⟩
  rw [List.pairwise_append, List.pairwise_cons]
  have hsplit := hs
  rw [← List.take_append_drop k out, List.pairwise_append] at hsplit
  have hdr : ∀ y ∈ out.drop k, bf wt x y := fun y hy => by
    obtain ⟨j, hj, rfl⟩ := List.getElem_of_mem hy
    rw [List.getElem_drop]
    exact ha _ _ (by omega)
  refine ⟨hsplit.1, ⟨hdr, hsplit.2.1⟩, fun a ham b hbm => ?_⟩
  have hax : bf wt a x := by
    obtain ⟨j, hj, rfl⟩ := List.getElem_of_mem ham
    rw [List.length_take] at hj
    rw [List.getElem_take]
    have hk0 : 0 < k := by omega
    have hno := hb hk0
    have hlast : bf wt (out[k - 1]'(by omega)) x := by
      rcases bf_total (wt := wt) x (out[k - 1]'(by omega)) with e | h | h
      · exact absurd (by rw [e]; exact List.getElem_mem _) hx
      · exact absurd h hno
      · exact h
    by_cases e : j = k - 1
    · subst e; exact hlast
    · exact bf_trans (List.pairwise_iff_getElem.1 hs j (k - 1) (by omega) (by omega) (by omega)) hlast
  rcases List.mem_cons.1 hbm with rfl | hbm
  · exact hax
  · exact bf_trans hax (hdr b hbm)
end
end Go.Proofs.YtcpanfpijljeaaaGreat.DH

namespace Go.Proofs.YtcpanfpijljeaaaGreat.DH
set_option linter.unusedVariables false
set_option linter.unusedSimpArgs false
open Go.RowKit

def fV (x : D6) : List Value := [.int .i64 x.l, .int .i64 x.m, .slice x.A x.b.length x.ac, .int .i64 (x.k : Int), .int .i64 (x.t : Int), .slice x.F x.f.length x.fc]
theorem fV_len (x : D6) : (fV x).length = 6 := rfl
theorem fV_one (x : D6) : ∀ u ∈ fV x, u.oneCell' = true := by simp [fV, Value.oneCell']

theorem flat_set6 (x : D6) : ∀ (l : List D6) (i : Nat), i < l.length →
    (((((((l.flatMap fV).set (i * 6) (.int .i64 x.l)).set (i * 6 + 1) (.int .i64 x.m)).set (i * 6 + 2) (.slice x.A x.b.length x.ac)).set (i * 6 + 3) (.int .i64 (x.k : Int))).set (i * 6 + 4) (.int .i64 (x.t : Int))).set (i * 6 + 5) (.slice x.F x.f.length x.fc)) = (l.set i x).flatMap fV := by
  intro l
  induction l with
  | nil => intro i hi; simp at hi
  | cons y r ih =>
    intro i hi
    cases i with
    | zero => simp [fV]
    | succ i =>
      have := ih i (by simpa using hi)
      rw [List.set_cons_succ, List.flatMap_cons, List.flatMap_cons, ← this]
      rw [show (i + 1) * 6 = i * 6 + 6 by omega]
      simp [fV]
theorem flat_take6 (l : List D6) (n : Nat) : (l.take n).flatMap fV = (l.flatMap fV).take (n * 6) := by
  induction l generalizing n with
  | nil => simp
  | cons y r ih =>
    cases n with
    | zero => simp
    | succ n =>
      rw [List.take_succ_cons, List.flatMap_cons, List.flatMap_cons, ih, show (n + 1) * 6 = n * 6 + 6 by omega]
      simp [fV]

/-- A pile at block pb: its items at block g, its function of comparison. -/
structure Pile (w : World) (base pb : Nat) (F : Value) (l : List D6) (g c : Nat) : Prop where
  pl : base ≤ pb
  gl : base ≤ g
  ne : pb ≠ g
  blk : w.heap[pb]? = some (.cells #[.slice (some ⟨g, 0, none⟩) l.length c, F] 155)
  cur : ∃ cur, w.heap[g]? = some (.cells cur 152) ∧ cur.size = c * 6 ∧ cur.toList.take (l.length * 6) = l.flatMap fV
  lc : l.length ≤ c
  cm : c ≤ maxLen

section
variable {w w' : World} {base pb : Nat} {F : Value} {l : List D6} {g c : Nat}
theorem Pile.plt (h : Pile w base pb F l g c) : pb < w.heap.size := (Array.getElem?_eq_some_iff.1 h.blk).1
theorem Pile.glt (h : Pile w base pb F l g c) : g < w.heap.size := by
  obtain ⟨cur, hg, _⟩ := h.cur
  exact (Array.getElem?_eq_some_iff.1 hg).1
theorem Pile.head (h : Pile w base pb F l g c) : w.cell? ⟨pb, 0, none⟩ = some (.slice (some ⟨g, 0, none⟩) l.length c) ∧ w.cell? ⟨pb, 1, none⟩ = some F ∧ w.frozen? ⟨pb, 0, none⟩ = false :=
  ⟨cell_of_row _ _ 0 _ _ _ h.blk, cell_of_row _ _ 1 _ _ _ h.blk, fro_row h.blk 0⟩
theorem Pile.at_ (h : Pile w base pb F l g c) {i : Nat} (hi : i < l.length) :
    w.cell? ⟨g, i * 6, none⟩ = some (.int .i64 l[i].l) ∧ w.cell? ⟨g, i * 6 + 1, none⟩ = some (.int .i64 l[i].m) ∧ w.cell? ⟨g, i * 6 + 2, none⟩ = some (.slice l[i].A l[i].b.length l[i].ac) ∧ w.cell? ⟨g, i * 6 + 3, none⟩ = some (.int .i64 (l[i].k : Int)) ∧ w.cell? ⟨g, i * 6 + 4, none⟩ = some (.int .i64 (l[i].t : Int)) ∧ w.cell? ⟨g, i * 6 + 5, none⟩ = some (.slice l[i].F l[i].f.length l[i].fc) := by
  obtain ⟨cur, hg, hs, ht⟩ := h.cur
  have key : ∀ j, j < 6 → w.cell? ⟨g, i * 6 + j, none⟩ = (fV l[i])[j]? := by
    intro j hj
    rw [cell_of_row _ g (i * 6 + j) _ 152 (0, 0) hg]
    have e := flat_get fV_len hj l i
    rw [← ht, List.getElem?_take_of_lt (by omega), List.getElem?_eq_getElem hi] at e
    rw [← Array.getElem?_toList]
    exact e
  exact ⟨key 0 (by omega), key 1 (by omega), key 2 (by omega), key 3 (by omega), key 4 (by omega), key 5 (by omega)⟩
theorem Pile.fro (h : Pile w base pb F l g c) (j : Nat) : w.frozen? ⟨g, j, none⟩ = false := by
  obtain ⟨cur, hg, _⟩ := h.cur
  exact fro_row hg j
theorem Pile.of (h : Pile w base pb F l g c) (h1 : w'.heap[pb]? = w.heap[pb]?) (h2 : w'.heap[g]? = w.heap[g]?) : Pile w' base pb F l g c := by
  obtain ⟨cur, hg, hc⟩ := h.cur
  exact ⟨h.pl, h.gl, h.ne, h1.trans h.blk, ⟨cur, h2.trans hg, hc⟩, h.lc, h.cm⟩
theorem Pile.alloc (h : Pile w base pb F l g c) (o : Obj) : Pile (w.alloc o) base pb F l g c :=
  h.of (Below.heap_alloc w o pb h.plt) (Below.heap_alloc w o g h.glt)
theorem Pile.drew (h : Pile w base pb F l g c) : Pile w.drew base pb F l g c := h.of rfl rfl
theorem Pile.drewN (h : Pile w base pb F l g c) (n : Nat) : Pile (w.drewN n) base pb F l g c := h.of rfl rfl
theorem Pile.other (h : Pile w base pb F l g c) {p : Addr} (u : Value) (h1 : pb ≠ p.block) (h2 : g ≠ p.block) : Pile (w.setCell p u) base pb F l g c :=
  h.of (Below.heap_setCell w p u pb h1) (Below.heap_setCell w p u g h2)
theorem Pile.below {B : Nat} (h : Pile w base pb F l g c) (hb : Below B w w') (h1 : pb < B) (h2 : g < B) : Pile w' base pb F l g c := h.of (hb.block pb h1) (hb.block g h2)
/-- an item is stored -/
theorem Pile.set (h : Pile w base pb F l g c) {i : Nat} (hi : i < l.length) (x : D6) :
    Pile ((((((w.setCell ⟨g, i * 6, none⟩ (.int .i64 x.l)).setCell ⟨g, i * 6 + 1, none⟩ (.int .i64 x.m)).setCell ⟨g, i * 6 + 2, none⟩ (.slice x.A x.b.length x.ac)).setCell ⟨g, i * 6 + 3, none⟩ (.int .i64 (x.k : Int))).setCell ⟨g, i * 6 + 4, none⟩ (.int .i64 (x.t : Int))).setCell ⟨g, i * 6 + 5, none⟩ (.slice x.F x.f.length x.fc)) base pb F (l.set i x) g c := by
  obtain ⟨cur, hg, hs, ht⟩ := h.cur
  refine ⟨h.pl, h.gl, h.ne, ?_, ⟨_, heap_set_same _ (heap_set_same _ (heap_set_same _ (heap_set_same _ (heap_set_same _ (heap_set_same _ hg))))), by simpa using hs, ?_⟩, by rw [List.length_set]; exact h.lc, h.cm⟩
  · rw [Below.heap_setCell _ _ _ _ h.ne, Below.heap_setCell _ _ _ _ h.ne, Below.heap_setCell _ _ _ _ h.ne, Below.heap_setCell _ _ _ _ h.ne, Below.heap_setCell _ _ _ _ h.ne, Below.heap_setCell _ _ _ _ h.ne, List.length_set]
    exact h.blk
  · rw [List.length_set, ← flat_set6 x l i hi, ← ht]
    simp only [Array.toList_setIfInBounds, List.take_set]
theorem Pile.set0 (h : Pile w base pb F l g c) (h0 : 0 < l.length) (x : D6) :
    Pile ((((((w.setCell ⟨g, 0, none⟩ (.int .i64 x.l)).setCell ⟨g, 1, none⟩ (.int .i64 x.m)).setCell ⟨g, 2, none⟩ (.slice x.A x.b.length x.ac)).setCell ⟨g, 3, none⟩ (.int .i64 (x.k : Int))).setCell ⟨g, 4, none⟩ (.int .i64 (x.t : Int))).setCell ⟨g, 5, none⟩ (.slice x.F x.f.length x.fc)) base pb F (l.set 0 x) g c := by
  have := h.set h0 x
  simp only [Nat.zero_mul, Nat.zero_add] at this
  exact this
theorem Pile.at0 (h : Pile w base pb F l g c) (h0 : 0 < l.length) :
    w.cell? ⟨g, 0, none⟩ = some (.int .i64 l[0].l) ∧ w.cell? ⟨g, 1, none⟩ = some (.int .i64 l[0].m) ∧ w.cell? ⟨g, 2, none⟩ = some (.slice l[0].A l[0].b.length l[0].ac) ∧ w.cell? ⟨g, 3, none⟩ = some (.int .i64 (l[0].k : Int)) ∧ w.cell? ⟨g, 4, none⟩ = some (.int .i64 (l[0].t : Int)) ∧ w.cell? ⟨g, 5, none⟩ = some (.slice l[0].F l[0].f.length l[0].fc) := by
  have := h.at_ h0
  simp only [Nat.zero_mul, Nat.zero_add] at this
  exact this
/-- the pile is cut short -/
theorem Pile.cut (h : Pile w base pb F l g c) (n : Nat) (hn : n ≤ l.length) : Pile (w.setCell ⟨pb, 0, none⟩ (.slice (some ⟨g, 0, none⟩) n c)) base pb F (l.take n) g c := by
  obtain ⟨cur, hg, hs, ht⟩ := h.cur
  have hl : (l.take n).length = n := by simp; omega
  refine ⟨h.pl, h.gl, h.ne, ?_, ⟨cur, ?_, hs, ?_⟩, by rw [hl]; have := h.lc; omega, h.cm⟩
  · rw [hl, heap_set_same _ h.blk]; rfl
  · rw [Below.heap_setCell _ _ _ _ (Ne.symm h.ne)]; exact hg
  · rw [hl, flat_take6, ← ht, List.take_take, Nat.min_eq_left (by omega)]
/-- the items as a slice of the call's own -/
theorem Pile.own (h : Pile w base pb F l g c) : Own w base 152 6 fV (.slice (some ⟨g, 0, none⟩) l.length c) l := by
  obtain ⟨cur, hg, hs, ht⟩ := h.cur
  exact ⟨by rw [flat_len fV_len], .inr ⟨g, c, cur, rfl, h.gl, hg, h.lc, h.cm, hs, by rw [ht]⟩⟩
/-- an item more, in the same block or in a new one -/
theorem Pile.grown {w2 : World} {g2 c2 : Nat} (h : Pile w base pb F l g c) (x : D6) (ho : w2.ownsRow base 152 6 (.slice (some ⟨g2, 0, none⟩) (l.length + 1) c2) (l.length + 1) (l.flatMap fV ++ fV x))
    (hb : w2.heap[pb]? = w.heap[pb]?) (hg : pb ≠ g2) : Pile (w2.setCell ⟨pb, 0, none⟩ (.slice (some ⟨g2, 0, none⟩) (l.length + 1) c2)) base pb F (l ++ [x]) g2 c2 := by
  have hl : (l ++ [x]).length = l.length + 1 := by simp
  rcases ho.2 with ⟨_, h0⟩ | ⟨g', cap, cur, hv, hb', hg', hnc, hm, hs, ht⟩
  · omega
  · injection hv with e1 _ e3
    injection e1 with e1
    injection e1 with e1 _ _
    subst e1; subst e3
    refine ⟨h.pl, hb', hg, ?_, ⟨cur, ?_, hs, ?_⟩, by rw [hl]; exact hnc, hm⟩
    · rw [hl, heap_set_same _ (hb.trans h.blk)]; rfl
    · rw [Below.heap_setCell _ _ _ _ (Ne.symm hg)]; exact hg'
    · rw [hl, ht, List.flatMap_append]; simp
end
end Go.Proofs.YtcpanfpijljeaaaGreat.DH

namespace Go.Proofs.YtcpanfpijljeaaaGreat.DH
set_option linter.unusedVariables false
set_option linter.unusedSimpArgs false
open Go.RowKit

def zs (l : List Nat) : List Int := l.map fun x : Nat => (x : Int)
theorem zs_len (l : List Nat) : (zs l).length = l.length := by simp [zs]
theorem zs_at {l : List Nat} {i : Nat} (h : i < l.length) : (zs l)[i]'(by rw [zs_len]; exact h) = ((l[i] : Nat) : Int) := by simp [zs]

set_option maxHeartbeats 2000000 in
theorem lcmp_any (A B : Option Addr) (a b : List Nat) (c d : Nat) (w : World) (hA : Sl w w.heap.size 1 CI A (zs a)) (hB : Sl w w.heap.size 1 CI B (zs b)) (ha : a.length ≤ 100000) (hb : b.length ≤ 100000) :
    Calls Tryz.prog 104 #[.slice A a.length c, .slice B b.length d] w fun e w' => e = .returned (.int .i64 (cmpL a b)) ∧ w = w' := by
  have HA := Lib.hid hA; have HB := Lib.hid hB
  obtain ⟨na, hna⟩ : ∃ n, a.length = n := ⟨_, rfl⟩
  obtain ⟨nb, hnb⟩ : ∃ n, b.length = n := ⟨_, rfl⟩
  have HNA := Lib.hid hna; have HNB := Lib.hid hnb
  rw [hna] at ha ⊢
  rw [hnb] at hb ⊢
  clear hA hB hna hnb
  go_enter Tryz.func104, Tryz.ntmps104
  go_wp2
  go_loopw [11] (fun i wr => ∃ k : Nat, k ≤ na ∧ k ≤ nb ∧ i = .int .i64 (k : Int) ∧ cmpL a b = cmpL (a.drop k) (b.drop k) ∧ w = wr) (fun i _ => na - (intOf i).toNat)
  case atStart => exact ⟨0, Nat.zero_le _, Nat.zero_le _, rfl, rfl, rfl⟩
  case round =>
    obtain ⟨k, hka, hkb, rfl, heq, rfl⟩ := hrel
    have HE := Lib.hid heq
    clear heq
    have hk0 : (0 : Int) ≤ (k : Int) := by omega
    by_cases h1 : k < na
    · have hak : k < a.length := by rw [HNA.out]; exact h1
      have hdA : a.drop k = a[k] :: a.drop (k + 1) := List.drop_eq_getElem_cons hak
      have h1' : (k : Int) < (na : Int) := by omega
      obtain ⟨b1, o1, e1, g1, q1⟩ := int_at HA.out (i := k) (by rw [zs_len]; exact hak)
      rw [zs_at hak] at q1
      subst e1
      by_cases h2 : k < nb
      · have hbk : k < b.length := by rw [HNB.out]; exact h2
        have hdB : b.drop k = b[k] :: b.drop (k + 1) := List.drop_eq_getElem_cons hbk
        have h2' : (k : Int) < (nb : Int) := by omega
        obtain ⟨b2, o2, e2, g2, q2⟩ := int_at HB.out (i := k) (by rw [zs_len]; exact hbk)
        rw [zs_at hbk] at q2
        subst e2
        have HC := Lib.hid (show cmpL a b = if cmpI (a[k] : Int) (b[k] : Int) = 0 then cmpL (a.drop (k + 1)) (b.drop (k + 1)) else cmpI (a[k] : Int) (b[k] : Int) by rw [HE.out, hdA, hdB, cmpL])
        obtain ⟨x, hx⟩ : ∃ x, ((a[k] : Nat) : Int) = x := ⟨_, rfl⟩
        obtain ⟨y, hy⟩ : ∃ y, ((b[k] : Nat) : Int) = y := ⟨_, rfl⟩
        rw [hx] at q1 HC; rw [hy] at q2 HC
        clear hdA hdB hx hy
        go_wp2_with fail
        refine (cmp_any x y _).mono ?_
        rintro e w2 ⟨rfl, rfl⟩
        by_cases hz : cmpI x y = 0
        · have HN := Lib.hid (show cmpL a b = cmpL (a.drop (k + 1)) (b.drop (k + 1)) by rw [HC.out, if_pos hz])
          rw [hz]
          go_wp2
          go_roundw
          case rel => exact ⟨k + 1, by omega, by omega, by go_num, HN.out, by first | rfl | trivial⟩
          case measure => simp [intOf]; omega
        · have HN := Lib.hid (show cmpL a b = cmpI x y by rw [HC.out, if_neg hz])
          have hz1 : (cmpI x y != 0) = true := by simp [hz]
          have hz2 : (cmpI x y == 0) = false := by simp [hz]
          clear HC hz
          go_wp2
          go_ret
          exact ⟨ret_int HN.out.symm, rfl⟩
      · have hdB : b.drop k = [] := List.drop_of_length_le (by rw [HNB.out]; omega)
        have HC := Lib.hid (show cmpL a b = 1 by rw [HE.out, hdA, hdB, cmpL])
        have h2' : ¬ (k : Int) < (nb : Int) := by omega
        have h3 : (nb : Int) ≤ (k : Int) := by omega
        have h4 : decide ((k : Int) ≥ (nb : Int)) = true := by simp; omega
        clear hdA hdB
        go_wp2
        go_ret
        exact ⟨ret_int HC.out.symm, rfl⟩
    · obtain rfl : k = na := by omega
      have hz : ¬ ((k : Nat) : Int) < ((k : Nat) : Int) := by omega
      have hdA : a.drop k = [] := List.drop_of_length_le (by rw [HNA.out]; omega)
      by_cases h2 : k < nb
      · have hbk : k < b.length := by rw [HNB.out]; exact h2
        have HC := Lib.hid (show cmpL a b = -1 by rw [HE.out, List.drop_eq_getElem_cons hbk, hdA, cmpL])
        clear hdA
        have h2' : (k : Int) < (nb : Int) := by omega
        go_wp2
        go_ret
        exact ⟨ret_int HC.out.symm, rfl⟩
      · have hdB : b.drop k = [] := List.drop_of_length_le (by rw [HNB.out]; omega)
        have HC := Lib.hid (show cmpL a b = 0 by rw [HE.out, hdA, hdB, cmpL])
        clear hdA hdB
        have h2' : ¬ (k : Int) < (nb : Int) := by omega
        go_wp2
        go_ret
        exact ⟨ret_int HC.out.symm, rfl⟩

/-- what a detour's second slice reads as -/
structure OkD (w : World) (B : Nat) (x : D6) : Prop where
  sf : Sl w B 1 CI x.F (zs x.f)
  fl : x.f.length ≤ 100000
theorem OkD.below {w w' : World} {B : Nat} {x : D6} (h : OkD w B x) (hb : Below B w w') : OkD w' B x := ⟨h.sf.below hb, h.fl⟩
theorem OkD.more {w : World} {B B' : Nat} {x : D6} (h : OkD w B x) (hb : B ≤ B') : OkD w B' x := ⟨h.sf.more (fun _ _ h => h) hb, h.fl⟩
theorem OkD.keep {w w' : World} {B : Nat} {x : D6} (h : OkD w B x) (hb : ∀ p : Addr, p.block < B → w'.cell? p = w.cell? p) : OkD w' B x := ⟨h.sf.keep (fun _ _ h => h) hb, h.fl⟩

theorem cmpV_eq (x y : D6) : cmpV x y = if cmp4 x.l x.m y.l y.m = 0 then cmpL x.f y.f else cmp4 x.l x.m y.l y.m := rfl
set_option maxHeartbeats 2000000 in
theorem dc_any (x y : D6) (w : World) (hx : OkD w w.heap.size x) (hy : OkD w w.heap.size y) :
    Calls Tryz.prog 85 #[.agg #[.int .i64 x.l, .int .i64 x.m, .slice x.A x.b.length x.ac, .int .i64 (x.k : Int), .int .i64 (x.t : Int), .slice x.F x.f.length x.fc], .agg #[.int .i64 y.l, .int .i64 y.m, .slice y.A y.b.length y.ac, .int .i64 (y.k : Int), .int .i64 (y.t : Int), .slice y.F y.f.length y.fc]] w (CcPost (cmpV x y) w) := by
  have hb0 : Below w.heap.size w ((w.alloc (.cells #[.int .i64 x.l, .int .i64 x.m, .slice x.A x.b.length x.ac, .int .i64 (x.k : Int), .int .i64 (x.t : Int), .slice x.F x.f.length x.fc] 152)).alloc (.cells #[.int .i64 y.l, .int .i64 y.m, .slice y.A y.b.length y.ac, .int .i64 (y.k : Int), .int .i64 (y.t : Int), .slice y.F y.f.length y.fc] 152)) := ((Below.refl _ w).alloc (Nat.le_refl _) _).alloc (by simp) _
  have HB0 := Lib.hid hb0
  have HX := Lib.hid (hx.sf.below hb0)
  have HY := Lib.hid (hy.sf.below hb0)
  have HFX := Lib.hid hx.fl; have HFY := Lib.hid hy.fl
  have HZ := Lib.hid (cmpV_eq x y)
  obtain ⟨fx, hfx⟩ : ∃ z, cmpL x.f y.f = z := ⟨_, rfl⟩
  have HC := Lib.hid (show ∀ w' : World, Sl w' w'.heap.size 1 CI x.F (zs x.f) → Sl w' w'.heap.size 1 CI y.F (zs y.f) → Calls Tryz.prog 104 #[.slice x.F x.f.length x.fc, .slice y.F y.f.length y.fc] w' fun e w2 => e = .returned (.int .i64 fx) ∧ w' = w2 from fun w' h1 h2 => by
    have := lcmp_any x.F y.F x.f y.f x.fc y.fc w' h1 h2 HFX.out HFY.out
    rwa [hfx] at this)
  rw [hfx] at HZ
  obtain ⟨cv, hcv⟩ : ∃ z, cmpV x y = z := ⟨_, rfl⟩
  rw [hcv] at HZ ⊢
  clear hx hy hb0 hfx hcv HFX HFY
  obtain ⟨l1, m1, A1, b1, c1, k1, t1, F1, f1, d1⟩ := x
  obtain ⟨l2, m2, A2, b2, c2, k2, t2, F2, f2, d2⟩ := y
  dsimp only at HX HY HC HZ HB0 ⊢
  obtain ⟨n1, hn1⟩ : ∃ n, b1.length = n := ⟨_, rfl⟩
  obtain ⟨n2, hn2⟩ : ∃ n, b2.length = n := ⟨_, rfl⟩
  obtain ⟨n3, hn3⟩ : ∃ n, f1.length = n := ⟨_, rfl⟩
  obtain ⟨n4, hn4⟩ : ∃ n, f2.length = n := ⟨_, rfl⟩
  rw [hn1, hn2] at HX HY HB0 ⊢
  rw [hn3, hn4] at HX HY HC HB0 ⊢
  clear hn1 hn2 hn3 hn4
  go_enter Tryz.func85, Tryz.ntmps85
  go_wp2_with fail
  refine (cc_any l1 m1 l2 m2 _).mono ?_
  rintro e w2 ⟨rfl, hb⟩
  have HB := Lib.hid (HB0.out.trans (hb.mono HB0.out.size))
  have HX2 := Lib.hid (((HX.out.more (fun _ _ h => h) HB0.out.size).below hb).more (fun _ _ h => h) hb.size)
  have HY2 := Lib.hid (((HY.out.more (fun _ _ h => h) HB0.out.size).below hb).more (fun _ _ h => h) hb.size)
  have y5 := (hb.cell (p := ⟨w.heap.size, 5, none⟩) (by simp; omega)).trans (cell_keep1 (cell_new1 w _ 152 5) (by simp))
  have z5 := cell_new1 (w.alloc (.cells #[.int .i64 l1, .int .i64 m1, .slice A1 n1 c1, .int .i64 (k1 : Int), .int .i64 (t1 : Int), .slice F1 n3 d1] 152)) #[.int .i64 l2, .int .i64 m2, .slice A2 n2 c2, .int .i64 (k2 : Int), .int .i64 (t2 : Int), .slice F2 n4 d2] 152 5
  rw [show (w.alloc (.cells #[.int .i64 l1, .int .i64 m1, .slice A1 n1 c1, .int .i64 (k1 : Int), .int .i64 (t1 : Int), .slice F1 n3 d1] 152)).heap.size = w.heap.size + 1 by simp] at z5
  replace z5 := (hb.cell (p := ⟨w.heap.size + 1, 5, none⟩) (by simp)).trans z5
  simp only [List.getElem?_toArray, List.getElem?_cons_zero, List.getElem?_cons_succ] at y5 z5
  obtain ⟨z, hz⟩ : ∃ z, cmp4 l1 m1 l2 m2 = z := ⟨_, rfl⟩
  rw [hz] at HZ ⊢
  by_cases h0 : z = 0
  · have HZ0 := Lib.hid (show cv = fx by rw [HZ.out, if_pos h0])
    subst h0
    clear HZ hz hb
    go_wp2_with fail
    refine (HC.out _ HX2.out HY2.out).mono ?_
    rintro e w3 ⟨rfl, rfl⟩
    go_wp2
    go_ret
    exact ⟨ret_int HZ0.out.symm, HB.out⟩
  · have HZ0 := Lib.hid (show cv = z by rw [HZ.out, if_neg h0])
    have hz1 : (z != 0) = true := by simp [h0]
    have hz2 : (z == 0) = false := by simp [h0]
    clear HZ hz hb h0
    go_wp2
    go_ret
    exact ⟨ret_int HZ0.out.symm, HB.out⟩

abbrev vless : Value := .func (.func 85) #[] #[]
set_option maxRecDepth 100000 in
set_option maxHeartbeats 4000000 in
theorem less_any {w : World} {base pb : Nat} {l : List D6} {g c : Nat} (h : Pile w base pb vless l g c) (hok : ∀ x ∈ l, OkD w w.heap.size x) {i j : Nat} (hi : i < l.length) (hj : j < l.length) :
    Calls Tryz.prog 161 #[.pointer (some ⟨pb, 0, none⟩), .int .i64 (i : Int), .int .i64 (j : Int)] w (LessPost (ltV l[i] l[j]) w) := by
  obtain ⟨p0, p1, _⟩ := h.head
  obtain ⟨q0, q1, q2, q3, q4, q5⟩ := h.at_ hi
  obtain ⟨r0, r1, r2, r3, r4, r5⟩ := h.at_ hj
  have hox := hok _ (List.getElem_mem hi); have hoy := hok _ (List.getElem_mem hj)
  have hpl := h.plt; have hgl := h.glt
  have hcm := h.cm; have hlc := h.lc
  unfold maxLen at hcm
  have i0 : (0 : Int) ≤ (i : Int) := by omega
  have i1 : (i : Int) < (l.length : Int) := by omega
  have j0 : (0 : Int) ≤ (j : Int) := by omega
  have j1 : (j : Int) < (l.length : Int) := by omega
  obtain ⟨x, hx⟩ : ∃ x, l[i] = x := ⟨_, rfl⟩
  obtain ⟨y, hy⟩ : ∃ y, l[j] = y := ⟨_, rfl⟩
  rw [hx] at q0 q1 q2 q3 q4 q5 hox ⊢
  rw [hy] at r0 r1 r2 r3 r4 r5 hoy ⊢
  have HZ := Lib.hid (show ltV x y = decide (cmpV x y < 0) from rfl)
  have HOX := Lib.hid hox; have HOY := Lib.hid hoy
  clear h hx hy hok hox hoy
  go_enter Tryz.func161, Tryz.ntmps161
  go_wp2_with fail
  have hb0 : Below w.heap.size w w.drew := (Below.refl _ w).drew
  have hox : OkD w.drew w.drew.heap.size x := HOX.out.below hb0
  have hoy : OkD w.drew w.drew.heap.size y := HOY.out.below hb0
  go_region_held3 (fun w' => w'.cell? ⟨pb, 0, none⟩ = some (.slice (some ⟨g, 0, none⟩) l.length c) ∧ w'.cell? ⟨pb, 1, none⟩ = some vless ∧
      w'.cell? ⟨g, i * 6, none⟩ = some (.int .i64 x.l) ∧ w'.cell? ⟨g, i * 6 + 1, none⟩ = some (.int .i64 x.m) ∧ w'.cell? ⟨g, i * 6 + 2, none⟩ = some (.slice x.A x.b.length x.ac) ∧ w'.cell? ⟨g, i * 6 + 3, none⟩ = some (.int .i64 (x.k : Int)) ∧ w'.cell? ⟨g, i * 6 + 4, none⟩ = some (.int .i64 (x.t : Int)) ∧ w'.cell? ⟨g, i * 6 + 5, none⟩ = some (.slice x.F x.f.length x.fc) ∧
      w'.cell? ⟨g, j * 6, none⟩ = some (.int .i64 y.l) ∧ w'.cell? ⟨g, j * 6 + 1, none⟩ = some (.int .i64 y.m) ∧ w'.cell? ⟨g, j * 6 + 2, none⟩ = some (.slice y.A y.b.length y.ac) ∧ w'.cell? ⟨g, j * 6 + 3, none⟩ = some (.int .i64 (y.k : Int)) ∧ w'.cell? ⟨g, j * 6 + 4, none⟩ = some (.int .i64 (y.t : Int)) ∧ w'.cell? ⟨g, j * 6 + 5, none⟩ = some (.slice y.F y.f.length y.fc))
    (first | go_keep | exact ⟨(hb.cell (p := ⟨pb, 0, none⟩) hpl).trans p0, (hb.cell (p := ⟨pb, 1, none⟩) hpl).trans p1, (hb.cell (p := ⟨g, i * 6, none⟩) hgl).trans q0, (hb.cell (p := ⟨g, i * 6 + 1, none⟩) hgl).trans q1, (hb.cell (p := ⟨g, i * 6 + 2, none⟩) hgl).trans q2, (hb.cell (p := ⟨g, i * 6 + 3, none⟩) hgl).trans q3, (hb.cell (p := ⟨g, i * 6 + 4, none⟩) hgl).trans q4, (hb.cell (p := ⟨g, i * 6 + 5, none⟩) hgl).trans q5, (hb.cell (p := ⟨g, j * 6, none⟩) hgl).trans r0, (hb.cell (p := ⟨g, j * 6 + 1, none⟩) hgl).trans r1, (hb.cell (p := ⟨g, j * 6 + 2, none⟩) hgl).trans r2, (hb.cell (p := ⟨g, j * 6 + 3, none⟩) hgl).trans r3, (hb.cell (p := ⟨g, j * 6 + 4, none⟩) hgl).trans r4, (hb.cell (p := ⟨g, j * 6 + 5, none⟩) hgl).trans r5⟩)
    ((go_at_call 85; refine (dc_any x y _ hox hoy).mono ?_; rintro e w2 ⟨rfl, hb⟩))
  all_goals
    have HB := Lib.hid hb; clear hb
    go_wp2
    go_ret
    exact ⟨by rw [HZ.out]; rfl, (Below.refl _ w).drew.trans HB.out⟩
theorem less_at {w : World} {base pb : Nat} {l : List D6} {g c : Nat} (h : Pile w base pb vless l g c) (hok : ∀ x ∈ l, OkD w w.heap.size x) {i j : Nat} (hi : i < l.length) (hj : j < l.length) (r : Bool) (hr : ltAt l i j = r) :
    Calls Tryz.prog 161 #[.pointer (some ⟨pb, 0, none⟩), .int .i64 (i : Int), .int .i64 (j : Int)] w (LessPost r w) := by
  rw [← hr, ltAt_at hi hj]
  exact less_any h hok hi hj
end Go.Proofs.YtcpanfpijljeaaaGreat.DH

namespace Go.Proofs.YtcpanfpijljeaaaGreat.DH
set_option linter.unusedVariables false
set_option linter.unusedSimpArgs false
open Go.RowKit

def SwapPost (w : World) (base pb : Nat) (F : Value) (l : List D6) (g c : Nat) (e : Ending) (w' : World) : Prop :=
  e = .returned (.tuple #[]) ∧ Pile w' base pb F l g c ∧ Fp pb g w w'
set_option maxRecDepth 100000 in
set_option maxHeartbeats 4000000 in
theorem swap_any {w : World} {base pb : Nat} {F : Value} {l : List D6} {g c : Nat} (h : Pile w base pb F l g c) {i j : Nat} (hi : i < l.length) (hj : j < l.length) (hij : i ≠ j) :
    Calls Tryz.prog 164 #[.pointer (some ⟨pb, 0, none⟩), .int .i64 (i : Int), .int .i64 (j : Int)] w (SwapPost w base pb F (swapL l i j) g c) := by
  obtain ⟨p0, p1, _⟩ := h.head
  obtain ⟨q0, q1, q2, q3, q4, q5⟩ := h.at_ hi
  obtain ⟨r0, r1, r2, r3, r4, r5⟩ := h.at_ hj
  have hcm := h.cm; have hlc := h.lc
  unfold maxLen at hcm
  have fi0 := h.fro (i * 6)
  have fi1 := h.fro (i * 6 + 1)
  have fi2 := h.fro (i * 6 + 2)
  have fi3 := h.fro (i * 6 + 3)
  have fi4 := h.fro (i * 6 + 4)
  have fi5 := h.fro (i * 6 + 5)
  have fj0 := h.fro (j * 6)
  have fj1 := h.fro (j * 6 + 1)
  have fj2 := h.fro (j * 6 + 2)
  have fj3 := h.fro (j * 6 + 3)
  have fj4 := h.fro (j * 6 + 4)
  have fj5 := h.fro (j * 6 + 5)
  have i0 : (0 : Int) ≤ (i : Int) := by omega
  have i1 : (i : Int) < (l.length : Int) := by omega
  have j0 : (0 : Int) ≤ (j : Int) := by omega
  have j1 : (j : Int) < (l.length : Int) := by omega
  have HS := Lib.hid (swapL_at hi hj)
  obtain ⟨x, hx⟩ : ∃ x, l[i] = x := ⟨_, rfl⟩
  obtain ⟨y, hy⟩ : ∃ y, l[j] = y := ⟨_, rfl⟩
  rw [hx] at q0 q1 q2 q3 q4 q5 HS
  rw [hy] at r0 r1 r2 r3 r4 r5 HS
  have H := Lib.hid h
  have hne := h.ne
  have HIJ := Lib.hid hij
  clear h hx hy hij
  have hne' : ¬ g = pb := fun e => hne e.symm
  have n0_0 : ¬ i * 6 = j * 6 := by have := HIJ.out; omega
  have n0_1 : ¬ i * 6 = j * 6 + 1 := by omega
  have n0_2 : ¬ i * 6 = j * 6 + 2 := by omega
  have n0_3 : ¬ i * 6 = j * 6 + 3 := by omega
  have n0_4 : ¬ i * 6 = j * 6 + 4 := by omega
  have n0_5 : ¬ i * 6 = j * 6 + 5 := by omega
  have n1_0 : ¬ i * 6 + 1 = j * 6 := by omega
  have n1_1 : ¬ i * 6 + 1 = j * 6 + 1 := by have := HIJ.out; omega
  have n1_2 : ¬ i * 6 + 1 = j * 6 + 2 := by omega
  have n1_3 : ¬ i * 6 + 1 = j * 6 + 3 := by omega
  have n1_4 : ¬ i * 6 + 1 = j * 6 + 4 := by omega
  have n1_5 : ¬ i * 6 + 1 = j * 6 + 5 := by omega
  have n2_0 : ¬ i * 6 + 2 = j * 6 := by omega
  have n2_1 : ¬ i * 6 + 2 = j * 6 + 1 := by omega
  have n2_2 : ¬ i * 6 + 2 = j * 6 + 2 := by have := HIJ.out; omega
  have n2_3 : ¬ i * 6 + 2 = j * 6 + 3 := by omega
  have n2_4 : ¬ i * 6 + 2 = j * 6 + 4 := by omega
  have n2_5 : ¬ i * 6 + 2 = j * 6 + 5 := by omega
  have n3_0 : ¬ i * 6 + 3 = j * 6 := by omega
  have n3_1 : ¬ i * 6 + 3 = j * 6 + 1 := by omega
  have n3_2 : ¬ i * 6 + 3 = j * 6 + 2 := by omega
  have n3_3 : ¬ i * 6 + 3 = j * 6 + 3 := by have := HIJ.out; omega
  have n3_4 : ¬ i * 6 + 3 = j * 6 + 4 := by omega
  have n3_5 : ¬ i * 6 + 3 = j * 6 + 5 := by omega
  have n4_0 : ¬ i * 6 + 4 = j * 6 := by omega
  have n4_1 : ¬ i * 6 + 4 = j * 6 + 1 := by omega
  have n4_2 : ¬ i * 6 + 4 = j * 6 + 2 := by omega
  have n4_3 : ¬ i * 6 + 4 = j * 6 + 3 := by omega
  have n4_4 : ¬ i * 6 + 4 = j * 6 + 4 := by have := HIJ.out; omega
  have n4_5 : ¬ i * 6 + 4 = j * 6 + 5 := by omega
  have n5_0 : ¬ i * 6 + 5 = j * 6 := by omega
  have n5_1 : ¬ i * 6 + 5 = j * 6 + 1 := by omega
  have n5_2 : ¬ i * 6 + 5 = j * 6 + 2 := by omega
  have n5_3 : ¬ i * 6 + 5 = j * 6 + 3 := by omega
  have n5_4 : ¬ i * 6 + 5 = j * 6 + 4 := by omega
  have n5_5 : ¬ i * 6 + 5 = j * 6 + 5 := by have := HIJ.out; omega
  go_enter Tryz.func164, Tryz.ntmps164
  go_wp2_with fail
  go_region
  all_goals
    go_wp2
    go_end0
    exact ⟨rfl, by rw [HS.out]; exact ((H.out.set hi y).set (by rw [List.length_set]; exact hj) x).drew, (((((((((((((Fp.refl pb g w).set (p := ⟨g, i * 6, none⟩) _ (.inr (.inl rfl))).set (p := ⟨g, i * 6 + 1, none⟩) _ (.inr (.inl rfl))).set (p := ⟨g, i * 6 + 2, none⟩) _ (.inr (.inl rfl))).set (p := ⟨g, i * 6 + 3, none⟩) _ (.inr (.inl rfl))).set (p := ⟨g, i * 6 + 4, none⟩) _ (.inr (.inl rfl))).set (p := ⟨g, i * 6 + 5, none⟩) _ (.inr (.inl rfl))).set (p := ⟨g, j * 6, none⟩) _ (.inr (.inl rfl))).set (p := ⟨g, j * 6 + 1, none⟩) _ (.inr (.inl rfl))).set (p := ⟨g, j * 6 + 2, none⟩) _ (.inr (.inl rfl))).set (p := ⟨g, j * 6 + 3, none⟩) _ (.inr (.inl rfl))).set (p := ⟨g, j * 6 + 4, none⟩) _ (.inr (.inl rfl))).set (p := ⟨g, j * 6 + 5, none⟩) _ (.inr (.inl rfl))).drew⟩
end Go.Proofs.YtcpanfpijljeaaaGreat.DH
/- Contract: the first item of a pile goes down to where it belongs. -/
namespace Go.Proofs.YtcpanfpijljeaaaGreat.DH
open Go.RowKit

/-- the found list of a detour lies neither at the pile nor at its items -/
structure OkN (w : World) (pb g : Nat) (x : D6) : Prop where
  sf : x.f ≠ [] → ∃ b o, x.F = some ⟨b, o, none⟩ ∧ b < w.heap.size ∧ b ≠ pb ∧ b ≠ g ∧ ∀ (i : Nat) (hi : i < x.f.length), w.cell? ⟨b, o + i, none⟩ = some (.int .i64 (x.f[i] : Int))
  fl : x.f.length ≤ 100000
theorem OkN.ok {w : World} {pb g : Nat} {x : D6} (h : OkN w pb g x) : OkD w w.heap.size x := by
  refine ⟨fun hne => ?_, h.fl⟩
  obtain ⟨b, o, e, hb, _, _, hc⟩ := h.sf (by intro e; apply hne; simp [zs, e])
  refine ⟨b, o, e, hb, fun i z hz => ?_⟩
  obtain ⟨hi, rfl⟩ := List.getElem?_eq_some_iff.1 hz
  rw [zs_len] at hi
  refine ⟨_, rfl, fun j u hu => ?_⟩
  cases j with
  | zero =>
    obtain rfl := Option.some.inj hu
    have := hc i hi
    rw [zs_at hi]
    simp only [Nat.mul_one, Nat.add_zero]
    exact this
  | succ j => simp at hu
theorem OkN.fp2 {w w' : World} {pb g g' : Nat} {x : D6} (h : OkN w pb g x) (hf : Fp pb g w w') (hg : g' = g ∨ w.heap.size ≤ g') : OkN w' pb g' x := by
  refine ⟨fun hne => ?_, h.fl⟩
  obtain ⟨b, o, e, hb, h1, h2, hc⟩ := h.sf hne
  refine ⟨b, o, e, Nat.lt_of_lt_of_le hb hf.size, h1, by rcases hg with rfl | hg <;> omega, fun i hi => ?_⟩
  rw [← hc i hi]
  unfold World.cell?
  rw [hf.block b hb h1 h2]
theorem OkN.fp {w w' : World} {pb g : Nat} {x : D6} (h : OkN w pb g x) (hf : Fp pb g w w') : OkN w' pb g x := h.fp2 hf (.inl rfl)
theorem OkN.below {w w' : World} {pb g : Nat} {x : D6} (h : OkN w pb g x) (hb : Below w.heap.size w w') : OkN w' pb g x := h.fp ((Fp.refl pb g w).below hb (Nat.le_refl _))
theorem mem_swapL {l : List D6} {i j : Nat} {y : D6} (h : y ∈ swapL l i j) : y ∈ l := by
  unfold swapL at h
  split at h
  · rename_i x z hx hz
    rcases List.mem_or_eq_of_mem_set h with h | h
    · rcases List.mem_or_eq_of_mem_set h with h | h
      · exact h
      · rw [h]; exact List.mem_of_getElem? hz
    · rw [h]; exact List.mem_of_getElem? hx
  · exact h
theorem less_z {w : World} {base pb : Nat} {l : List D6} {g c : Nat} (h : Pile w base pb vless l g c) (hok : ∀ x ∈ l, OkN w pb g x) {i j : Nat} (hi : i < l.length) (hj : j < l.length) (r : Bool) (hr : ltAt l i j = r) (a b : Int) (ha : a = (i : Int)) (hb : b = (j : Int)) :
    Calls Tryz.prog 161 #[.pointer (some ⟨pb, 0, none⟩), .int .i64 a, .int .i64 b] w (LessPost r w) := by
  subst ha; subst hb
  exact less_at h (fun x hx => (hok x hx).ok) hi hj r hr
theorem swap_z {w : World} {base pb : Nat} {F : Value} {l : List D6} {g c : Nat} (h : Pile w base pb F l g c) {i j : Nat} (hi : i < l.length) (hj : j < l.length) (hij : i ≠ j) (a b : Int) (ha : a = (i : Int)) (hb : b = (j : Int)) :
    Calls Tryz.prog 164 #[.pointer (some ⟨pb, 0, none⟩), .int .i64 a, .int .i64 b] w (SwapPost w base pb F (swapL l i j) g c) := by
  subst ha; subst hb
  exact swap_any h hi hj hij
def SinkPost (w : World) (base pb : Nat) (F : Value) (l : List D6) (g c : Nat) (e : Ending) (w' : World) : Prop :=
  e = .returned (.tuple #[]) ∧ Pile w' base pb F l g c ∧ Fp pb g w w'
def DownRel (w : World) (base pb : Nat) (L : Nat) (l : List D6) (g c n : Nat) (wr : World) : Prop :=
  ∃ cur, cur.length = L ∧ n ≤ L ∧ downL cur n = l ∧ Pile wr base pb vless cur g c ∧ Fp pb g w wr ∧ ∀ x ∈ cur, OkN wr pb g x
set_option maxRecDepth 100000 in
set_option maxHeartbeats 4000000 in
theorem sink_any {w : World} {base pb : Nat} {l0 : List D6} {g c : Nat} (h : Pile w base pb vless l0 g c) (hok : ∀ x ∈ l0, OkN w pb g x) (hl : l0.length ≤ 2000000) :
    Calls Tryz.prog 163 #[.pointer (some ⟨pb, 0, none⟩)] w (SinkPost w base pb vless (downL l0 0) g c) := by
  have H := Lib.hid h; have HO := Lib.hid hok
  clear h hok
  go_enter Tryz.func163, Tryz.ntmps163
  go_wp2
  go_loopw [2] (fun i wr => ∃ n : Nat, i = .int .i64 (n : Int) ∧ DownRel w base pb l0.length (downL l0 0) g c n wr) (fun i _ => l0.length - (intOf i).toNat)
  case atStart => exact ⟨0, rfl, l0, rfl, by omega, rfl, H.out, Fp.refl _ _ _, HO.out⟩
  case round =>
    obtain ⟨n, rfl, cur, hcl, hnL, hup, hp, hb, hok⟩ := hrel
    obtain ⟨k0, _, _⟩ := hp.head
    have HUP := Lib.hid hup
    have HPR := Lib.hid hp
    have HBR := Lib.hid hb
    have HOK := Lib.hid hok
    clear hup hp hb hok
    have hn0 : (0 : Int) ≤ (n : Int) := by omega
    have hn1 : (n : Int) ≤ 2000000 := by omega
    by_cases h1 : 2 * n + 1 < cur.length
    · obtain ⟨d, hd⟩ : ∃ d, 2 * n + 1 = d := ⟨_, rfl⟩
      have e1 : 2 * (n : Int) + 1 = (d : Int) := by omega
      have hd0 : (0 : Int) ≤ (d : Int) := by omega
      have hd1 : (d : Int) ≤ 4000001 := by omega
      have hdl : d < cur.length := by omega
      have hdc : (d : Int) < (cur.length : Int) := by omega
      have hnl : n < cur.length := by omega
      have HD := Lib.hid hd
      clear hd
      by_cases h2 : 2 * n + 2 < cur.length
      · have h2' : (d : Int) + 1 < (cur.length : Int) := by have := HD.out; omega
        have hd2 : d + 1 < cur.length := by omega
        cases hr : ltAt cur (d + 1) d
        · have HC := Lib.hid (show childL cur n = d by unfold childL; rw [show 2 * n + 2 = d + 1 by have := HD.out; omega, HD.out, hr]; simp)
          have HR := Lib.hid hr; clear hr
          have hch := hdl
          have hnd : n < d := by have := HD.out; omega
          go_wp2_with fail
          refine (less_z HPR.out HOK.out hd2 hdl false HR.out _ _ (by omega) rfl).mono ?_
          rintro e w4 ⟨rfl, hb4⟩
          have HPX := Lib.hid (HPR.out.below hb4 HPR.out.plt HPR.out.glt)
          have HBX := Lib.hid (HBR.out.below hb4 HBR.out.size)
          have HOX := Lib.hid (fun x hx => (HOK.out x hx).below hb4)
          clear hb4
          cases hr2 : ltAt cur (d) n
          · have HR2 := Lib.hid hr2; clear hr2
            have HQ := Lib.hid (show cur = downL l0 0 by have := HUP.out; rwa [downL_end (.inr (by rw [HC.out]; exact HR2.out))] at this)
            go_wp2_with (go_at_call 161; refine (less_z HPX.out HOX.out hch hnl false HR2.out _ _ (by omega) rfl).mono ?_; rintro e w5 ⟨rfl, hb5⟩)
            go_end0
            exact ⟨rfl, by rw [← HQ.out]; exact HPX.out.below hb5 HPX.out.plt HPX.out.glt, HBX.out.below hb5 HBX.out.size⟩
          · have HR2 := Lib.hid hr2; clear hr2
            have HQ := Lib.hid (show downL (swapL cur n (d)) (d) = downL l0 0 by have := HUP.out; rwa [downL_go (by omega) (by rw [HC.out]; exact HR2.out), HC.out] at this)
            go_wp2_with fail
            refine (less_z HPX.out HOX.out hch hnl true HR2.out _ _ (by omega) rfl).mono ?_
            rintro e w5 ⟨rfl, hb5⟩
            have HP5 := Lib.hid (HPX.out.below hb5 HPX.out.plt HPX.out.glt)
            have HB5 := Lib.hid (HBX.out.below hb5 HBX.out.size)
            have HO5 := Lib.hid (fun x hx => (HOX.out x hx).below hb5)
            clear hb5
            go_wp2_with fail
            refine (swap_z HP5.out hnl hch (by omega) _ _ rfl (by omega)).mono ?_
            rintro e w6 ⟨rfl, hp6, hb6⟩
            have HP6 := Lib.hid hp6
            have HB6 := Lib.hid (HB5.out.trans hb6 (.inl rfl))
            have HO6 := Lib.hid (fun x hx => (HO5.out x hx).fp hb6)
            clear hp6 hb6
            go_wp2
            go_roundw
            case rel => exact ⟨d, by first | rfl | (congr 1; omega), swapL cur n (d), by rw [swapL_len]; exact hcl, by omega, HQ.out, HP6.out, HB6.out, fun x hx => HO6.out x (mem_swapL hx)⟩
            case measure => simp [intOf]; omega
        · have HC := Lib.hid (show childL cur n = d + 1 by unfold childL; rw [show 2 * n + 2 = d + 1 by have := HD.out; omega, HD.out, hr]; simp [hd2])
          have HR := Lib.hid hr; clear hr
          have hch := hd2
          have hnd : n < d := by have := HD.out; omega
          go_wp2_with fail
          refine (less_z HPR.out HOK.out hd2 hdl true HR.out _ _ (by omega) rfl).mono ?_
          rintro e w4 ⟨rfl, hb4⟩
          have HPX := Lib.hid (HPR.out.below hb4 HPR.out.plt HPR.out.glt)
          have HBX := Lib.hid (HBR.out.below hb4 HBR.out.size)
          have HOX := Lib.hid (fun x hx => (HOK.out x hx).below hb4)
          clear hb4
          cases hr2 : ltAt cur (d + 1) n
          · have HR2 := Lib.hid hr2; clear hr2
            have HQ := Lib.hid (show cur = downL l0 0 by have := HUP.out; rwa [downL_end (.inr (by rw [HC.out]; exact HR2.out))] at this)
            go_wp2_with (go_at_call 161; refine (less_z HPX.out HOX.out hch hnl false HR2.out _ _ (by omega) rfl).mono ?_; rintro e w5 ⟨rfl, hb5⟩)
            go_end0
            exact ⟨rfl, by rw [← HQ.out]; exact HPX.out.below hb5 HPX.out.plt HPX.out.glt, HBX.out.below hb5 HBX.out.size⟩
          · have HR2 := Lib.hid hr2; clear hr2
            have HQ := Lib.hid (show downL (swapL cur n (d + 1)) (d + 1) = downL l0 0 by have := HUP.out; rwa [downL_go (by omega) (by rw [HC.out]; exact HR2.out), HC.out] at this)
            go_wp2_with fail
            refine (less_z HPX.out HOX.out hch hnl true HR2.out _ _ (by omega) rfl).mono ?_
            rintro e w5 ⟨rfl, hb5⟩
            have HP5 := Lib.hid (HPX.out.below hb5 HPX.out.plt HPX.out.glt)
            have HB5 := Lib.hid (HBX.out.below hb5 HBX.out.size)
            have HO5 := Lib.hid (fun x hx => (HOX.out x hx).below hb5)
            clear hb5
            go_wp2_with fail
            refine (swap_z HP5.out hnl hch (by omega) _ _ rfl (by omega)).mono ?_
            rintro e w6 ⟨rfl, hp6, hb6⟩
            have HP6 := Lib.hid hp6
            have HB6 := Lib.hid (HB5.out.trans hb6 (.inl rfl))
            have HO6 := Lib.hid (fun x hx => (HO5.out x hx).fp hb6)
            clear hp6 hb6
            go_wp2
            go_roundw
            case rel => exact ⟨d + 1, by first | rfl | (congr 1; omega), swapL cur n (d + 1), by rw [swapL_len]; exact hcl, by omega, HQ.out, HP6.out, HB6.out, fun x hx => HO6.out x (mem_swapL hx)⟩
            case measure => simp [intOf]; omega
      · have h2' : ¬ (d : Int) + 1 < (cur.length : Int) := by have := HD.out; omega
        have HC := Lib.hid (show childL cur n = d by unfold childL; rw [if_neg (by omega)]; exact HD.out)
        have hch := hdl
        have hnd : n < d := by have := HD.out; omega
        have HPX := HPR
        have HBX := HBR
        have HOX := HOK
        cases hr2 : ltAt cur (d) n
        · have HR2 := Lib.hid hr2; clear hr2
          have HQ := Lib.hid (show cur = downL l0 0 by have := HUP.out; rwa [downL_end (.inr (by rw [HC.out]; exact HR2.out))] at this)
          go_wp2_with (go_at_call 161; refine (less_z HPX.out HOX.out hch hnl false HR2.out _ _ (by omega) rfl).mono ?_; rintro e w5 ⟨rfl, hb5⟩)
          go_end0
          exact ⟨rfl, by rw [← HQ.out]; exact HPX.out.below hb5 HPX.out.plt HPX.out.glt, HBX.out.below hb5 HBX.out.size⟩
        · have HR2 := Lib.hid hr2; clear hr2
          have HQ := Lib.hid (show downL (swapL cur n (d)) (d) = downL l0 0 by have := HUP.out; rwa [downL_go (by omega) (by rw [HC.out]; exact HR2.out), HC.out] at this)
          go_wp2_with fail
          refine (less_z HPX.out HOX.out hch hnl true HR2.out _ _ (by omega) rfl).mono ?_
          rintro e w5 ⟨rfl, hb5⟩
          have HP5 := Lib.hid (HPX.out.below hb5 HPX.out.plt HPX.out.glt)
          have HB5 := Lib.hid (HBX.out.below hb5 HBX.out.size)
          have HO5 := Lib.hid (fun x hx => (HOX.out x hx).below hb5)
          clear hb5
          go_wp2_with fail
          refine (swap_z HP5.out hnl hch (by omega) _ _ rfl (by omega)).mono ?_
          rintro e w6 ⟨rfl, hp6, hb6⟩
          have HP6 := Lib.hid hp6
          have HB6 := Lib.hid (HB5.out.trans hb6 (.inl rfl))
          have HO6 := Lib.hid (fun x hx => (HO5.out x hx).fp hb6)
          clear hp6 hb6
          go_wp2
          go_roundw
          case rel => exact ⟨d, by first | rfl | (congr 1; omega), swapL cur n (d), by rw [swapL_len]; exact hcl, by omega, HQ.out, HP6.out, HB6.out, fun x hx => HO6.out x (mem_swapL hx)⟩
          case measure => simp [intOf]; omega
    · have h1' : ¬ 2 * (n : Int) + 1 < (cur.length : Int) := by omega
      have HQ := Lib.hid (show cur = downL l0 0 by have := HUP.out; rwa [downL_end (.inl (by omega))] at this)
      go_wp2
      go_end0
      exact ⟨rfl, by rw [← HQ.out]; exact HPR.out, HBR.out⟩
end Go.Proofs.YtcpanfpijljeaaaGreat.DH

namespace Go.Proofs.YtcpanfpijljeaaaGreat.DH
set_option linter.unusedVariables false
set_option linter.unusedSimpArgs false
open Go.RowKit

theorem infD : (Tryz.prog.info? 152).map (fun i => (i.zero, i.size, i.bytes)) = some (some (.agg #[.int .i64 0, .int .i64 0, .slice none 0 0, .int .i64 0, .int .i64 0, .slice none 0 0]), 6, 80) := by kernel_rfl
def PutPost (w : World) (base pb : Nat) (F : Value) (l : List D6) (g0 : Nat) (e : Ending) (w' : World) : Prop :=
  e = .returned (.tuple #[]) ∧ (∃ g c, Pile w' base pb F l g c ∧ (g = g0 ∨ w.heap.size ≤ g)) ∧ Fp pb g0 w w'
def UpRel (w : World) (base pb : Nat) (l : List D6) (g0 n : Nat) (wr : World) : Prop :=
  ∃ cur g c, n < cur.length ∧ cur.length ≤ 2000000 ∧ upL cur n = l ∧ Pile wr base pb vless cur g c ∧ (g = g0 ∨ w.heap.size ≤ g) ∧ Fp pb g0 w wr ∧ ∀ y ∈ cur, OkN wr pb g y
set_option maxRecDepth 100000 in
set_option maxHeartbeats 4000000 in
theorem put_any {w : World} {base pb : Nat} {l : List D6} {g c : Nat} (h : Pile w base pb vless l g c) (hok : ∀ y ∈ l, OkN w pb g y) (hbase : base ≤ w.heap.size) (hl : l.length ≤ 1500000) (x : D6) (hox : OkN w pb g x) :
    Calls Tryz.prog 162 #[.pointer (some ⟨pb, 0, none⟩), .agg #[.int .i64 x.l, .int .i64 x.m, .slice x.A x.b.length x.ac, .int .i64 (x.k : Int), .int .i64 (x.t : Int), .slice x.F x.f.length x.fc]] w (PutPost w base pb vless (putL l x) g) := by
  obtain ⟨p0, p1, pf⟩ := h.head
  obtain ⟨i0, hi, hz0, hz1, hz2⟩ := info_parts infD
  have hpl := h.plt; have hgl := h.glt
  have hp1 : pb < w.heap.size + 1 := by omega
  have hp2 : pb < w.heap.size + 1 + 1 := by omega
  have hcm := h.cm; have hlc := h.lc
  have hne := h.ne
  have hbb := h.pl
  unfold maxLen at hcm
  have hnew := heap_alloc_new (w.alloc (.cells #[.int .i64 x.l, .int .i64 x.m, .slice x.A x.b.length x.ac, .int .i64 (x.k : Int), .int .i64 (x.t : Int), .slice x.F x.f.length x.fc] 152)) (.cells #[.int .i64 x.l, .int .i64 x.m, .slice x.A x.b.length x.ac, .int .i64 (x.k : Int), .int .i64 (x.t : Int), .slice x.F x.f.length x.fc] 152)
  rw [show (w.alloc (.cells #[.int .i64 x.l, .int .i64 x.m, .slice x.A x.b.length x.ac, .int .i64 (x.k : Int), .int .i64 (x.t : Int), .slice x.F x.f.length x.fc] 152)).heap.size = w.heap.size + 1 by simp] at hnew
  have HN := Lib.hid hnew
  have H := Lib.hid ((h.alloc (.cells #[.int .i64 x.l, .int .i64 x.m, .slice x.A x.b.length x.ac, .int .i64 (x.k : Int), .int .i64 (x.t : Int), .slice x.F x.f.length x.fc] 152)).alloc (.cells #[.int .i64 x.l, .int .i64 x.m, .slice x.A x.b.length x.ac, .int .i64 (x.k : Int), .int .i64 (x.t : Int), .slice x.F x.f.length x.fc] 152))
  have HB := Lib.hid (((Fp.refl pb g w).alloc (.cells #[.int .i64 x.l, .int .i64 x.m, .slice x.A x.b.length x.ac, .int .i64 (x.k : Int), .int .i64 (x.t : Int), .slice x.F x.f.length x.fc] 152)).alloc (.cells #[.int .i64 x.l, .int .i64 x.m, .slice x.A x.b.length x.ac, .int .i64 (x.k : Int), .int .i64 (x.t : Int), .slice x.F x.f.length x.fc] 152))
  have HOK := Lib.hid (show ∀ y ∈ l ++ [x], OkN w pb g y from fun y hy => by
    rcases List.mem_append.1 hy with hy | hy
    · exact hok y hy
    · obtain rfl : y = x := by simpa using hy
      exact hox)
  clear h hnew hok hox
  go_enter Tryz.func162, Tryz.ntmps162
  go_wp2_with fail
  have hgb := H.out.gl
  go_region_law (
    refine step_append_lies _ rfl (.tmp 9) (.tmp 11) _ rfl base 152 i0 _ 6 80 Tryz.underlying153 hi hz0 hz1 hz2 rfl (by omega) _ l.length (l.flatMap fV) rfl H.out.own ⟨w.heap.size + 1, 0, none⟩ 1 1 (fV x) rfl rfl (World.news_of_block HN.out) (fV_one x) (by omega) (by unfold maxLen; omega) (by omega) (by simp; omega) _ rfl ?_
    intro g2 c2 w2 ho hgr hat hlt
    have hc0 : w2.cell? ⟨pb, 0, none⟩ = some (.slice (some ⟨g, 0, none⟩) l.length c) := (hgr.cell_far ⟨pb, 0, none⟩ (by simp; omega) (by intro e; exact hne (Option.some.inj e))).trans H.out.head.1
    have hf0 : w2.frozen? ⟨pb, 0, none⟩ = false := (hgr.frozen_far ⟨pb, 0, none⟩ (by simp; omega) (by intro e; exact hne (Option.some.inj e))).trans H.out.head.2.2
    have hgp : pb ≠ g2 := by
      rcases hat with e | e
      · exact fun q => hne (q.trans (Option.some.inj (show some g = some g2 from e)).symm)
      · simp at e; omega
    have HP := Lib.hid (H.out.grown x ho (hgr.block pb (by simp; omega) (by intro e; exact hne (Option.some.inj e))) hgp)
    have HB2 := Lib.hid (((HB.out.drew).grown hgr (by intro k e; exact .inl (Option.some.inj (show some g = some k from e)).symm)).set (p := ⟨pb, 0, none⟩) (.slice (some ⟨g2, 0, none⟩) (l.length + 1) c2) (.inl rfl))
    have HG2 := Lib.hid (show g2 = g ∨ w.heap.size ≤ g2 by
      rcases hat with e | e
      · exact .inl (Option.some.inj (show some g = some g2 from e)).symm
      · right; simp at e; omega)
    clear ho hgr hat hlt)
  all_goals
    obtain ⟨w3, hw3⟩ : ∃ w3, w2.setCell ⟨pb, 0, none⟩ (.slice (some ⟨g2, 0, none⟩) (l.length + 1) c2) = w3 := ⟨_, rfl⟩
    rw [hw3] at HP HB2 ⊢
    obtain ⟨k0, _, _⟩ := HP.out.head
    rw [show (l ++ [x]).length = l.length + 1 by simp] at k0
    clear hw3 hc0 hf0 p0 p1 pf
    have hw1 : IntKind.i64.wrap ((l.length : Int) + 1 - 1) = (l.length : Int) := by rw [IntKind.wrap_i64]; omega
    have hw2 : IntKind.i64.wrap (l.length : Int) = (l.length : Int) := by rw [IntKind.wrap_i64]; omega
    go_wp2
    clear hw1 hw2
    go_loopw [4] (fun i wr => ∃ n : Nat, i = .int .i64 (n : Int) ∧ UpRel w base pb (putL l x) g n wr) (fun i _ => (intOf i).toNat)
    case atStart => exact ⟨l.length, rfl, l ++ [x], g2, c2, by simp, by simp; omega, rfl, HP.out, HG2.out, HB2.out, fun y hy => (HOK.out y hy).fp2 HB2.out HG2.out⟩
    case round =>
      obtain ⟨n, rfl, cur, g3, c3, hn, hcl, hup, hp, hg3, hb, hoc⟩ := hrel
      have HUP := Lib.hid hup
      have HPR := Lib.hid hp
      have HBR := Lib.hid hb
      have HOC := Lib.hid hoc
      clear hup hp hb hoc
      rcases Nat.eq_zero_or_pos n with rfl | hpos
      · have HQ := Lib.hid (show cur = putL l x by have := HUP.out; rwa [upL_end (.inl rfl)] at this)
        go_wp2
        go_end0
        exact ⟨rfl, ⟨g3, c3, by rw [← HQ.out]; exact HPR.out, hg3⟩, HBR.out⟩
      · obtain ⟨q, hq⟩ : ∃ q, (n - 1) / 2 = q := ⟨_, rfl⟩
        have hqn : q < n := by omega
        have hql : q < cur.length := by omega
        have e2 : ((n : Int) - 1) / 2 = (q : Int) := by omega
        have e3 : (0 : Int) ≤ (n : Int) - 1 := by omega
        have e4 : (1 : Int) ≤ (n : Int) := by omega
        have e5 : (0 : Int) < (n : Int) := by omega
        have e6 : (n : Int) ≤ 2000000 := by omega
        have HQ := Lib.hid hq
        clear hq
        cases hr : ltAt cur n q
        · have HR := Lib.hid hr; clear hr
          have HQ2 := Lib.hid (show cur = putL l x by have := HUP.out; rwa [upL_end (.inr (by rw [HQ.out]; exact HR.out))] at this)
          go_wp2_with (go_at_call 161; refine (less_at HPR.out (fun y hy => (HOC.out y hy).ok) hn hql false HR.out).mono ?_; rintro e w4 ⟨rfl, hb4⟩)
          go_end0
          exact ⟨rfl, ⟨g3, c3, by rw [← HQ2.out]; exact HPR.out.below hb4 HPR.out.plt HPR.out.glt, hg3⟩, HBR.out.below hb4 HBR.out.size⟩
        · have HR := Lib.hid hr; clear hr
          have HQ2 := Lib.hid (show upL (swapL cur n q) q = putL l x by have := HUP.out; rwa [upL_go hpos (by rw [HQ.out]; exact HR.out), HQ.out] at this)
          go_wp2_with fail
          refine (less_at HPR.out (fun y hy => (HOC.out y hy).ok) hn hql true HR.out).mono ?_
          rintro e w4 ⟨rfl, hb4⟩
          have HP4 := Lib.hid (HPR.out.below hb4 HPR.out.plt HPR.out.glt)
          have HB4 := Lib.hid (HBR.out.below hb4 HBR.out.size)
          have HO4 := Lib.hid (fun y hy => (HOC.out y hy).below hb4)
          clear hb4
          go_wp2_with fail
          refine (swap_any HP4.out hn hql (by omega)).mono ?_
          rintro e w5 ⟨rfl, hp5, hb5⟩
          have HP5 := Lib.hid hp5
          have HB5 := Lib.hid (HB4.out.trans hb5 hg3)
          have HO5 := Lib.hid (fun y hy => (HO4.out y hy).fp hb5)
          clear hp5 hb5
          go_wp2
          go_roundw
          case rel => exact ⟨q, by rw [e2], swapL cur n q, g3, c3, by rw [swapL_len]; exact hql, by rw [swapL_len]; exact hcl, HQ2.out, HP5.out, hg3, HB5.out, fun y hy => HO5.out y (mem_swapL hy)⟩
          case measure => simp [intOf]; omega
end Go.Proofs.YtcpanfpijljeaaaGreat.DH

namespace Go.Proofs.YtcpanfpijljeaaaGreat.DH
set_option linter.unusedVariables false
set_option linter.unusedSimpArgs false
open Go.RowKit

theorem take_set_last {l : List D6} {n : Nat} (x : D6) : (l.set n x).take n = l.take n := by
  rw [List.take_set, List.set_eq_of_length_le (by simp; omega)]
abbrev zV : D6 := ⟨0, 0, none, [], 0, 0, 0, none, [], 0⟩
def TakePost (w : World) (base pb : Nat) (F : Value) (x : D6) (r : List D6) (g c : Nat) (e : Ending) (w' : World) : Prop :=
  e = .returned (.tuple #[.agg #[.int .i64 x.l, .int .i64 x.m, .slice x.A x.b.length x.ac, .int .i64 (x.k : Int), .int .i64 (x.t : Int), .slice x.F x.f.length x.fc], .bool true]) ∧ Pile w' base pb F (restL x r) g c ∧ Fp pb g w w'
def TakeNil (w : World) (e : Ending) (w' : World) : Prop := e = .returned (.tuple #[.agg #[.int .i64 0, .int .i64 0, .slice none 0 0, .int .i64 0, .int .i64 0, .slice none 0 0], .bool false]) ∧ Below w.heap.size w w'
set_option maxHeartbeats 1000000 in
theorem take_nil {w : World} {base pb : Nat} {F : Value} {g c : Nat} (h : Pile w base pb F [] g c) : Calls Tryz.prog 165 #[.pointer (some ⟨pb, 0, none⟩)] w (TakeNil w) := by
  obtain ⟨p0, _, _⟩ := h.head
  have hpl := h.plt
  have hp1 : pb < w.heap.size + 1 := by omega
  rw [List.length_nil] at p0
  clear h
  go_enter Tryz.func165, Tryz.ntmps165
  go_wp2
  exact bodyPost_ret (v := .tuple #[.agg #[.int .i64 0, .int .i64 0, .slice none 0 0, .int .i64 0, .int .i64 0, .slice none 0 0], .bool false]) (by simp [results, Tryz.results165, go_sem]) rfl ⟨rfl, ((Below.refl _ _).alloc (Nat.le_refl _) _).alloc (by simp) _⟩

theorem cells6 {w : World} {K : Nat} {x0 x1 x2 x3 x4 x5 : Value} {t : TypeId} (h : w.heap[K]? = some (.cells #[x0, x1, x2, x3, x4, x5] t)) :
    w.cell? ⟨K, 0, none⟩ = some x0 ∧ w.cell? ⟨K, 1, none⟩ = some x1 ∧ w.cell? ⟨K, 2, none⟩ = some x2 ∧ w.cell? ⟨K, 3, none⟩ = some x3 ∧ w.cell? ⟨K, 4, none⟩ = some x4 ∧ w.cell? ⟨K, 5, none⟩ = some x5 ∧
    w.frozen? ⟨K, 0, none⟩ = false ∧ w.frozen? ⟨K, 1, none⟩ = false ∧ w.frozen? ⟨K, 2, none⟩ = false ∧ w.frozen? ⟨K, 3, none⟩ = false ∧ w.frozen? ⟨K, 4, none⟩ = false ∧ w.frozen? ⟨K, 5, none⟩ = false :=
  ⟨cell_of_row _ _ 0 _ _ _ h, cell_of_row _ _ 1 _ _ _ h, cell_of_row _ _ 2 _ _ _ h, cell_of_row _ _ 3 _ _ _ h, cell_of_row _ _ 4 _ _ _ h, cell_of_row _ _ 5 _ _ _ h, fro_row h 0, fro_row h 1, fro_row h 2, fro_row h 3, fro_row h 4, fro_row h 5⟩
set_option maxRecDepth 100000 in
set_option maxHeartbeats 4000000 in
theorem take_one {w : World} {base pb : Nat} {x : D6} {g c : Nat} (h : Pile w base pb vless [x] g c) :
    Calls Tryz.prog 165 #[.pointer (some ⟨pb, 0, none⟩)] w (TakePost w base pb vless x [] g c) := by
  obtain ⟨p0, p1, pf⟩ := h.head
  obtain ⟨q0, q1, q2, q3, q4, q5⟩ := h.at0 (by simp)
  rw [List.getElem_cons_zero] at q0 q1 q2 q3 q4 q5
  have fz0 := h.fro 0; have fz1 := h.fro 1; have fz2 := h.fro 2; have fz3 := h.fro 3; have fz4 := h.fro 4; have fz5 := h.fro 5
  have hpl := h.plt; have hgl := h.glt
  have hp1 : pb < w.heap.size + 1 := by omega
  have hp2 : pb < w.heap.size + 1 + 1 := by omega
  have hp3 : pb < w.heap.size + 1 + 1 + 1 := by omega
  have hg1 : g < w.heap.size + 1 := by omega
  have hg2 : g < w.heap.size + 1 + 1 := by omega
  have hg3 : g < w.heap.size + 1 + 1 + 1 := by omega
  have hne := h.ne
  have hne' : ¬ g = pb := fun e => hne e.symm
  have hcm := h.cm; have hlc := h.lc
  unfold maxLen at hcm
  rw [List.length_cons, List.length_nil] at p0 hlc
  have hP := ((((((h.set0 (by simp) x).set0 (by simp) zV).cut 0 (by simp)).alloc (.cells #[.int .i64 0, .int .i64 0, .slice none 0 0, .int .i64 0, .int .i64 0, .slice none 0 0] 152)).alloc (.cells #[.int .i64 0, .int .i64 0, .slice none 0 0, .int .i64 0, .int .i64 0, .slice none 0 0] 152)).alloc (.cells #[.int .i64 x.l, .int .i64 x.m, .slice x.A x.b.length x.ac, .int .i64 (x.k : Int), .int .i64 (x.t : Int), .slice x.F x.f.length x.fc] 152)).drew.drew
  have hF := Fp.refl pb g w
  replace hF := hF.set (p := ⟨g, 0, none⟩) (.int .i64 x.l) (.inr (.inl rfl))
  replace hF := hF.set (p := ⟨g, 1, none⟩) (.int .i64 x.m) (.inr (.inl rfl))
  replace hF := hF.set (p := ⟨g, 2, none⟩) (.slice x.A x.b.length x.ac) (.inr (.inl rfl))
  replace hF := hF.set (p := ⟨g, 3, none⟩) (.int .i64 (x.k : Int)) (.inr (.inl rfl))
  replace hF := hF.set (p := ⟨g, 4, none⟩) (.int .i64 (x.t : Int)) (.inr (.inl rfl))
  replace hF := hF.set (p := ⟨g, 5, none⟩) (.slice x.F x.f.length x.fc) (.inr (.inl rfl))
  replace hF := hF.set (p := ⟨g, 0, none⟩) (.int .i64 0) (.inr (.inl rfl))
  replace hF := hF.set (p := ⟨g, 1, none⟩) (.int .i64 0) (.inr (.inl rfl))
  replace hF := hF.set (p := ⟨g, 2, none⟩) (.slice none 0 0) (.inr (.inl rfl))
  replace hF := hF.set (p := ⟨g, 3, none⟩) (.int .i64 0) (.inr (.inl rfl))
  replace hF := hF.set (p := ⟨g, 4, none⟩) (.int .i64 0) (.inr (.inl rfl))
  replace hF := hF.set (p := ⟨g, 5, none⟩) (.slice none 0 0) (.inr (.inl rfl))
  replace hF := hF.set (p := ⟨pb, 0, none⟩) (.slice (some ⟨g, 0, none⟩) 0 c) (.inl rfl)
  replace hF := (((hF.alloc (.cells #[.int .i64 0, .int .i64 0, .slice none 0 0, .int .i64 0, .int .i64 0, .slice none 0 0] 152)).alloc (.cells #[.int .i64 0, .int .i64 0, .slice none 0 0, .int .i64 0, .int .i64 0, .slice none 0 0] 152)).alloc (.cells #[.int .i64 x.l, .int .i64 x.m, .slice x.A x.b.length x.ac, .int .i64 (x.k : Int), .int .i64 (x.t : Int), .slice x.F x.f.length x.fc] 152)).drew.drew
  have HP := Lib.hid hP; have HF := Lib.hid hF
  clear h hP hF
  go_enter Tryz.func165, Tryz.ntmps165
  go_wp2
  go_region
  go_wp2
  go_region
  go_wp2_with fail
  refine (sink_any HP.out (fun z hz => by simp at hz) (by simp)).mono ?_
  rintro e w1 ⟨rfl, hp, hf⟩
  obtain ⟨c0, c1, c2, c3, c4, c5, _, _, _, _, _, _⟩ := cells6 ((hf.block (w.heap.size + 1 + 1) (by simp) (by omega) (by omega)).trans (new_last _ _ _ (by simp)))
  have hd := (hf.block w.heap.size (by simp; omega) (by omega) (by omega)).trans (new_first _ _ _ _ _ (by simp))
  obtain ⟨d0, d1, d2, d3, d4, d5, d6, d7, d8, d9, d10, d11⟩ := cells6 hd
  have k0 : (w1.setCell ⟨w.heap.size, 0, none⟩ (.int .i64 x.l)).cell? ⟨w.heap.size, 0, none⟩ = some (.int .i64 x.l) := cell_of_row _ _ 0 _ _ _ (heap_set_same _ (hd))
  have k1 : ((w1.setCell ⟨w.heap.size, 0, none⟩ (.int .i64 x.l)).setCell ⟨w.heap.size, 1, none⟩ (.int .i64 x.m)).cell? ⟨w.heap.size, 1, none⟩ = some (.int .i64 x.m) := cell_of_row _ _ 1 _ _ _ (heap_set_same _ (heap_set_same _ (hd)))
  have k2 : (((w1.setCell ⟨w.heap.size, 0, none⟩ (.int .i64 x.l)).setCell ⟨w.heap.size, 1, none⟩ (.int .i64 x.m)).setCell ⟨w.heap.size, 2, none⟩ (.slice x.A x.b.length x.ac)).cell? ⟨w.heap.size, 2, none⟩ = some (.slice x.A x.b.length x.ac) := cell_of_row _ _ 2 _ _ _ (heap_set_same _ (heap_set_same _ (heap_set_same _ (hd))))
  have k3 : ((((w1.setCell ⟨w.heap.size, 0, none⟩ (.int .i64 x.l)).setCell ⟨w.heap.size, 1, none⟩ (.int .i64 x.m)).setCell ⟨w.heap.size, 2, none⟩ (.slice x.A x.b.length x.ac)).setCell ⟨w.heap.size, 3, none⟩ (.int .i64 (x.k : Int))).cell? ⟨w.heap.size, 3, none⟩ = some (.int .i64 (x.k : Int)) := cell_of_row _ _ 3 _ _ _ (heap_set_same _ (heap_set_same _ (heap_set_same _ (heap_set_same _ (hd)))))
  have k4 : (((((w1.setCell ⟨w.heap.size, 0, none⟩ (.int .i64 x.l)).setCell ⟨w.heap.size, 1, none⟩ (.int .i64 x.m)).setCell ⟨w.heap.size, 2, none⟩ (.slice x.A x.b.length x.ac)).setCell ⟨w.heap.size, 3, none⟩ (.int .i64 (x.k : Int))).setCell ⟨w.heap.size, 4, none⟩ (.int .i64 (x.t : Int))).cell? ⟨w.heap.size, 4, none⟩ = some (.int .i64 (x.t : Int)) := cell_of_row _ _ 4 _ _ _ (heap_set_same _ (heap_set_same _ (heap_set_same _ (heap_set_same _ (heap_set_same _ (hd))))))
  have k5 : ((((((w1.setCell ⟨w.heap.size, 0, none⟩ (.int .i64 x.l)).setCell ⟨w.heap.size, 1, none⟩ (.int .i64 x.m)).setCell ⟨w.heap.size, 2, none⟩ (.slice x.A x.b.length x.ac)).setCell ⟨w.heap.size, 3, none⟩ (.int .i64 (x.k : Int))).setCell ⟨w.heap.size, 4, none⟩ (.int .i64 (x.t : Int))).setCell ⟨w.heap.size, 5, none⟩ (.slice x.F x.f.length x.fc)).cell? ⟨w.heap.size, 5, none⟩ = some (.slice x.F x.f.length x.fc) := cell_of_row _ _ 5 _ _ _ (heap_set_same _ (heap_set_same _ (heap_set_same _ (heap_set_same _ (heap_set_same _ (heap_set_same _ (hd)))))))
  have HX := Lib.hid (hp); have HY := Lib.hid (HF.out.trans hf (.inl rfl))
  clear hp hf hd p0 p1 pf q0 q1 q2 q3 q4 q5 fz0 fz1 fz2 fz3 fz4 fz5
  go_wp2
  exact bodyPost_ret (v := .tuple #[.agg #[.int .i64 x.l, .int .i64 x.m, .slice x.A x.b.length x.ac, .int .i64 (x.k : Int), .int .i64 (x.t : Int), .slice x.F x.f.length x.fc], .bool true]) (by simp [results, Tryz.results165, go_sem, k0, k1, k2, k3, k4, k5]) rfl
    ⟨rfl, ((((((HX.out.other (p := ⟨w.heap.size, 0, none⟩) _ (by simp; omega) (by simp; omega)).other (p := ⟨w.heap.size, 1, none⟩) _ (by simp; omega) (by simp; omega)).other (p := ⟨w.heap.size, 2, none⟩) _ (by simp; omega) (by simp; omega)).other (p := ⟨w.heap.size, 3, none⟩) _ (by simp; omega) (by simp; omega)).other (p := ⟨w.heap.size, 4, none⟩) _ (by simp; omega) (by simp; omega)).other (p := ⟨w.heap.size, 5, none⟩) _ (by simp; omega) (by simp; omega)),
      ((((((HY.out.set (p := ⟨w.heap.size, 0, none⟩) _ (.inr (.inr (Nat.le_refl _)))).set (p := ⟨w.heap.size, 1, none⟩) _ (.inr (.inr (Nat.le_refl _)))).set (p := ⟨w.heap.size, 2, none⟩) _ (.inr (.inr (Nat.le_refl _)))).set (p := ⟨w.heap.size, 3, none⟩) _ (.inr (.inr (Nat.le_refl _)))).set (p := ⟨w.heap.size, 4, none⟩) _ (.inr (.inr (Nat.le_refl _)))).set (p := ⟨w.heap.size, 5, none⟩) _ (.inr (.inr (Nat.le_refl _))))⟩

set_option maxRecDepth 100000 in
set_option maxHeartbeats 4000000 in
theorem take_many {w : World} {base pb : Nat} {x : D6} {r : List D6} {g c : Nat} (h : Pile w base pb vless (x :: r) g c) (hok : ∀ z ∈ x :: r, OkN w pb g z) (hr : r ≠ []) (hl : r.length ≤ 1000000) :
    Calls Tryz.prog 165 #[.pointer (some ⟨pb, 0, none⟩)] w (TakePost w base pb vless x r g c) := by
  obtain ⟨p0, p1, pf⟩ := h.head
  obtain ⟨q0, q1, q2, q3, q4, q5⟩ := h.at0 (by simp)
  rw [List.getElem_cons_zero] at q0 q1 q2 q3 q4 q5
  obtain ⟨n, hn⟩ : ∃ n, r.length = n := ⟨_, rfl⟩
  have hn1 : 1 ≤ n := by rw [← hn]; exact List.length_pos_iff.2 hr
  have hnl : n < (x :: r).length := by simp [hn]
  obtain ⟨r0, r1, r2, r3, r4, r5⟩ := h.at_ hnl
  obtain ⟨y, hy⟩ : ∃ y, (x :: r)[n] = y := ⟨_, rfl⟩
  rw [hy] at r0 r1 r2 r3 r4 r5
  have HL := Lib.hid (show restL x r = downL (((((x :: r).set 0 y).set n zV).take n)) 0 by
    unfold restL
    rw [take_set_last, hn, List.getLast_eq_getElem]
    congr 3
    rw [← hy]
    all_goals (first | (congr 1; done) | (congr 1; simp [hn]) | simp [hn]))
  have fz0 := h.fro 0; have fz1 := h.fro 1; have fz2 := h.fro 2; have fz3 := h.fro 3; have fz4 := h.fro 4; have fz5 := h.fro 5
  have fn0 := h.fro (n * 6); have fn1 := h.fro (n * 6 + 1); have fn2 := h.fro (n * 6 + 2); have fn3 := h.fro (n * 6 + 3); have fn4 := h.fro (n * 6 + 4); have fn5 := h.fro (n * 6 + 5)
  have hpl := h.plt; have hgl := h.glt
  have hp1 : pb < w.heap.size + 1 := by omega
  have hp2 : pb < w.heap.size + 1 + 1 := by omega
  have hp3 : pb < w.heap.size + 1 + 1 + 1 := by omega
  have hg1 : g < w.heap.size + 1 := by omega
  have hg2 : g < w.heap.size + 1 + 1 := by omega
  have hg3 : g < w.heap.size + 1 + 1 + 1 := by omega
  have hne := h.ne
  have hne' : ¬ g = pb := fun e => hne e.symm
  have hcm := h.cm; have hlc := h.lc
  unfold maxLen at hcm
  rw [List.length_cons, hn] at p0 hlc
  have hP := ((((((h.set0 (by simp) y).set (i := n) (by rw [List.length_set]; exact hnl) zV).cut n (by rw [List.length_set, List.length_set]; omega)).alloc (.cells #[.int .i64 0, .int .i64 0, .slice none 0 0, .int .i64 0, .int .i64 0, .slice none 0 0] 152)).alloc (.cells #[.int .i64 0, .int .i64 0, .slice none 0 0, .int .i64 0, .int .i64 0, .slice none 0 0] 152)).alloc (.cells #[.int .i64 x.l, .int .i64 x.m, .slice x.A x.b.length x.ac, .int .i64 (x.k : Int), .int .i64 (x.t : Int), .slice x.F x.f.length x.fc] 152)).drew.drew
  have hF := Fp.refl pb g w
  replace hF := hF.set (p := ⟨g, 0, none⟩) (.int .i64 y.l) (.inr (.inl rfl))
  replace hF := hF.set (p := ⟨g, 1, none⟩) (.int .i64 y.m) (.inr (.inl rfl))
  replace hF := hF.set (p := ⟨g, 2, none⟩) (.slice y.A y.b.length y.ac) (.inr (.inl rfl))
  replace hF := hF.set (p := ⟨g, 3, none⟩) (.int .i64 (y.k : Int)) (.inr (.inl rfl))
  replace hF := hF.set (p := ⟨g, 4, none⟩) (.int .i64 (y.t : Int)) (.inr (.inl rfl))
  replace hF := hF.set (p := ⟨g, 5, none⟩) (.slice y.F y.f.length y.fc) (.inr (.inl rfl))
  replace hF := hF.set (p := ⟨g, n * 6, none⟩) (.int .i64 0) (.inr (.inl rfl))
  replace hF := hF.set (p := ⟨g, n * 6 + 1, none⟩) (.int .i64 0) (.inr (.inl rfl))
  replace hF := hF.set (p := ⟨g, n * 6 + 2, none⟩) (.slice none 0 0) (.inr (.inl rfl))
  replace hF := hF.set (p := ⟨g, n * 6 + 3, none⟩) (.int .i64 0) (.inr (.inl rfl))
  replace hF := hF.set (p := ⟨g, n * 6 + 4, none⟩) (.int .i64 0) (.inr (.inl rfl))
  replace hF := hF.set (p := ⟨g, n * 6 + 5, none⟩) (.slice none 0 0) (.inr (.inl rfl))
  replace hF := hF.set (p := ⟨pb, 0, none⟩) (.slice (some ⟨g, 0, none⟩) n c) (.inl rfl)
  replace hF := (((hF.alloc (.cells #[.int .i64 0, .int .i64 0, .slice none 0 0, .int .i64 0, .int .i64 0, .slice none 0 0] 152)).alloc (.cells #[.int .i64 0, .int .i64 0, .slice none 0 0, .int .i64 0, .int .i64 0, .slice none 0 0] 152)).alloc (.cells #[.int .i64 x.l, .int .i64 x.m, .slice x.A x.b.length x.ac, .int .i64 (x.k : Int), .int .i64 (x.t : Int), .slice x.F x.f.length x.fc] 152)).drew.drew
  have HP := Lib.hid hP; have HF := Lib.hid hF
  have HNN := Lib.hid hn
  have HOK := Lib.hid (fun z (hz : z ∈ ((((x :: r).set 0 y).set n zV).take n)) => (show OkN w pb g z from by
    rw [take_set_last] at hz
    rcases List.mem_or_eq_of_mem_set (List.mem_of_mem_take hz) with h1 | h1
    · exact hok z h1
    · rw [h1, ← hy]; exact hok _ (List.getElem_mem hnl)).fp HF.out)
  clear h hP hF hy hr hok
  have hw1 : IntKind.i64.wrap ((n : Int) + 1 - 1) = (n : Int) := by rw [IntKind.wrap_i64]; omega
  have hw2 : IntKind.i64.wrap (n : Int) = (n : Int) := by rw [IntKind.wrap_i64]; omega
  have j0 : (0 : Int) ≤ (n : Int) := by omega
  have j1 : (n : Int) < (n : Int) + 1 := by omega
  have j2 : (0 : Int) < (n : Int) + 1 := by omega
  have j3 : 0 < n + 1 := by omega
  have j4 : (n : Int) ≤ (c : Int) := by omega
  have j5 : ((n : Int) + 1 == 0) = false := by simp; omega
  have u0_0 : ¬ n * 6 = 0 := by omega
  have v0_0 : ¬ 0 = n * 6 := by omega
  have u0_1 : ¬ n * 6 = 1 := by omega
  have v0_1 : ¬ 1 = n * 6 := by omega
  have u0_2 : ¬ n * 6 = 2 := by omega
  have v0_2 : ¬ 2 = n * 6 := by omega
  have u0_3 : ¬ n * 6 = 3 := by omega
  have v0_3 : ¬ 3 = n * 6 := by omega
  have u0_4 : ¬ n * 6 = 4 := by omega
  have v0_4 : ¬ 4 = n * 6 := by omega
  have u0_5 : ¬ n * 6 = 5 := by omega
  have v0_5 : ¬ 5 = n * 6 := by omega
  have u1_0 : ¬ n * 6 + 1 = 0 := by omega
  have v1_0 : ¬ 0 = n * 6 + 1 := by omega
  have u1_1 : ¬ n * 6 + 1 = 1 := by omega
  have v1_1 : ¬ 1 = n * 6 + 1 := by omega
  have u1_2 : ¬ n * 6 + 1 = 2 := by omega
  have v1_2 : ¬ 2 = n * 6 + 1 := by omega
  have u1_3 : ¬ n * 6 + 1 = 3 := by omega
  have v1_3 : ¬ 3 = n * 6 + 1 := by omega
  have u1_4 : ¬ n * 6 + 1 = 4 := by omega
  have v1_4 : ¬ 4 = n * 6 + 1 := by omega
  have u1_5 : ¬ n * 6 + 1 = 5 := by omega
  have v1_5 : ¬ 5 = n * 6 + 1 := by omega
  have u2_0 : ¬ n * 6 + 2 = 0 := by omega
  have v2_0 : ¬ 0 = n * 6 + 2 := by omega
  have u2_1 : ¬ n * 6 + 2 = 1 := by omega
  have v2_1 : ¬ 1 = n * 6 + 2 := by omega
  have u2_2 : ¬ n * 6 + 2 = 2 := by omega
  have v2_2 : ¬ 2 = n * 6 + 2 := by omega
  have u2_3 : ¬ n * 6 + 2 = 3 := by omega
  have v2_3 : ¬ 3 = n * 6 + 2 := by omega
  have u2_4 : ¬ n * 6 + 2 = 4 := by omega
  have v2_4 : ¬ 4 = n * 6 + 2 := by omega
  have u2_5 : ¬ n * 6 + 2 = 5 := by omega
  have v2_5 : ¬ 5 = n * 6 + 2 := by omega
  have u3_0 : ¬ n * 6 + 3 = 0 := by omega
  have v3_0 : ¬ 0 = n * 6 + 3 := by omega
  have u3_1 : ¬ n * 6 + 3 = 1 := by omega
  have v3_1 : ¬ 1 = n * 6 + 3 := by omega
  have u3_2 : ¬ n * 6 + 3 = 2 := by omega
  have v3_2 : ¬ 2 = n * 6 + 3 := by omega
  have u3_3 : ¬ n * 6 + 3 = 3 := by omega
  have v3_3 : ¬ 3 = n * 6 + 3 := by omega
  have u3_4 : ¬ n * 6 + 3 = 4 := by omega
  have v3_4 : ¬ 4 = n * 6 + 3 := by omega
  have u3_5 : ¬ n * 6 + 3 = 5 := by omega
  have v3_5 : ¬ 5 = n * 6 + 3 := by omega
  have u4_0 : ¬ n * 6 + 4 = 0 := by omega
  have v4_0 : ¬ 0 = n * 6 + 4 := by omega
  have u4_1 : ¬ n * 6 + 4 = 1 := by omega
  have v4_1 : ¬ 1 = n * 6 + 4 := by omega
  have u4_2 : ¬ n * 6 + 4 = 2 := by omega
  have v4_2 : ¬ 2 = n * 6 + 4 := by omega
  have u4_3 : ¬ n * 6 + 4 = 3 := by omega
  have v4_3 : ¬ 3 = n * 6 + 4 := by omega
  have u4_4 : ¬ n * 6 + 4 = 4 := by omega
  have v4_4 : ¬ 4 = n * 6 + 4 := by omega
  have u4_5 : ¬ n * 6 + 4 = 5 := by omega
  have v4_5 : ¬ 5 = n * 6 + 4 := by omega
  have u5_0 : ¬ n * 6 + 5 = 0 := by omega
  have v5_0 : ¬ 0 = n * 6 + 5 := by omega
  have u5_1 : ¬ n * 6 + 5 = 1 := by omega
  have v5_1 : ¬ 1 = n * 6 + 5 := by omega
  have u5_2 : ¬ n * 6 + 5 = 2 := by omega
  have v5_2 : ¬ 2 = n * 6 + 5 := by omega
  have u5_3 : ¬ n * 6 + 5 = 3 := by omega
  have v5_3 : ¬ 3 = n * 6 + 5 := by omega
  have u5_4 : ¬ n * 6 + 5 = 4 := by omega
  have v5_4 : ¬ 4 = n * 6 + 5 := by omega
  have u5_5 : ¬ n * 6 + 5 = 5 := by omega
  have v5_5 : ¬ 5 = n * 6 + 5 := by omega
  clear hn hnl
  go_enter Tryz.func165, Tryz.ntmps165
  go_wp2
  go_region
  go_wp2
  clear hw1 hw2
  go_region
  go_wp2_with fail
  refine (sink_any HP.out HOK.out (by simp; omega)).mono ?_
  rintro e w1 ⟨rfl, hp, hf⟩
  rw [← HL.out] at hp
  obtain ⟨c0, c1, c2, c3, c4, c5, _, _, _, _, _, _⟩ := cells6 ((hf.block (w.heap.size + 1 + 1) (by simp) (by omega) (by omega)).trans (new_last _ _ _ (by simp)))
  have hd := (hf.block w.heap.size (by simp; omega) (by omega) (by omega)).trans (new_first _ _ _ _ _ (by simp))
  obtain ⟨d0, d1, d2, d3, d4, d5, d6, d7, d8, d9, d10, d11⟩ := cells6 hd
  have k0 : (w1.setCell ⟨w.heap.size, 0, none⟩ (.int .i64 x.l)).cell? ⟨w.heap.size, 0, none⟩ = some (.int .i64 x.l) := cell_of_row _ _ 0 _ _ _ (heap_set_same _ (hd))
  have k1 : ((w1.setCell ⟨w.heap.size, 0, none⟩ (.int .i64 x.l)).setCell ⟨w.heap.size, 1, none⟩ (.int .i64 x.m)).cell? ⟨w.heap.size, 1, none⟩ = some (.int .i64 x.m) := cell_of_row _ _ 1 _ _ _ (heap_set_same _ (heap_set_same _ (hd)))
  have k2 : (((w1.setCell ⟨w.heap.size, 0, none⟩ (.int .i64 x.l)).setCell ⟨w.heap.size, 1, none⟩ (.int .i64 x.m)).setCell ⟨w.heap.size, 2, none⟩ (.slice x.A x.b.length x.ac)).cell? ⟨w.heap.size, 2, none⟩ = some (.slice x.A x.b.length x.ac) := cell_of_row _ _ 2 _ _ _ (heap_set_same _ (heap_set_same _ (heap_set_same _ (hd))))
  have k3 : ((((w1.setCell ⟨w.heap.size, 0, none⟩ (.int .i64 x.l)).setCell ⟨w.heap.size, 1, none⟩ (.int .i64 x.m)).setCell ⟨w.heap.size, 2, none⟩ (.slice x.A x.b.length x.ac)).setCell ⟨w.heap.size, 3, none⟩ (.int .i64 (x.k : Int))).cell? ⟨w.heap.size, 3, none⟩ = some (.int .i64 (x.k : Int)) := cell_of_row _ _ 3 _ _ _ (heap_set_same _ (heap_set_same _ (heap_set_same _ (heap_set_same _ (hd)))))
  have k4 : (((((w1.setCell ⟨w.heap.size, 0, none⟩ (.int .i64 x.l)).setCell ⟨w.heap.size, 1, none⟩ (.int .i64 x.m)).setCell ⟨w.heap.size, 2, none⟩ (.slice x.A x.b.length x.ac)).setCell ⟨w.heap.size, 3, none⟩ (.int .i64 (x.k : Int))).setCell ⟨w.heap.size, 4, none⟩ (.int .i64 (x.t : Int))).cell? ⟨w.heap.size, 4, none⟩ = some (.int .i64 (x.t : Int)) := cell_of_row _ _ 4 _ _ _ (heap_set_same _ (heap_set_same _ (heap_set_same _ (heap_set_same _ (heap_set_same _ (hd))))))
  have k5 : ((((((w1.setCell ⟨w.heap.size, 0, none⟩ (.int .i64 x.l)).setCell ⟨w.heap.size, 1, none⟩ (.int .i64 x.m)).setCell ⟨w.heap.size, 2, none⟩ (.slice x.A x.b.length x.ac)).setCell ⟨w.heap.size, 3, none⟩ (.int .i64 (x.k : Int))).setCell ⟨w.heap.size, 4, none⟩ (.int .i64 (x.t : Int))).setCell ⟨w.heap.size, 5, none⟩ (.slice x.F x.f.length x.fc)).cell? ⟨w.heap.size, 5, none⟩ = some (.slice x.F x.f.length x.fc) := cell_of_row _ _ 5 _ _ _ (heap_set_same _ (heap_set_same _ (heap_set_same _ (heap_set_same _ (heap_set_same _ (heap_set_same _ (hd)))))))
  have HX := Lib.hid (hp); have HY := Lib.hid (HF.out.trans hf (.inl rfl))
  clear hp hf hd p0 p1 pf q0 q1 q2 q3 q4 q5 fz0 fz1 fz2 fz3 fz4 fz5 r0 r1 r2 r3 r4 r5 fn0 fn1 fn2 fn3 fn4 fn5
  go_wp2
  exact bodyPost_ret (v := .tuple #[.agg #[.int .i64 x.l, .int .i64 x.m, .slice x.A x.b.length x.ac, .int .i64 (x.k : Int), .int .i64 (x.t : Int), .slice x.F x.f.length x.fc], .bool true]) (by simp [results, Tryz.results165, go_sem, k0, k1, k2, k3, k4, k5]) rfl
    ⟨rfl, ((((((HX.out.other (p := ⟨w.heap.size, 0, none⟩) _ (by simp; omega) (by simp; omega)).other (p := ⟨w.heap.size, 1, none⟩) _ (by simp; omega) (by simp; omega)).other (p := ⟨w.heap.size, 2, none⟩) _ (by simp; omega) (by simp; omega)).other (p := ⟨w.heap.size, 3, none⟩) _ (by simp; omega) (by simp; omega)).other (p := ⟨w.heap.size, 4, none⟩) _ (by simp; omega) (by simp; omega)).other (p := ⟨w.heap.size, 5, none⟩) _ (by simp; omega) (by simp; omega)),
      ((((((HY.out.set (p := ⟨w.heap.size, 0, none⟩) _ (.inr (.inr (Nat.le_refl _)))).set (p := ⟨w.heap.size, 1, none⟩) _ (.inr (.inr (Nat.le_refl _)))).set (p := ⟨w.heap.size, 2, none⟩) _ (.inr (.inr (Nat.le_refl _)))).set (p := ⟨w.heap.size, 3, none⟩) _ (.inr (.inr (Nat.le_refl _)))).set (p := ⟨w.heap.size, 4, none⟩) _ (.inr (.inr (Nat.le_refl _)))).set (p := ⟨w.heap.size, 5, none⟩) _ (.inr (.inr (Nat.le_refl _))))⟩

def TakeAll (w : World) (base pb : Nat) (F : Value) (x : D6) (r : List D6) (g c : Nat) := TakePost w base pb F x r g c
theorem take_any {w : World} {base pb : Nat} {x : D6} {r : List D6} {g c : Nat} (h : Pile w base pb vless (x :: r) g c) (hok : ∀ z ∈ x :: r, OkN w pb g z) (hl : r.length ≤ 1000000) :
    Calls Tryz.prog 165 #[.pointer (some ⟨pb, 0, none⟩)] w (TakePost w base pb vless x r g c) := by
  cases r with
  | nil => exact take_one h
  | cons y r => exact take_many h hok (by simp) hl
end Go.Proofs.YtcpanfpijljeaaaGreat.DH

namespace Go.Proofs.YtcpanfpijljeaaaGreat.DH
set_option linter.unusedVariables false
set_option linter.unusedSimpArgs false
open Go.RowKit

theorem methD_take (a : Addr) (w : World) : (method 333 148 (.pointer (some a)) "tramline/track.take").run Tryz.prog w = .ok (165, .pointer (some a)) w := by kernel_rfl
theorem methD_put (a : Addr) (w : World) : (method 333 148 (.pointer (some a)) "tramline/track.put").run Tryz.prog w = .ok (162, .pointer (some a)) w := by kernel_rfl
theorem nilaD_take (a : Addr) (w : World) : (nilAhead 333 148 (.pointer (some a)) "tramline/track.take").run Tryz.prog w = .ok (some false) w := by kernel_rfl
theorem nilaD_put (a : Addr) (w : World) : (nilAhead 333 148 (.pointer (some a)) "tramline/track.put").run Tryz.prog w = .ok (some false) w := by kernel_rfl
/-- the pile before anything is put into it -/
def Pnil (w : World) (pb : Nat) : Prop := w.heap[pb]? = some (.cells #[.slice none 0 0, vless] 155)
set_option maxHeartbeats 1000000 in
theorem take_nil0 {w : World} {pb : Nat} (h : Pnil w pb) : Calls Tryz.prog 165 #[.pointer (some ⟨pb, 0, none⟩)] w (TakeNil w) := by
  have p0 := cell_of_row _ _ 0 _ _ _ h
  have hpl : pb < w.heap.size := (Array.getElem?_eq_some_iff.1 h).1
  have hp1 : pb < w.heap.size + 1 := by omega
  simp only [List.getElem?_toArray, List.getElem?_cons_zero] at p0
  clear h
  go_enter Tryz.func165, Tryz.ntmps165
  go_wp2
  exact bodyPost_ret (v := .tuple #[.agg #[.int .i64 0, .int .i64 0, .slice none 0 0, .int .i64 0, .int .i64 0, .slice none 0 0], .bool false]) (by simp [results, Tryz.results165, go_sem]) rfl ⟨rfl, ((Below.refl _ _).alloc (Nat.le_refl _) _).alloc (by simp) _⟩
def PutNil (w : World) (base pb : Nat) (x : D6) (e : Ending) (w' : World) : Prop :=
  e = .returned (.tuple #[]) ∧ (∃ g c, Pile w' base pb vless [x] g c ∧ w.heap.size ≤ g) ∧ Fp pb pb w w'
set_option maxRecDepth 100000 in
set_option maxHeartbeats 2000000 in
theorem put_nil0 {w : World} {base pb : Nat} (h : Pnil w pb) (hb : base ≤ pb) (x : D6) :
    Calls Tryz.prog 162 #[.pointer (some ⟨pb, 0, none⟩), .agg #[.int .i64 x.l, .int .i64 x.m, .slice x.A x.b.length x.ac, .int .i64 (x.k : Int), .int .i64 (x.t : Int), .slice x.F x.f.length x.fc]] w (PutNil w base pb x) := by
  obtain ⟨i0, hi, hz0, hz1, hz2⟩ := info_parts infD
  have p0 := cell_of_row _ _ 0 _ _ _ h
  simp only [List.getElem?_toArray, List.getElem?_cons_zero] at p0
  have hpl : pb < w.heap.size := (Array.getElem?_eq_some_iff.1 h).1
  have hp1 : pb < w.heap.size + 1 := by omega
  have hp2 : pb < w.heap.size + 1 + 1 := by omega
  have pf : w.frozen? ⟨pb, 0, none⟩ = false := fro_row h 0
  have hnew := heap_alloc_new (w.alloc (.cells #[.int .i64 x.l, .int .i64 x.m, .slice x.A x.b.length x.ac, .int .i64 (x.k : Int), .int .i64 (x.t : Int), .slice x.F x.f.length x.fc] 152)) (.cells #[.int .i64 x.l, .int .i64 x.m, .slice x.A x.b.length x.ac, .int .i64 (x.k : Int), .int .i64 (x.t : Int), .slice x.F x.f.length x.fc] 152)
  rw [show (w.alloc (.cells #[.int .i64 x.l, .int .i64 x.m, .slice x.A x.b.length x.ac, .int .i64 (x.k : Int), .int .i64 (x.t : Int), .slice x.F x.f.length x.fc] 152)).heap.size = w.heap.size + 1 by simp] at hnew
  have HN := Lib.hid hnew
  have H := Lib.hid (show Pnil ((w.alloc (.cells #[.int .i64 x.l, .int .i64 x.m, .slice x.A x.b.length x.ac, .int .i64 (x.k : Int), .int .i64 (x.t : Int), .slice x.F x.f.length x.fc] 152)).alloc (.cells #[.int .i64 x.l, .int .i64 x.m, .slice x.A x.b.length x.ac, .int .i64 (x.k : Int), .int .i64 (x.t : Int), .slice x.F x.f.length x.fc] 152)) pb from (Below.heap_alloc _ _ _ (by simp; omega)).trans ((Below.heap_alloc _ _ _ hpl).trans h))
  have HB := Lib.hid (((Fp.refl pb pb w).alloc (.cells #[.int .i64 x.l, .int .i64 x.m, .slice x.A x.b.length x.ac, .int .i64 (x.k : Int), .int .i64 (x.t : Int), .slice x.F x.f.length x.fc] 152)).alloc (.cells #[.int .i64 x.l, .int .i64 x.m, .slice x.A x.b.length x.ac, .int .i64 (x.k : Int), .int .i64 (x.t : Int), .slice x.F x.f.length x.fc] 152))
  clear h hnew
  go_enter Tryz.func162, Tryz.ntmps162
  go_wp2_with fail
  go_region_law (
    refine step_append_lies _ rfl (.tmp 9) (.tmp 11) _ rfl base 152 i0 _ 6 80 Tryz.underlying153 hi hz0 hz1 hz2 rfl (by omega) _ 0 [] rfl (World.ownsRow_nil _ base 152 6) ⟨w.heap.size + 1, 0, none⟩ 1 1 (fV x) rfl rfl (World.news_of_block HN.out) (fV_one x) (by omega) (by unfold maxLen; omega) (by omega) (by simp; omega) _ rfl ?_
    intro g2 c2 w2 ho hgr hat hlt
    have hrow2 := (hgr.block pb (by simp; omega) (by intro e; cases e)).trans H.out
    have hc0 : w2.cell? ⟨pb, 0, none⟩ = some (.slice none 0 0) := cell_of_row _ _ 0 _ _ _ hrow2
    have hf0 : w2.frozen? ⟨pb, 0, none⟩ = false := fro_row hrow2 0
    have hgn : w.heap.size ≤ g2 := by
      rcases hat with e | e
      · cases e
      · simp at e; omega
    have HG := Lib.hid (And.intro ho (And.intro hrow2 hgn))
    have HB2 := Lib.hid (((HB.out.drew).grown hgr (by intro k e; cases e)).set (p := ⟨pb, 0, none⟩) (.slice (some ⟨g2, 0, none⟩) (0 + 1) c2) (.inl rfl))
    clear ho hgr hat hlt hrow2)
  all_goals
    obtain ⟨w3, hw3⟩ : ∃ w3, w2.setCell ⟨pb, 0, none⟩ (.slice (some ⟨g2, 0, none⟩) (0 + 1) c2) = w3 := ⟨_, rfl⟩
    have HP := Lib.hid (show Pile w3 base pb vless [x] g2 c2 by
      obtain ⟨ho, hrow2, hgn⟩ := HG.out
      rw [← hw3]
      rcases ho.2 with ⟨_, h0⟩ | ⟨g', cap, cur, hv, hb', hg', hnc, hm, hs, ht⟩
      · omega
      · injection hv with e1 _ e3
        injection e1 with e1
        injection e1 with e1 _ _
        subst e1; subst e3
        have hgp : pb ≠ g2 := by omega
        refine ⟨hb, hb', hgp, ?_, ⟨cur, ?_, hs, ?_⟩, hnc, hm⟩
        · rw [heap_set_same _ hrow2]; rfl
        · rw [Below.heap_setCell _ _ _ _ (Ne.symm hgp)]; exact hg'
        · simpa [fV_len] using ht)
    have HGN := Lib.hid HG.out.2.2
    have HB3 := Lib.hid (show Fp pb pb w w3 by rw [← hw3]; exact HB2.out)
    have k0 := HP.out.head.1
    simp only [List.length_cons, List.length_nil, Nat.zero_add] at k0
    try simp only [Nat.zero_add] at hw3
    have hw4 := hw3
    try simp only [Nat.zero_add]
    rw [hw3]
    clear hw3 hw4 hc0 hf0 p0 pf HG HB2
    go_wp2
    go_loopw [4] (fun i wr => i = .int .i64 0 ∧ wr = w3) (fun i _ => 0)
    case atStart => exact ⟨rfl, rfl⟩
    case round =>
      obtain ⟨rfl, rfl⟩ := hrel
      go_wp2
      go_end0
      exact ⟨rfl, ⟨g2, c2, HP.out, HGN.out⟩, HB3.out⟩
end Go.Proofs.YtcpanfpijljeaaaGreat.DH
