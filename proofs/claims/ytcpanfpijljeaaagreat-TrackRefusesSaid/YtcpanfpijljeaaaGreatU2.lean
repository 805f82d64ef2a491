/- Plain: which moves are endless. Contract: endless. -/
import Derived.Test.YtcpanfpijljeaaaGreatT2
import Derived.Test.YtcpanfpijljeaaaGreatW3
namespace Go.Proofs.YtcpanfpijljeaaaGreat
set_option linter.unusedVariables false
set_option linter.unusedSimpArgs false

/-- one that comes before: one move less that follows it; at the last one it is put on the stack -/
def decE (s : List Int × List Int) (b : Int) : List Int × List Int := (s.1.set b.toNat (s.1.getD b.toNat 0 - 1), if s.1.getD b.toNat 0 - 1 = 0 then b :: s.2 else s.2)
/-- moves that nothing follows are taken away, as long as there are any -/
def endl (bef : Nat → List Int) : Nat → List Bool → List Int → List Int → Option (List Bool)
  | 0, _, _, _ => none
  | _ + 1, en, _, [] => some en
  | k + 1, en, lf, m :: st =>
    if en.getD m.toNat false = false ∨ 1000000 < st.length ∨ lf.all (fun x => decide (-1000000 ≤ x ∧ x ≤ 1000000)) = false then none
    else endl bef k (en.set m.toNat false) ((bef m.toNat).foldl decE (lf, st)).1 ((bef m.toNat).foldl decE (lf, st)).2

theorem decE_len (s : List Int × List Int) (b : Int) : (decE s b).1.length = s.1.length ∧ (decE s b).2.length ≤ s.2.length + 1 := by
  unfold decE
  refine ⟨by simp, ?_⟩
  simp only
  split
  · simp
  · omega
theorem decEs_len : ∀ (L : List Int) (s : List Int × List Int), (L.foldl decE s).1.length = s.1.length ∧ (L.foldl decE s).2.length ≤ s.2.length + L.length := by
  intro L
  induction L with
  | nil => exact fun s => ⟨rfl, by simp⟩
  | cons b L ih =>
    intro s
    obtain ⟨a1, a2⟩ := ih (decE s b)
    obtain ⟨b1, b2⟩ := decE_len s b
    rw [List.foldl_cons]
    exact ⟨a1.trans b1, by simp only [List.length_cons]; omega⟩
theorem decEs_bd {u : Int} : ∀ (L : List Int) (s : List Int × List Int) (d : Int), 0 ≤ u → d ≤ 0 → (∀ x ∈ s.1, d ≤ x ∧ x ≤ u) → ∀ x ∈ (L.foldl decE s).1, d - L.length - 1 ≤ x ∧ x ≤ u := by
  intro L
  induction L with
  | nil => exact fun s d _ _ h x hx => by have := h x hx; simp at *; omega
  | cons b L ih =>
    intro s d hu hd h x hx
    rw [List.foldl_cons] at hx
    have := ih (decE s b) (d - 1) hu (by omega) (fun y hy => by
      unfold decE at hy
      simp only at hy
      rcases List.mem_or_eq_of_mem_set hy with hy | rfl
      · have := h y hy; omega
      · by_cases hl : b.toNat < s.1.length
        · have := h _ (List.getElem_mem hl)
          rw [List.getD_eq_getElem?_getD, List.getElem?_eq_getElem hl]
          simp only [Option.getD_some]; omega
        · rw [List.getD_eq_getElem?_getD, List.getElem?_eq_none (by omega)]; simp; omega) x hx
    simp only [List.length_cons]
    push_cast
    omega
theorem decEs_ok {M : Nat} : ∀ (L : List Int) (s : List Int × List Int), (∀ x ∈ s.2, ∃ t : Nat, x = t ∧ t < M) → (∀ x ∈ L, ∃ t : Nat, x = t ∧ t < M) → ∀ x ∈ (L.foldl decE s).2, ∃ t : Nat, x = t ∧ t < M := by
  intro L
  induction L with
  | nil => exact fun s h _ => h
  | cons b L ih =>
    intro s h hL
    rw [List.foldl_cons]
    refine ih _ (fun x hx => ?_) (fun x hx => hL x (by simp [hx]))
    unfold decE at hx
    simp only at hx
    split at hx
    · rcases List.mem_cons.1 hx with rfl | hx
      · exact hL _ (by simp)
      · exact h x hx
    · exact h x hx

def gI (l : List Int) (t : Nat) : Int := l.getD t 0
def gB (l : List Bool) (t : Nat) : Bool := l.getD t false
theorem gI_set {l : List Int} {k t : Nat} {x : Int} (hk : k < l.length) : gI (l.set k x) t = if t = k then x else gI l t := by
  unfold gI
  simp only [List.getD_eq_getElem?_getD]
  by_cases h : t = k
  · subst h; simp [hk]
  · rw [if_neg h, List.getElem?_set_ne (Ne.symm h)]
theorem gB_set {l : List Bool} {k t : Nat} {x : Bool} (hk : k < l.length) : gB (l.set k x) t = if t = k then x else gB l t := by
  unfold gB
  simp only [List.getD_eq_getElem?_getD]
  by_cases h : t = k
  · subst h; simp [hk]
  · rw [if_neg h, List.getElem?_set_ne (Ne.symm h)]

/-- the fold over those that come before -/
theorem decEs_is {M : Nat} (lf0 : List Int) (st0 : List Int) (hl : lf0.length = M) (hn : st0.Nodup) (hs0 : ∀ t : Nat, (t : Int) ∈ st0 → gI lf0 t = 0) :
    ∀ (L : List Int), (∀ x ∈ L, ∃ t : Nat, x = t ∧ t < M) → (∀ t : Nat, t < M → (L.count (t : Int) : Int) ≤ gI lf0 t) →
    (∀ t : Nat, t < M → gI (L.foldl decE (lf0, st0)).1 t = gI lf0 t - (L.count (t : Int) : Int)) ∧ (L.foldl decE (lf0, st0)).2.Nodup ∧
    (∀ t : Nat, t < M → ((t : Int) ∈ (L.foldl decE (lf0, st0)).2 ↔ (t : Int) ∈ st0 ∨ (0 < gI lf0 t ∧ gI lf0 t = (L.count (t : Int) : Int)))) := by
  intro L
  rcases List.eq_nil_or_concat L with rfl | ⟨r, b, rfl⟩
  · intro _ _
    exact ⟨fun t _ => by simp, hn, fun t _ => by simp; intro h1 h2; omega⟩
  · rw [List.concat_eq_append]
    intro hL hc
    have hc' : ∀ t : Nat, t < M → (r.count (t : Int) : Int) ≤ gI lf0 t := fun t ht => by
      have := hc t ht
      rw [List.count_append] at this
      omega
    obtain ⟨a1, a2, a3⟩ := decEs_is lf0 st0 hl hn hs0 r (fun x hx => hL x (by simp [hx])) hc'
    obtain ⟨k, rfl, hk⟩ := hL b (by simp)
    have hlr : (r.foldl decE (lf0, st0)).1.length = M := (decEs_len r _).1.trans hl
    have hck := hc k hk
    rw [List.count_append] at hck
    have hone : List.count (k : Int) [(k : Int)] = 1 := by simp
    rw [hone] at hck
    have hg : (r.foldl decE (lf0, st0)).1.getD k 0 = gI lf0 k - (r.count (k : Int) : Int) := a1 k hk
    rw [List.foldl_append, List.foldl_cons, List.foldl_nil]
    have hd : decE (r.foldl decE (lf0, st0)) (k : Int) = ((r.foldl decE (lf0, st0)).1.set k (gI lf0 k - (r.count (k : Int) : Int) - 1), if gI lf0 k - (r.count (k : Int) : Int) - 1 = 0 then (k : Int) :: (r.foldl decE (lf0, st0)).2 else (r.foldl decE (lf0, st0)).2) := by
      generalize r.foldl decE (lf0, st0) = s at hg
      unfold decE
      rw [Int.toNat_natCast, hg]
    rw [hd]
    simp only
    have hkn : (k : Int) ∉ (r.foldl decE (lf0, st0)).2 := fun hm => by
      rcases (a3 k hk).1 hm with h | h
      · have := hs0 k h; omega
      · omega
    refine ⟨fun t ht => ?_, ?_, fun t ht => ?_⟩
    · rw [gI_set (by omega), List.count_append]
      by_cases e : t = k
      · subst e; rw [if_pos rfl, hone]; push_cast; omega
      · rw [if_neg e, a1 t ht]
        have : List.count (t : Int) [(k : Int)] = 0 := by
          rw [List.count_eq_zero]; simp; omega
        rw [this]; simp
    · split
      · exact List.nodup_cons.2 ⟨hkn, a2⟩
      · exact a2
    · rw [List.count_append]
      by_cases e : t = k
      · subst e
        rw [hone]
        split
        · rename_i hz
          constructor
          · intro _; right; push_cast; omega
          · intro _; simp
        · rename_i hz
          rw [a3 t ht]
          constructor
          · rintro (h | h)
            · exact .inl h
            · omega
          · rintro (h | h)
            · exact .inl h
            · push_cast at h; omega
      · have h0 : List.count (t : Int) [(k : Int)] = 0 := by
          rw [List.count_eq_zero]; simp; omega
        rw [h0, Nat.add_zero, ← a3 t ht]
        split
        · rw [List.mem_cons]
          constructor
          · rintro (h | h)
            · omega
            · exact h
          · exact .inr
        · rfl
  termination_by L => L.length

/-- taken away one after the other, each when all that follow it are gone -/
def Ord (nx : Nat → List Int) : List Nat → Prop
  | [] => True
  | m :: D => (∀ z ∈ nx m, ∃ t : Nat, z = t ∧ t ∈ D) ∧ Ord nx D
theorem Ord.next {nx : Nat → List Int} : ∀ {D : List Nat}, Ord nx D → ∀ m ∈ D, ∀ z ∈ nx m, ∃ t : Nat, z = t ∧ t ∈ D := by
  intro D
  induction D with
  | nil => exact fun _ m hm => by cases hm
  | cons d D ih =>
    intro h m hm z hz
    rcases List.mem_cons.1 hm with rfl | hm
    · obtain ⟨t, e, ht⟩ := h.1 z hz
      exact ⟨t, e, by simp [ht]⟩
    · obtain ⟨t, e, ht⟩ := ih h.2 m hm z hz
      exact ⟨t, e, by simp [ht]⟩
/-- a way that begins with one of them is not longer than they are many -/
theorem Ord.way {nx : Nat → List Int} : ∀ {D : List Nat}, Ord nx D → ∀ (l : List Nat) (m : Nat), m ∈ D → (∀ i (hi : i < l.length), ((l[i] : Nat) : Int) ∈ nx ((m :: l)[i]'(by simp; omega))) → l.length + 1 ≤ D.length := by
  intro D
  induction D with
  | nil => exact fun _ l m hm => by cases hm
  | cons d D ih =>
    intro h l m hm hl
    rcases List.mem_cons.1 hm with rfl | hm
    · cases l with
      | nil => simp
      | cons n l =>
        obtain ⟨t, e, ht⟩ := h.1 n (hl 0 (by simp))
        obtain rfl : n = t := by omega
        have := ih h.2 l n ht (fun i hi => by
          have := hl (i + 1) (by simp; omega)
          simpa using this)
        simp only [List.length_cons]; omega
    · have := ih h.2 l m hm hl
      simp only [List.length_cons]; omega

structure EI (M : Nat) (nx : Nat → List Int) (en : List Bool) (lf st : List Int) (D : List Nat) : Prop where
  le : en.length = M
  ll : lf.length = M
  sn : st.Nodup
  so : ∀ x ∈ st, ∃ t : Nat, x = t ∧ t < M ∧ gB en t = true ∧ gI lf t = 0
  dn : D.Nodup
  dd : ∀ t, t < M → (gB en t = false ↔ t ∈ D)
  dm : ∀ t ∈ D, t < M
  od : Ord nx D
  cn : ∀ t, t < M → gI lf t = (((nx t).filter fun z => gB en z.toNat).length : Int)
  ze : ∀ t, t < M → gB en t = true → gI lf t = 0 → (t : Int) ∈ st
theorem filter_less {en : List Bool} {m : Nat} (hm : m < en.length) (ht : gB en m = true) (l : List Int) (hl : ∀ z ∈ l, ∃ t : Nat, z = t) :
    (l.filter fun z => gB (en.set m false) z.toNat).length + l.count (m : Int) = (l.filter fun z => gB en z.toNat).length := by
  induction l with
  | nil => simp
  | cons z l ih =>
    have ih := ih fun y hy => hl y (by simp [hy])
    obtain ⟨t, rfl⟩ := hl z (by simp)
    obtain ⟨P', hP'⟩ : ∃ P' : Int → Bool, (fun z : Int => gB (en.set m false) z.toNat) = P' := ⟨_, rfl⟩
    obtain ⟨P, hP⟩ : ∃ P : Int → Bool, (fun z : Int => gB en z.toNat) = P := ⟨_, rfl⟩
    have h1 : P' (t : Int) = if t = m then false else gB en t := by rw [← hP', ← gB_set hm]; simp
    have h2 : P (t : Int) = gB en t := by rw [← hP]; simp
    rw [hP', hP] at ih
    rw [hP', hP, List.filter_cons, List.filter_cons, h1, h2, List.count_cons]
    by_cases e : t = m
    · subst e
      rw [if_pos rfl, if_neg (by simp), if_pos ht, if_pos (by simp)]
      simp only [List.length_cons]; omega
    · have h3 : ((t : Int) == (m : Int)) = false := by simp; omega
      rw [if_neg e, h3]
      simp only [Bool.false_eq_true, if_false, Nat.add_zero]
      split
      · simp only [List.length_cons]; omega
      · exact ih
theorem EI.step {M m : Nat} {nx bf : Nat → List Int} {en : List Bool} {lf st : List Int} {D : List Nat} (hnx : ∀ t, t < M → ∀ z ∈ nx t, ∃ u : Nat, z = u ∧ u < M) (hbf : ∀ t, t < M → ∀ z ∈ bf t, ∃ u : Nat, z = u ∧ u < M)
    (hct : ∀ b t, b < M → t < M → (bf t).count (b : Int) = (nx b).count (t : Int)) (h : EI M nx en lf ((m : Int) :: st) D) :
    EI M nx (en.set m false) ((bf m).foldl decE (lf, st)).1 ((bf m).foldl decE (lf, st)).2 (m :: D) ∧ gB en m = true ∧ m < M ∧ m ∉ D := by
  obtain ⟨u, e, hm, hen, hlm⟩ := h.so m (by simp)
  obtain rfl : m = u := by omega
  have hml : m < en.length := by rw [h.le]; exact hm
  have hnd := List.nodup_cons.1 h.sn
  have hmD : m ∉ D := fun hd => by rw [(h.dd m hm).2 hd] at hen; cases hen
  have hle : ∀ t, t < M → ((bf m).count (t : Int) : Int) ≤ gI lf t := fun t ht => by
    have := filter_less hml hen (nx t) fun z hz => by obtain ⟨u, e, _⟩ := hnx t ht z hz; exact ⟨u, e⟩
    rw [h.cn t ht, hct t m ht hm]
    omega
  obtain ⟨a1, a2, a3⟩ := decEs_is lf st h.ll hnd.2 (fun t ht => by
    obtain ⟨u, e, _, _, h0⟩ := h.so t (by simp [ht])
    obtain rfl : t = u := by omega
    exact h0) (bf m) (hbf m hm) hle
  have hcn : ∀ t, t < M → gI ((bf m).foldl decE (lf, st)).1 t = (((nx t).filter fun z => gB (en.set m false) z.toNat).length : Int) := fun t ht => by
    have := filter_less hml hen (nx t) fun z hz => by obtain ⟨u, e, _⟩ := hnx t ht z hz; exact ⟨u, e⟩
    rw [a1 t ht, h.cn t ht, hct t m ht hm]
    omega
  have hm0 : (nx m).filter (fun z => gB en z.toNat) = [] := by
    have := h.cn m hm
    rw [hlm] at this
    exact List.eq_nil_of_length_eq_zero (by omega)
  have hz : ∀ z ∈ nx m, ∃ t : Nat, z = t ∧ t ∈ D := fun z hz => by
    obtain ⟨u, rfl, hu⟩ := hnx m hm z hz
    refine ⟨u, rfl, (h.dd u hu).1 ?_⟩
    have := List.filter_eq_nil_iff.1 hm0 _ hz
    simpa using this
  have hst : ∀ x ∈ ((bf m).foldl decE (lf, st)).2, ∃ t : Nat, x = t ∧ t < M := decEs_ok (M := M) (bf m) (lf, st) (fun x hx => by
    obtain ⟨u, e, hu, _⟩ := h.so x (by simp [hx])
    exact ⟨u, e, hu⟩) (hbf m hm)
  refine ⟨⟨by simp [h.le], (decEs_len (bf m) _).1.trans h.ll, a2, fun x hx => ?_, List.nodup_cons.2 ⟨hmD, h.dn⟩, fun t ht => ?_, fun t ht => ?_, ⟨hz, h.od⟩, hcn, fun t ht he h0 => ?_⟩, hen, hm, hmD⟩
  · obtain ⟨t, rfl, ht⟩ := hst x hx
    refine ⟨t, rfl, ht, ?_, ?_⟩
    · rw [gB_set hml]
      rcases (a3 t ht).1 hx with h1 | h1
      · have htm : t ≠ m := fun e => hnd.1 (e ▸ h1)
        rw [if_neg htm]
        obtain ⟨u, e, _, h2, _⟩ := h.so t (by simp [h1])
        obtain rfl : t = u := by omega
        exact h2
      · have htm : t ≠ m := fun e => by rw [e, hlm] at h1; omega
        rw [if_neg htm]
        cases hb : gB en t
        · have hd := (h.dd t ht).1 hb
          exfalso
          have hf : (nx t).filter (fun z => gB en z.toNat) = [] := by
            rw [List.filter_eq_nil_iff]
            intro z hz
            obtain ⟨u, rfl, hu⟩ := h.od.next t hd z hz
            rw [Int.toNat_natCast, (h.dd u (h.dm u hu)).2 hu]
            simp
          have := h.cn t ht
          rw [hf] at this
          simp at this
          omega
        · rfl
    · rcases (a3 t ht).1 hx with h1 | h1
      · obtain ⟨u, e, _, _, h2⟩ := h.so t (by simp [h1])
        obtain rfl : t = u := by omega
        have := hle t ht
        rw [a1 t ht]; omega
      · rw [a1 t ht]; omega
  · rw [gB_set hml, List.mem_cons]
    by_cases e : t = m
    · subst e; simp
    · rw [if_neg e, h.dd t ht]; simp [e]
  · rcases List.mem_cons.1 ht with rfl | ht
    · exact hm
    · exact h.dm t ht
  · rw [gB_set hml] at he
    by_cases e : t = m
    · subst e; simp at he
    · rw [if_neg e] at he
      rw [a3 t ht]
      rw [a1 t ht] at h0
      by_cases h1 : gI lf t = 0
      · have := h.ze t ht he h1
        rcases List.mem_cons.1 this with h2 | h2
        · omega
        · exact .inl h2
      · have := hle t ht
        exact .inr ⟨by omega, by omega⟩
/-- what is left -/
structure Fin2 (M : Nat) (nx : Nat → List Int) (res : List Bool) : Prop where
  len : res.length = M
  yes : ∀ t, t < M → gB res t = true → ∃ u : Nat, (u : Int) ∈ nx t ∧ gB res u = true
  no : ∀ t, t < M → gB res t = false → ∀ z ∈ nx t, gB res z.toNat = false
  way : ∀ (l : List Nat) (m : Nat), m < M → gB res m = false → (∀ i (hi : i < l.length), ((l[i] : Nat) : Int) ∈ nx ((m :: l)[i]'(by simp; omega))) → l.length + 1 ≤ M
theorem nodup_le' {M : Nat} : ∀ {Q : List Nat}, Q.Nodup → (∀ u ∈ Q, u < M) → Q.length ≤ M := by
  intro Q h1 h2
  have := h1.length_le_of_subset (l₂ := List.range M) fun u hu => List.mem_range.2 (h2 u hu)
  simpa using this
theorem endl_ends {M : Nat} {nx bf : Nat → List Int} (hnx : ∀ t, t < M → (nx t).length ≤ 1000000 ∧ ∀ z ∈ nx t, ∃ u : Nat, z = u ∧ u < M) (hbf : ∀ t, t < M → ∀ z ∈ bf t, ∃ u : Nat, z = u ∧ u < M)
    (hct : ∀ b t, b < M → t < M → (bf t).count (b : Int) = (nx b).count (t : Int)) (hM : M ≤ 1000000) :
    ∀ (n : Nat) (en : List Bool) (lf st : List Int) (D : List Nat), M - D.length ≤ n → EI M nx en lf st D → ∃ res, endl bf (n + 1) en lf st = some res ∧ Fin2 M nx res := by
  intro n
  have fin : ∀ (en : List Bool) (lf : List Int) (D : List Nat), EI M nx en lf [] D → Fin2 M nx en := fun en lf D h => by
    refine ⟨h.le, fun t ht he => ?_, fun t ht he z hz => ?_, fun l m hm he hl => ?_⟩
    · have h1 : gI lf t ≠ 0 := fun h0 => by have := h.ze t ht he h0; cases this
      rw [h.cn t ht] at h1
      cases hf : (nx t).filter (fun z => gB en z.toNat) with
      | nil => rw [hf] at h1; simp at h1
      | cons z r =>
        have hz : z ∈ (nx t).filter (fun z => gB en z.toNat) := by rw [hf]; simp
        obtain ⟨h2, h3⟩ := List.mem_filter.1 hz
        obtain ⟨u, rfl, _⟩ := (hnx t ht).2 z h2
        exact ⟨u, h2, by simpa using h3⟩
    · obtain ⟨u, rfl, hu⟩ := h.od.next t ((h.dd t ht).1 he) z hz
      rw [Int.toNat_natCast]
      exact (h.dd u (h.dm u hu)).2 hu
    · exact Nat.le_trans (h.od.way l m ((h.dd m hm).1 he) hl) (nodup_le' h.dn h.dm)
  induction n with
  | zero =>
    intro en lf st D hD h
    cases st with
    | nil => exact ⟨en, by simp [endl], fin en lf D h⟩
    | cons x st =>
      obtain ⟨m, rfl, _⟩ := h.so x (by simp)
      obtain ⟨h1, _, hm, hmD⟩ := h.step (fun t ht => (hnx t ht).2) hbf hct
      have := nodup_le' h1.dn h1.dm
      simp only [List.length_cons] at this
      omega
  | succ n ih =>
    intro en lf st D hD h
    cases st with
    | nil => exact ⟨en, by simp [endl], fin en lf D h⟩
    | cons x st =>
      obtain ⟨m, rfl, _⟩ := h.so x (by simp)
      obtain ⟨h1, hen, hm, hmD⟩ := h.step (fun t ht => (hnx t ht).2) hbf hct
      have hdl := nodup_le' h1.dn h1.dm
      simp only [List.length_cons] at hdl
      have hsl : st.length ≤ 1000000 := by
        have h2 := (List.nodup_cons.1 h.sn).2
        have h3 : (st.map Int.toNat).Nodup := by
          unfold List.Nodup at h2 ⊢
          rw [List.pairwise_map]
          refine h2.imp_of_mem fun {a b} ha hb hab e => hab ?_
          obtain ⟨t, rfl, _⟩ := h.so a (by simp [ha])
          obtain ⟨u, rfl, _⟩ := h.so b (by simp [hb])
          have e' : t = u := by simpa using e
          rw [e']
        have h4 := nodup_le' (M := M) h3 fun u hu => by
          obtain ⟨y, hy, rfl⟩ := List.mem_map.1 hu
          obtain ⟨t, rfl, ht, _⟩ := h.so y (by simp [hy])
          simpa using ht
        simp at h4
        omega
      have hlf : lf.all (fun x => decide (-1000000 ≤ x ∧ x ≤ 1000000)) = true := by
        rw [List.all_eq_true]
        intro y hy
        obtain ⟨t, ht, rfl⟩ := List.getElem_of_mem hy
        have h5 := h.cn t (by rw [← h.ll]; exact ht)
        unfold gI at h5
        rw [List.getD_eq_getElem?_getD, List.getElem?_eq_getElem ht, Option.getD_some] at h5
        have h6 := List.length_filter_le (fun z => gB en z.toNat) (nx t)
        have h7 := (hnx t (by rw [← h.ll]; exact ht)).1
        rw [decide_eq_true_iff]; omega
      rw [endl, if_neg]
      · simp only [Int.toNat_natCast]
        exact ih _ _ _ (m :: D) (by simp only [List.length_cons]; omega) h1
      · rintro (h8 | h8 | h8)
        · rw [Int.toNat_natCast] at h8
          have : gB en m = false := h8
          rw [hen] at this; cases this
        · omega
        · rw [hlf] at h8; cases h8
end Go.Proofs.YtcpanfpijljeaaaGreat
namespace Go.Proofs.YtcpanfpijljeaaaGreat
set_option linter.unusedVariables false
set_option linter.unusedSimpArgs false
open Go.RowKit

section
variable {w w' wr : World} {b B S g c : Nat} {v : Value} {en : List Bool} {lf q : List Int}
theorem BRow.setB (h : BRow w b en) (i : Nat) (x : Bool) : BRow (w.setCell ⟨b, i, none⟩ (.bool x)) b (en.set i x) := by
  unfold BRow
  rw [heap_set_same _ h]
  simp [List.map_set]
theorem BRow.of (h : BRow w b en) (e : w'.heap[b]? = w.heap[b]?) : BRow w' b en := e.trans h
theorem BRow.fro (h : BRow w b en) (j : Nat) : w.frozen? ⟨b, j, none⟩ = false := by
  unfold BRow at h
  simp [World.frozen?, h]
/-- the two rows of 'endless', and the slice of ends -/
structure ER (w wr : World) (S : Nat) (v : Value) (en : List Bool) (lf q : List Int) : Prop where
  b : BRow wr S en
  i : IRow wr (S + 1) lf
  o : Own wr (S + 2) 3 1 fI v q
  be : Below S w wr
theorem ER.sz (h : ER w wr S v en lf q) : S + 2 ≤ wr.heap.size := h.i.lt
theorem ER.setB (h : ER w wr S v en lf q) (k : Nat) (x : Bool) : ER w (wr.setCell ⟨S, k, none⟩ (.bool x)) S v (en.set k x) lf q :=
  ⟨h.b.setB k x, h.i.other _ (by simp), h.o.of_blocks fun m hm => Below.heap_setCell _ _ _ _ (by have := (h.o.lt m hm).1; simp; omega), h.be.setCell (p := ⟨S, k, none⟩) (Nat.le_refl _) _⟩
theorem ER.setI (h : ER w wr S v en lf q) (k : Nat) (x : Int) : ER w (wr.setCell ⟨S + 1, k, none⟩ (.int .i64 x)) S v en (lf.set k x) q :=
  ⟨h.b.of (Below.heap_setCell _ _ _ _ (by simp)), h.i.set k x, h.o.of_blocks fun m hm => Below.heap_setCell _ _ _ _ (by have := (h.o.lt m hm).1; simp; omega), h.be.setCell (p := ⟨S + 1, k, none⟩) (by simp) _⟩
theorem ER.alloc (h : ER w wr S v en lf q) (o : Obj) : ER w (wr.alloc o) S v en lf q :=
  ⟨h.b.of (Below.heap_alloc wr o S h.b.lt), h.i.alloc o, h.o.alloc o, h.be.alloc (by have := h.sz; omega) o⟩
theorem ER.app {v2 : Value} {w2 : World} {q2 : List Int} (h : ER w wr S v en lf q) (ho : Own w2 (S + 2) 3 1 fI v2 q2) (hg : wr.grownBy w2 v.ownBlock) : ER w w2 S v2 en lf q2 := by
  have hb : Below (S + 2) wr w2 := (Below.refl _ _).grown hg h.sz fun k hk => (h.o.lt k hk).1
  exact ⟨h.b.below hb (by omega), h.i.below hb (by omega), ho, h.be.trans (hb.mono (by omega))⟩
theorem Own.last {base : Nat} {r : List Int} {x : Int} (h : Own w base 3 1 fI v (r ++ [x])) :
    ∃ g c, v = .slice (some ⟨g, 0, none⟩) (r.length + 1) c ∧ base ≤ g ∧ w.cell? ⟨g, r.length, none⟩ = some (.int .i64 x) ∧ Own w base 3 1 fI (.slice (some ⟨g, 0, none⟩) r.length c) r ∧ r.length + 1 ≤ c ∧ c ≤ maxLen ∧ g < w.heap.size := by
  have hl : (r ++ [x]).length = r.length + 1 := by simp
  rcases h.2 with ⟨_, h0⟩ | ⟨g, cap, cur, rfl, hb, hg, hn, hm, hs, ht⟩
  · omega
  · refine ⟨g, cap, by rw [hl], hb, ?_, ⟨flat_len fI_len r, .inr ⟨g, cap, cur, rfl, hb, hg, by omega, hm, hs, ?_⟩⟩, by omega, hm, (Array.getElem?_eq_some_iff.1 hg).1⟩
    · have hsl := (fI_CI (h.sl fI_len rfl))
      obtain ⟨b2, o2, e2, _, hc⟩ := int_at hsl (i := r.length) (by simp)
      obtain ⟨rfl, rfl⟩ : g = b2 ∧ 0 = o2 := by simpa using e2
      simpa using hc
    · rw [List.flatMap_append] at ht
      have h2 : (r.flatMap fI).length = r.length * 1 := flat_len fI_len r
      have h3 := congrArg (List.take (r.length * 1)) ht
      rw [List.take_take, Nat.min_eq_left (by omega), List.take_left' h2] at h3
      exact h3
end
/-- how many bools in a block are true -/
def tru (w : World) (S : Nat) : Nat := match w.heap[S]? with
  | some (.cells cs _ _) => (cs.toList.filter fun v => match v with | .bool true => true | _ => false).length
  | _ => 0
theorem tru_is {w : World} {S : Nat} {en : List Bool} (h : BRow w S en) : tru w S = (en.filter id).length := by
  unfold tru
  unfold BRow at h
  rw [h]
  simp only
  clear h
  induction en with
  | nil => rfl
  | cons b l ih =>
    simp only [List.map_cons, List.filter_cons] at ih ⊢
    cases b
    · simpa using ih
    · simpa using ih
theorem tru_less {en : List Bool} {m : Nat} (hm : en.getD m false = true) : ((en.set m false).filter id).length < (en.filter id).length := by
  induction en generalizing m with
  | nil => simp at hm
  | cons b l ih =>
    cases m with
    | zero =>
      obtain rfl : b = true := by simpa using hm
      simp
    | succ m =>
      have := ih (m := m) (by simpa using hm)
      simp only [List.set_cons_succ, List.filter_cons]
      split
      · simp only [List.length_cons]; omega
      · exact this

def trL (M k : Nat) : List Bool := List.replicate k true ++ List.replicate (M - k) false
def lfL (p : Pl) (M k : Nat) : List Int := ((List.range k).map fun t => ((nextL p t).length : Int)) ++ List.replicate (M - k) 0
def endsL (p : Pl) (k : Nat) : List Int := ((List.range k).filter fun t => decide ((nextL p t).length = 0)).map fun t : Nat => (t : Int)
theorem trL_len {M k : Nat} (h : k ≤ M) : (trL M k).length = M := by simp [trL]; omega
theorem lfL_len {p : Pl} {M k : Nat} (h : k ≤ M) : (lfL p M k).length = M := by simp [lfL]; omega
theorem trL_set {M k : Nat} (h : k < M) : (trL M k).set k true = trL M (k + 1) := by
  unfold trL
  rw [List.set_append_right _ _ (by simp), List.length_replicate, Nat.sub_self, show M - k = (M - (k + 1)) + 1 by omega, List.replicate_succ, List.set_cons_zero, List.replicate_succ', List.append_assoc]
  rfl
theorem lfL_set {p : Pl} {M k : Nat} (h : k < M) : (lfL p M k).set k ((nextL p k).length : Int) = lfL p M (k + 1) := by
  unfold lfL
  rw [List.set_append_right _ _ (by simp)]
  simp only [List.length_map, List.length_range, Nat.sub_self]
  rw [show M - k = (M - (k + 1)) + 1 by omega, List.replicate_succ, List.set_cons_zero, List.range_succ, List.map_append, List.append_assoc]
  rfl
theorem endsL_len (p : Pl) (k : Nat) : (endsL p k).length ≤ k := by
  unfold endsL
  rw [List.length_map]
  have := List.length_filter_le (fun t => decide ((nextL p t).length = 0)) (List.range k)
  simpa using this
theorem endsL_yes {p : Pl} {k : Nat} (h : (nextL p k).length = 0) : endsL p (k + 1) = endsL p k ++ [(k : Int)] := by
  unfold endsL
  rw [List.range_succ, List.filter_append, List.map_append, List.filter_cons, if_pos (by rw [h]; rfl)]
  rfl
theorem endsL_no {p : Pl} {k : Nat} (h : ¬ (nextL p k).length = 0) : endsL p (k + 1) = endsL p k := by
  unfold endsL
  rw [List.range_succ, List.filter_append, List.map_append, List.filter_cons, if_neg (by simpa using h)]
  simp
def EndPost (M : Nat) (res : List Bool) (w : World) (e : Ending) (w' : World) : Prop :=
  (∃ rb, e = .returned (.slice (some ⟨rb, 0, none⟩) M M) ∧ BRow w' rb res ∧ w.heap.size ≤ rb) ∧ Below w.heap.size w w'

set_option maxRecDepth 100000 in
set_option maxHeartbeats 4000000 in
theorem endless_any (B g n M : Nat) (res : List Bool) (p : Pl) (w : World) (hM : 2 * p.rails.length = M) (h : Nw w B g p) (hB : B ≤ w.heap.size)
    (hs : endl (befL p M) n (List.replicate M true) (lfL p M M) (endsL p M).reverse = some res) :
    Calls Tryz.prog 61 #[.pointer (some ⟨g, 0, none⟩)] w (EndPost M res w) := by
  have hsz := h.sizes
  have hgB := h.gB
  obtain ⟨A1, c1, A2, c2, lb, sb, nb, bb, hN, x1, x2, x3, x4, x5, x6⟩ := h.net
  obtain ⟨_, _, k2, _, k4, k5⟩ := hN.cell
  rw [hM] at k4 k5 x5 x6
  have hM8 : M ≤ 800 := by omega
  have hM8' : (M : Int) ≤ 800 := by omega
  obtain ⟨i0, hi, hz0, hz1, hz2⟩ := info_parts inf3
  have hmk : ∀ W : World, (Instr.makeSlice 50 (.int .i64 (M : Int)) (.int .i64 (M : Int))).run Tryz.prog W = .ok (.slice (some ⟨W.heap.size, 0, none⟩) M M) (W.alloc (.cells (madeCells #[.int .i64 0] M) 3)) := fun W => by
    have := run_mk (P := Tryz.prog) 50 3 i0 _ 1 Tryz.underlying50 hi hz0 hz1 (M : Int) (M : Int) M M rfl rfl (by omega) (by rw [hz2]; omega) (by omega) W
    rw [this, Nat.mul_one]; rfl
  obtain ⟨i1, hi1, hy0, hy1, hy2⟩ := info_parts inf4
  have hmb : ∀ W : World, (Instr.makeSlice 57 (.int .i64 (M : Int)) (.int .i64 (M : Int))).run Tryz.prog W = .ok (.slice (some ⟨W.heap.size, 0, none⟩) M M) (W.alloc (.cells (madeCells #[.bool false] M) 4)) := fun W => by
    have := run_mk (P := Tryz.prog) 57 4 i1 _ 1 Tryz.underlying57 hi1 hy0 hy1 (M : Int) (M : Int) M M rfl rfl (by omega) (by rw [hy2]; omega) (by omega) W
    rw [this, Nat.mul_one]; rfl
  have HN5 := Lib.hid x5; have HN6 := Lib.hid x6
  have HS := Lib.hid hs
  have hgl : g < w.heap.size := by omega
  have c0 := fun i => cell_keep1 (w := w) (b := g) (i := i) (o := .cells (madeCells #[.bool false] M) 4) rfl hgl
  have HE0 := Lib.hid (show ER w ((w.alloc (.cells (madeCells #[.bool false] M) 4)).alloc (.cells (madeCells #[.int .i64 0] M) 3)) w.heap.size (.slice none 0 0) (trL M 0) (lfL p M 0) (endsL p 0) from by
    have hb1 := BRow.made w M
    have hi1 := IRow.made (w.alloc (.cells (madeCells #[.bool false] M) 4)) M
    rw [show (w.alloc (.cells (madeCells #[.bool false] M) 4)).heap.size = w.heap.size + 1 by simp] at hi1
    refine ⟨?_, ?_, Own.nil _ _ _ _ _, ((Below.refl _ w).alloc (Nat.le_refl _) _).alloc (by simp) _⟩
    · have := hb1.of (Below.heap_alloc _ (.cells (madeCells #[.int .i64 0] M) 3) _ hb1.lt)
      simpa [trL] using this
    · simpa [lfL] using hi1)
  have HK4 := Lib.hid k4; have HK5 := Lib.hid k5
  clear h hN x3 x4 x5 x6 hs
  go_enter Tryz.func61, Tryz.ntmps61
  go_wp2
  clear hmk hmb
  generalize ((w.alloc (.cells (madeCells #[.bool false] M) 4)).alloc (.cells (madeCells #[.int .i64 0] M) 3)) = W2 at *
  go_loopw [5, 28] (fun v i wr => ∃ k : Nat, k ≤ M ∧ i = .int .i64 (k : Int) ∧ ER w wr w.heap.size v (trL M k) (lfL p M k) (endsL p k)) (fun _ i _ => M - (intOf i).toNat)
  case atStart => exact ⟨0, by omega, rfl, HE0.out⟩
  case round =>
    obtain ⟨k, hk, rfl, her⟩ := hrel
    have HER := Lib.hid her
    have hszr := her.sz
    have hk4 := (HER.out.be.cell (p := ⟨g, 4, none⟩) hgl).trans HK4.out
    clear her
    by_cases hlt : k < M
    · obtain ⟨An, cn, n1, n2, n3, n4⟩ := HN5.out.2 k hlt
      have hnl := nextL_len p k
      have e1 := (HER.out.be.cell (p := ⟨nb, k, none⟩) (by have := HN5.out.1; simp; omega)).trans n1
      obtain ⟨f1, hf1⟩ : ∃ x, (nextL p k).length = x := ⟨_, rfl⟩
      have HL1 := Lib.hid (show (lfL p M k).set k (f1 : Int) = lfL p M (k + 1) by rw [← hf1]; exact lfL_set hlt)
      have HL2 := Lib.hid (show (trL M k).set k true = trL M (k + 1) from trL_set hlt)
      rw [hf1] at e1 hnl n2
      have r0 := HER.out.b.cell (i := k) (by rw [trL_len hk]; exact hlt)
      have r1 := HER.out.b.fro k
      have r2 := HER.out.i.cell (i := k) (by rw [lfL_len hk]; exact hlt)
      have r3 := HER.out.i.frozen k
      obtain ⟨u0, hu0⟩ : ∃ x, (trL M k)[k]'(by rw [trL_len hk]; exact hlt) = x := ⟨_, rfl⟩
      obtain ⟨u1, hu1⟩ : ∃ x, (lfL p M k)[k]'(by rw [lfL_len hk]; exact hlt) = x := ⟨_, rfl⟩
      rw [hu0] at r0
      rw [hu1] at r2
      have hk0 : (0 : Int) ≤ (k : Int) := by omega
      have hk1 : (k : Int) < (M : Int) := by omega
      have HEB := Lib.hid ((HER.out.setB k true).setI k (f1 : Int))
      have HF1 := Lib.hid hf1
      clear n1 n4 hu0 hu1 hf1
      by_cases hz : f1 = 0
      · subst hz
        have HEL := Lib.hid (endsL_yes HF1.out)
        have hel := endsL_len p k
        have hszr2 : w.heap.size + 2 ≤ wr.heap.size := hszr
        go_upto_region 9 with (fail)
        obtain ⟨W3, hW3⟩ : ∃ W3, (wr.setCell ⟨w.heap.size, k, none⟩ (.bool true)).setCell ⟨w.heap.size + 1, k, none⟩ (.int .i64 ((0 : Nat) : Int)) = W3 := ⟨_, rfl⟩
        rw [hW3] at HEB
        simp only [Int.natCast_zero, Int.cast_ofNat_Int] at hW3
        rw [hW3]
        have hsz3 := HEB.out.sz
        clear hW3 r0 r1 r2 r3 e1
        go_wp2_with (at_builtin; go_must (refine wpList_app _ rfl (.tmp 44) (.tmp 46) _ rfl (w.heap.size + 2) 3 i0 _ 1 8 Tryz.underlying50 hi hz0 hz1 hz2 rfl (by omega) fI_len fI_one u5 _ rfl (HEB.out.o.alloc _) _ _ [(k : Int)] 1 rfl (Sl.new _ _ (k : Int) _ rfl) (by unfold maxLen; simp only [List.length_cons, List.length_nil]; omega) (by simp only [List.length_cons, List.length_nil]; omega) (by simp; omega) (fun _ => .inr ⟨_, rfl⟩) ?_); intro v2 w2 o2 gr2 at2 ne2)
        go_roundw
        case rel => exact ⟨k + 1, by omega, by go_num, by rw [← HL1.out, ← HL2.out, HEL.out]; exact (HEB.out.alloc _).app o2 gr2⟩
        case measure => simp [intOf]; omega
      · have HEL := Lib.hid (endsL_no (p := p) (k := k) (by rw [HF1.out]; exact hz))
        have d1 : ((f1 : Int) == 0) = false := by simp; omega
        have d2 : ¬ (f1 : Int) = 0 := by omega
        go_wp2
        go_roundw
        case rel => exact ⟨k + 1, by omega, by go_num, by rw [← HL1.out, ← HL2.out, HEL.out]; exact HEB.out⟩
        case measure => simp [intOf]; omega
    · obtain rfl : M = k := by omega
      have HE1 := Lib.hid (show ER w wr w.heap.size u5 (List.replicate M true) (lfL p M M) (endsL p M) by have := HER.out; rwa [show trL M M = List.replicate M true by simp [trL]] at this)
      clear HER HE0 hk4
      go_wp2
      obtain ⟨wa, hwa⟩ : ∃ x, wr = x := ⟨_, rfl⟩
      subst hwa
      go_loopw [5] (fun v wr2 => ∃ (en : List Bool) (lf q : List Int) (n' : Nat), ER w wr2 w.heap.size v en lf q ∧ en.length = M ∧ lf.length = M ∧ (∀ x ∈ q, ∃ t : Nat, x = t ∧ t < M) ∧ endl (befL p M) n' en lf q.reverse = some res) (fun _ wr2 => tru wr2 w.heap.size)
      case atStart => exact ⟨_, _, _, n, HE1.out, by simp, lfL_len (Nat.le_refl _), (fun x hx => by
        unfold endsL at hx
        obtain ⟨t, ht, rfl⟩ := List.mem_map.1 hx
        exact ⟨t, rfl, by have := (List.mem_filter.1 ht).1; simpa using this⟩), HS.out⟩
      case round =>
        obtain ⟨en, lf, q, n', her2, hen, hlf, hq, hend⟩ := hrel
        rcases List.eq_nil_or_concat q with rfl | ⟨r, x, rfl⟩
        · obtain ⟨Av, cv, rfl, _, _, _⟩ := her2.o.form
          have HQ := Lib.hid (show en = res by
            cases n' with
            | zero => simp [endl] at hend
            | succ n' => simpa [endl] using hend)
          have HER2 := Lib.hid her2
          clear her2 hend hq HE1 hen hlf
          go_wp2
          go_ret
          exact ⟨⟨w.heap.size, rfl, by rw [← HQ.out]; exact HER2.out.b, Nat.le_refl _⟩, HER2.out.be⟩
        · rw [List.concat_eq_append] at her2 hq hend
          obtain ⟨m, rfl, hm⟩ := hq x (by simp)
          have hend' : endl (befL p M) n' en lf ((m : Int) :: r.reverse) = some res := by simpa using hend
          cases n' with
          | zero => simp [endl] at hend'
          | succ n' =>
          rw [endl] at hend'
          split at hend'
          · cases hend'
          rename_i hbad
          simp only [not_or] at hbad
          obtain ⟨hb1, hb2, hb3⟩ := hbad
          rw [Int.toNat_natCast] at hb1 hend'
          have hem : en.getD m false = true := by simpa using hb1
          have hrl : r.length ≤ 1000000 := by simp at hb2; omega
          have HLB := Lib.hid (show ∀ y ∈ lf, -1000000 ≤ y ∧ y ≤ 1000000 by
            have h1 : lf.all (fun x => decide (-1000000 ≤ x ∧ x ≤ 1000000)) = true := by simpa using hb3
            intro y hy
            exact of_decide_eq_true (List.all_eq_true.1 h1 y hy))
          obtain ⟨gq, cq, rfl, hgq, hcell, hown, hqc, hqm, hgl2⟩ := her2.o.last
          obtain ⟨Ab, cb, m0, m1, m2, m3⟩ := HN6.out.2 m hm
          have hLl : (befL p M m).length ≤ 1600 := by have := befL_len p m M; omega
          have HLO := Lib.hid (show ∀ y ∈ befL p M m, ∃ t : Nat, y = t ∧ t < M from befL_bd)
          obtain ⟨L, hL⟩ : ∃ L, befL p M m = L := ⟨_, rfl⟩
          rw [hL] at m0 m1 m3 hLl HLO hend'
          have HM3 := Lib.hid m3
          have HRO := Lib.hid (show ∀ y ∈ r, ∃ t : Nat, y = t ∧ t < M from fun y hy => hq y (by simp [hy]))
          have HER2 := Lib.hid (show ER w wr w.heap.size (.slice (some ⟨gq, 0, none⟩) r.length cq) en lf r from ⟨her2.b, her2.i, hown, her2.be⟩)
          have HER3 := Lib.hid (HER2.out.setB m false)
          have HTR := Lib.hid (show ∀ wx : World, BRow wx w.heap.size (en.set m false) → tru wx w.heap.size < tru wr w.heap.size from fun wx hx => by
            rw [tru_is hx, tru_is HER2.out.b]; exact tru_less hem)
          have HEN := Lib.hid hend'; have HLE := Lib.hid hen; have HLF := Lib.hid hlf
          have r0 := HER2.out.b.cell (i := m) (by omega)
          have r1 := HER2.out.b.fro m
          obtain ⟨u0, hu0⟩ : ∃ x, en[m]'(by omega) = x := ⟨_, rfl⟩
          rw [hu0] at r0
          obtain ⟨N, hN⟩ : ∃ x, r.length = x := ⟨_, rfl⟩
          have HNN := Lib.hid hN
          rw [hN] at hcell hqc hrl HER2 HER3 ⊢
          have hN0 : (0 : Int) ≤ (N : Int) := by omega
          have hN1 : (N : Int) < (N : Int) + 1 := by omega
          have hN2 : (0 : Int) < (N : Int) + 1 := by omega
          have hNc : (N : Int) ≤ (cq : Int) := by omega
          have hcm : (cq : Int) ≤ 9223372036854775807 := by unfold maxLen at hqm; omega
          have hwr1 : IntKind.i64.wrap ((N : Int) + 1 - 1) = (N : Int) := by rw [IntKind.wrap_i64]; omega
          have hwr2 : IntKind.i64.wrap (N : Int) = (N : Int) := by rw [IntKind.wrap_i64]; omega
          have hm0 : (0 : Int) ≤ (m : Int) := by omega
          have hm1 : (m : Int) < (M : Int) := by omega
          have hmb0 : bb < w.heap.size := by have := HN6.out.1; omega
          clear her2 hend hend' hb1 hb2 hb3 hem hown hq hu0 hL m3 hN hqm HE1 hen hlf
          go_upto_region 15 with (fail)
          obtain ⟨W3, hW3⟩ : ∃ W3, wr.setCell ⟨w.heap.size, m, none⟩ (.bool false) = W3 := ⟨_, rfl⟩
          rw [hW3] at HER3 ⊢
          have q0 := (HER3.out.be.cell (p := ⟨g, 5, none⟩) hgl).trans HK5.out
          have q1 := (HER3.out.be.cell (p := ⟨bb, m, none⟩) hmb0).trans m0
          clear hW3 r0 r1 hcell hwr1 hwr2 HER2 m0 hN1 hN2 hNc hcm
          go_wp2
          obtain ⟨wb, hwb⟩ : ∃ x, wr = x := ⟨_, rfl⟩
          rw [hwb] at HTR
          go_loopw [5, 74] (fun v j wr3 => ∃ k2 : Nat, k2 ≤ L.length ∧ j = .int .i64 (k2 : Int) ∧ ER w wr3 w.heap.size v (en.set m false) ((L.take k2).foldl decE (lf, r.reverse)).1 ((L.take k2).foldl decE (lf, r.reverse)).2.reverse) (fun _ j _ => L.length - (intOf j).toNat)
          case atStart => exact ⟨0, Nat.zero_le _, rfl, by have := HER3.out; simpa using this⟩
          case round =>
            obtain ⟨k2, hk2, rfl, her4⟩ := hrel
            have HER4 := Lib.hid her4
            have hsz4 := her4.sz
            clear her4
            by_cases hlt2 : k2 < L.length
            · obtain ⟨t, hLt, htM⟩ := HLO.out L[k2] (List.getElem_mem hlt2)
              obtain ⟨b3, o3, rfl, g3, q3⟩ := int_at HM3.out hlt2
              have q4 := (HER4.out.be.cell (p := ⟨b3, o3 + k2, none⟩) (by simp; omega)).trans q3
              rw [hLt] at q4
              have hstep := foldl_take decE (lf, r.reverse) L hlt2
              rw [hLt] at hstep
              have hbd := decEs_bd (u := 1000000) (L.take k2) (lf, r.reverse) (-1000000) (by omega) (by omega) HLB.out
              have hsl := decEs_len (L.take k2) (lf, r.reverse)
              simp only [List.length_take, List.length_reverse] at hbd hsl
              obtain ⟨s, hs⟩ : ∃ s, (L.take k2).foldl decE (lf, r.reverse) = s := ⟨_, rfl⟩
              rw [hs] at hstep hbd hsl HER4
              have hlfl := HLF.out
              have htl : t < s.1.length := by rw [hsl.1, hlfl]; exact htM
              obtain ⟨X, hX⟩ : ∃ x, s.1[t] = x := ⟨_, rfl⟩
              have hXb := hbd X (by rw [← hX]; exact List.getElem_mem htl)
              have hgd : s.1.getD t 0 = X := by rw [List.getD_eq_getElem?_getD, List.getElem?_eq_getElem htl, Option.getD_some, hX]
              have HST := Lib.hid (show (L.take (k2 + 1)).foldl decE (lf, r.reverse) = (s.1.set t (X - 1), if X - 1 = 0 then (t : Int) :: s.2 else s.2) by rw [hstep]; unfold decE; simp only [Int.toNat_natCast, hgd])
              have r2 := HER4.out.i.cell htl
              have r3 := HER4.out.i.frozen t
              rw [hX] at r2
              have hs2 : s.2.length ≤ 1002000 := by have := hsl.2; have := HNN.out; omega
              have hX0 : -1002000 ≤ X := by omega
              have hX1 : X ≤ 1000000 := hXb.2
              have ht0 : (0 : Int) ≤ (t : Int) := by omega
              have ht1 : (t : Int) < (M : Int) := by omega
              have hj0 : (0 : Int) ≤ (k2 : Int) := by omega
              have hj1 : (k2 : Int) < (L.length : Int) := by omega
              have HER5 := Lib.hid (HER4.out.setI t (X - 1))
              clear hstep hbd hsl hs hX hgd hlfl htl q3 hXb hLt q0 q1
              by_cases hz : X = 1
              · subst hz
                have HST1 := Lib.hid (show (L.take (k2 + 1)).foldl decE (lf, r.reverse) = (s.1.set t 0, (t : Int) :: s.2) by rw [HST.out]; simp)
                simp only [Int.sub_self] at HER5
                have hs3 : s.2.reverse.length ≤ 1002000 := by simpa using hs2
                clear HST hX0 hX1
                go_upto_region 20 with (fail)
                obtain ⟨W4, hW4⟩ : ∃ W4, wr.setCell ⟨w.heap.size + 1, t, none⟩ (.int .i64 0) = W4 := ⟨_, rfl⟩
                rw [hW4] at HER5 ⊢
                have hsz5 := HER5.out.sz
                clear hW4 r2 r3 q4
                go_wp2_with (at_builtin; go_must (refine wpList_app _ rfl (.tmp 89) (.tmp 91) _ rfl (w.heap.size + 2) 3 i0 _ 1 8 Tryz.underlying50 hi hz0 hz1 hz2 rfl (by omega) fI_len fI_one u5 _ rfl (HER5.out.o.alloc _) _ _ [(t : Int)] 1 rfl (Sl.new _ _ (t : Int) _ rfl) (by unfold maxLen; simp only [List.length_cons, List.length_nil]; omega) (by simp only [List.length_cons, List.length_nil]; omega) (by simp; omega) (fun _ => .inr ⟨_, rfl⟩) ?_); intro v2 w2 o2 gr2 at2 ne2)
                go_roundw
                case rel => exact ⟨k2 + 1, by omega, by go_num, by rw [HST1.out]; simp only [List.reverse_cons]; exact (HER5.out.alloc _).app o2 gr2⟩
                case measure => simp [intOf]; omega
              · have HST1 := Lib.hid (show (L.take (k2 + 1)).foldl decE (lf, r.reverse) = (s.1.set t (X - 1), s.2) by rw [HST.out, if_neg (by omega)])
                have d1 : (X - 1 == 0) = false := by simp; omega
                have d2 : ¬ X - 1 = 0 := by omega
                clear HST
                go_wp2
                go_roundw
                case rel => exact ⟨k2 + 1, by omega, by go_num, by rw [HST1.out]; exact HER5.out⟩
                case measure => simp [intOf]; omega
            · obtain rfl : k2 = L.length := by omega
              have hend2 := HEN.out
              have her5 := HER4.out
              rw [List.take_length] at her5
              have hsl := decEs_len L (lf, r.reverse)
              have hok := decEs_ok (M := M) L (lf, r.reverse) (fun x hx => HRO.out x (by simpa using hx)) HLO.out
              have HER6 := Lib.hid her5
              have HE2 := Lib.hid hend2; have HOK := Lib.hid hok; have HSL := Lib.hid hsl
              have hM2 := HTR.out wr her5.b
              clear her5 hend2 hok hsl HER4
              go_wp2
              go_roundw
              case rel => exact ⟨_, _, _, n', HER6.out, by rw [List.length_set]; exact HLE.out, by rw [HSL.out.1]; exact HLF.out, (fun x hx => HOK.out x (by simpa using hx)), by rw [List.reverse_reverse]; exact HE2.out⟩
              case measure => rw [hwb]; exact hM2
end Go.Proofs.YtcpanfpijljeaaaGreat
