/- TrackEndless returns true for every plan and every number; its arguments read afterwards as they read before. No condition. (The texts U2, U5, J1 to J8 and the law, in one.) -/
import Derived.Test.YtcpanfpijljeaaaGreatT2
import Derived.Test.YtcpanfpijljeaaaGreatW3
import Derived.Test.YtcpanfpijljeaaaGreatZ5
import Derived.ArgAppend
import Derived.Test.YtcpanfpijljeaaaGreatRows
import Derived.Test.YtcpanfpijljeaaaGreatT4
import Derived.WalkKit
import Derived.ProofKit
import Derived.Deep.OwnRows
import Derived.Deep.CondSized
import Derived.WideKeyArgs
import Derived.ReadAgain
namespace Go.Proofs.YtcpanfpijljeaaaGreat
set_option linter.unusedVariables false
set_option linter.unusedSimpArgs false

/-! partU2 -/
set_option linter.unusedVariables false
set_option linter.unusedSimpArgs false

/-- one that comes before: one move less that follows it; at the last one it is put on the stack -/
def decE (s : List Int × List Int) (b : Int) : List Int × List Int := (s.1.set b.toNat (s.1.getD b.toNat 0 - 1), if s.1.getD b.toNat 0 - 1 = 0 then b :: s.2 else s.2)
/-- moves that nothing follows are taken away, as long as there are any -/
def endl (bef : Nat → List Int) : Nat → List Bool → List Int → List Int → Option (List Bool)
  | 0, _, _, _ => none
  | _ + 1, en, _, [] => some en
  | k + 1, en, lf, m :: st =>
    if en.getD m.toNat false = false ∨ 1000000 < st.length ∨ lf.all (fun x => decide (-1000000 ≤ x ∧ x ≤ 1000000)) = false then none
    else endl bef k (en.set m.toNat false) ((bef m.toNat).foldl decE (lf, st)).1 ((bef m.toNat).foldl decE (lf, st)).2

theorem decE_len (s : List Int × List Int) (b : Int) : (decE s b).1.length = s.1.length ∧ (decE s b).2.length ≤ s.2.length + 1 := by
  unfold decE
  refine ⟨by simp, ?_⟩
  simp only
  split
  · simp
  · omega
theorem decEs_len : ∀ (L : List Int) (s : List Int × List Int), (L.foldl decE s).1.length = s.1.length ∧ (L.foldl decE s).2.length ≤ s.2.length + L.length := by
  intro L
  induction L with
  | nil => exact fun s => ⟨rfl, by simp⟩
  | cons b L ih =>
    intro s
    obtain ⟨a1, a2⟩ := ih (decE s b)
    obtain ⟨b1, b2⟩ := decE_len s b
    rw [List.foldl_cons]
    exact ⟨a1.trans b1, by simp only [List.length_cons]; omega⟩
theorem decEs_bd {u : Int} : ∀ (L : List Int) (s : List Int × List Int) (d : Int), 0 ≤ u → d ≤ 0 → (∀ x ∈ s.1, d ≤ x ∧ x ≤ u) → ∀ x ∈ (L.foldl decE s).1, d - L.length - 1 ≤ x ∧ x ≤ u := by
  intro L
  induction L with
  | nil => exact fun s d _ _ h x hx => by have := h x hx; simp at *; omega
  | cons b L ih =>
    intro s d hu hd h x hx
    rw [List.foldl_cons] at hx
    have := ih (decE s b) (d - 1) hu (by omega) (fun y hy => by
      unfold decE at hy
      simp only at hy
      rcases List.mem_or_eq_of_mem_set hy with hy | rfl
      · have := h y hy; omega
      · by_cases hl : b.toNat < s.1.length
        · have := h _ (List.getElem_mem hl)
          rw [List.getD_eq_getElem?_getD, List.getElem?_eq_getElem hl]
          simp only [Option.getD_some]; omega
        · rw [List.getD_eq_getElem?_getD, List.getElem?_eq_none (by omega)]; simp; omega) x hx
    simp only [List.length_cons]
    push_cast
    omega
theorem decEs_ok {M : Nat} : ∀ (L : List Int) (s : List Int × List Int), (∀ x ∈ s.2, ∃ t : Nat, x = t ∧ t < M) → (∀ x ∈ L, ∃ t : Nat, x = t ∧ t < M) → ∀ x ∈ (L.foldl decE s).2, ∃ t : Nat, x = t ∧ t < M := by
  intro L
  induction L with
  | nil => exact fun s h _ => h
  | cons b L ih =>
    intro s h hL
    rw [List.foldl_cons]
    refine ih _ (fun x hx => ?_) (fun x hx => hL x (by simp [hx]))
    unfold decE at hx
    simp only at hx
    split at hx
    · rcases List.mem_cons.1 hx with rfl | hx
      · exact hL _ (by simp)
      · exact h x hx
    · exact h x hx

def gI (l : List Int) (t : Nat) : Int := l.getD t 0
def gB (l : List Bool) (t : Nat) : Bool := l.getD t false
theorem gI_set {l : List Int} {k t : Nat} {x : Int} (hk : k < l.length) : gI (l.set k x) t = if t = k then x else gI l t := by
  unfold gI
  simp only [List.getD_eq_getElem?_getD]
  by_cases h : t = k
  · subst h; simp [hk]
  · rw [if_neg h, List.getElem?_set_ne (Ne.symm h)]
theorem gB_set {l : List Bool} {k t : Nat} {x : Bool} (hk : k < l.length) : gB (l.set k x) t = if t = k then x else gB l t := by
  unfold gB
  simp only [List.getD_eq_getElem?_getD]
  by_cases h : t = k
  · subst h; simp [hk]
  · rw [if_neg h, List.getElem?_set_ne (Ne.symm h)]

/-- the fold over those that come before -/
theorem decEs_is {M : Nat} (lf0 : List Int) (st0 : List Int) (hl : lf0.length = M) (hn : st0.Nodup) (hs0 : ∀ t : Nat, (t : Int) ∈ st0 → gI lf0 t = 0) :
    ∀ (L : List Int), (∀ x ∈ L, ∃ t : Nat, x = t ∧ t < M) → (∀ t : Nat, t < M → (L.count (t : Int) : Int) ≤ gI lf0 t) →
    (∀ t : Nat, t < M → gI (L.foldl decE (lf0, st0)).1 t = gI lf0 t - (L.count (t : Int) : Int)) ∧ (L.foldl decE (lf0, st0)).2.Nodup ∧
    (∀ t : Nat, t < M → ((t : Int) ∈ (L.foldl decE (lf0, st0)).2 ↔ (t : Int) ∈ st0 ∨ (0 < gI lf0 t ∧ gI lf0 t = (L.count (t : Int) : Int)))) := by
  intro L
  rcases List.eq_nil_or_concat L with rfl | ⟨r, b, rfl⟩
  · intro _ _
    exact ⟨fun t _ => by simp, hn, fun t _ => by simp; intro h1 h2; omega⟩
  · rw [List.concat_eq_append]
    intro hL hc
    have hc' : ∀ t : Nat, t < M → (r.count (t : Int) : Int) ≤ gI lf0 t := fun t ht => by
      have := hc t ht
      rw [List.count_append] at this
      omega
    obtain ⟨a1, a2, a3⟩ := decEs_is lf0 st0 hl hn hs0 r (fun x hx => hL x (by simp [hx])) hc'
    obtain ⟨k, rfl, hk⟩ := hL b (by simp)
    have hlr : (r.foldl decE (lf0, st0)).1.length = M := (decEs_len r _).1.trans hl
    have hck := hc k hk
    rw [List.count_append] at hck
    have hone : List.count (k : Int) [(k : Int)] = 1 := by simp
    rw [hone] at hck
    have hg : (r.foldl decE (lf0, st0)).1.getD k 0 = gI lf0 k - (r.count (k : Int) : Int) := a1 k hk
    rw [List.foldl_append, List.foldl_cons, List.foldl_nil]
    have hd : decE (r.foldl decE (lf0, st0)) (k : Int) = ((r.foldl decE (lf0, st0)).1.set k (gI lf0 k - (r.count (k : Int) : Int) - 1), if gI lf0 k - (r.count (k : Int) : Int) - 1 = 0 then (k : Int) :: (r.foldl decE (lf0, st0)).2 else (r.foldl decE (lf0, st0)).2) := by
      generalize r.foldl decE (lf0, st0) = s at hg
      unfold decE
      rw [Int.toNat_natCast, hg]
    rw [hd]
    simp only
    have hkn : (k : Int) ∉ (r.foldl decE (lf0, st0)).2 := fun hm => by
      rcases (a3 k hk).1 hm with h | h
      · have := hs0 k h; omega
      · omega
    refine ⟨fun t ht => ?_, ?_, fun t ht => ?_⟩
    · rw [gI_set (by omega), List.count_append]
      by_cases e : t = k
      · subst e; rw [if_pos rfl, hone]; push_cast; omega
      · rw [if_neg e, a1 t ht]
        have : List.count (t : Int) [(k : Int)] = 0 := by
          rw [List.count_eq_zero]; simp; omega
        rw [this]; simp
    · split
      · exact List.nodup_cons.2 ⟨hkn, a2⟩
      · exact a2
    · rw [List.count_append]
      by_cases e : t = k
      · subst e
        rw [hone]
        split
        · rename_i hz
          constructor
          · intro _; right; push_cast; omega
          · intro _; simp
        · rename_i hz
          rw [a3 t ht]
          constructor
          · rintro (h | h)
            · exact .inl h
            · omega
          · rintro (h | h)
            · exact .inl h
            · push_cast at h; omega
      · have h0 : List.count (t : Int) [(k : Int)] = 0 := by
          rw [List.count_eq_zero]; simp; omega
        rw [h0, Nat.add_zero, ← a3 t ht]
        split
        · rw [List.mem_cons]
          constructor
          · rintro (h | h)
            · omega
            · exact h
          · exact .inr
        · rfl
  termination_by L => L.length

/-- taken away one after the other, each when all that follow it are gone -/
def Ord (nx : Nat → List Int) : List Nat → Prop
  | [] => True
  | m :: D => (∀ z ∈ nx m, ∃ t : Nat, z = t ∧ t ∈ D) ∧ Ord nx D
theorem Ord.next {nx : Nat → List Int} : ∀ {D : List Nat}, Ord nx D → ∀ m ∈ D, ∀ z ∈ nx m, ∃ t : Nat, z = t ∧ t ∈ D := by
  intro D
  induction D with
  | nil => exact fun _ m hm => by cases hm
  | cons d D ih =>
    intro h m hm z hz
    rcases List.mem_cons.1 hm with rfl | hm
    · obtain ⟨t, e, ht⟩ := h.1 z hz
      exact ⟨t, e, by simp [ht]⟩
    · obtain ⟨t, e, ht⟩ := ih h.2 m hm z hz
      exact ⟨t, e, by simp [ht]⟩
/-- a way that begins with one of them is not longer than they are many -/
theorem Ord.way {nx : Nat → List Int} : ∀ {D : List Nat}, Ord nx D → ∀ (l : List Nat) (m : Nat), m ∈ D → (∀ i (hi : i < l.length), ((l[i] : Nat) : Int) ∈ nx ((m :: l)[i]'(by simp; omega))) → l.length + 1 ≤ D.length := by
  intro D
  induction D with
  | nil => exact fun _ l m hm => by cases hm
  | cons d D ih =>
    intro h l m hm hl
    rcases List.mem_cons.1 hm with rfl | hm
    · cases l with
      | nil => simp
      | cons n l =>
        obtain ⟨t, e, ht⟩ := h.1 n (hl 0 (by simp))
        obtain rfl : n = t := by omega
        have := ih h.2 l n ht (fun i hi => by
          have := hl (i + 1) (by simp; omega)
          simpa using this)
        simp only [List.length_cons]; omega
    · have := ih h.2 l m hm hl
      simp only [List.length_cons]; omega

structure EI (M : Nat) (nx : Nat → List Int) (en : List Bool) (lf st : List Int) (D : List Nat) : Prop where
  le : en.length = M
  ll : lf.length = M
  sn : st.Nodup
  so : ∀ x ∈ st, ∃ t : Nat, x = t ∧ t < M ∧ gB en t = true ∧ gI lf t = 0
  dn : D.Nodup
  dd : ∀ t, t < M → (gB en t = false ↔ t ∈ D)
  dm : ∀ t ∈ D, t < M
  od : Ord nx D
  cn : ∀ t, t < M → gI lf t = (((nx t).filter fun z => gB en z.toNat).length : Int)
  ze : ∀ t, t < M → gB en t = true → gI lf t = 0 → (t : Int) ∈ st
theorem filter_less {en : List Bool} {m : Nat} (hm : m < en.length) (ht : gB en m = true) (l : List Int) (hl : ∀ z ∈ l, ∃ t : Nat, z = t) :
    (l.filter fun z => gB (en.set m false) z.toNat).length + l.count (m : Int) = (l.filter fun z => gB en z.toNat).length := by
  induction l with
  | nil => simp
  | cons z l ih =>
    have ih := ih fun y hy => hl y (by simp [hy])
    obtain ⟨t, rfl⟩ := hl z (by simp)
    obtain ⟨P', hP'⟩ : ∃ P' : Int → Bool, (fun z : Int => gB (en.set m false) z.toNat) = P' := ⟨_, rfl⟩
    obtain ⟨P, hP⟩ : ∃ P : Int → Bool, (fun z : Int => gB en z.toNat) = P := ⟨_, rfl⟩
    have h1 : P' (t : Int) = if t = m then false else gB en t := by rw [← hP', ← gB_set hm]; simp
    have h2 : P (t : Int) = gB en t := by rw [← hP]; simp
    rw [hP', hP] at ih
    rw [hP', hP, List.filter_cons, List.filter_cons, h1, h2, List.count_cons]
    by_cases e : t = m
    · subst e
      rw [if_pos rfl, if_neg (by simp), if_pos ht, if_pos (by simp)]
      simp only [List.length_cons]; omega
    · have h3 : ((t : Int) == (m : Int)) = false := by simp; omega
      rw [if_neg e, h3]
      simp only [Bool.false_eq_true, if_false, Nat.add_zero]
      split
      · simp only [List.length_cons]; omega
      · exact ih
theorem EI.step {M m : Nat} {nx bf : Nat → List Int} {en : List Bool} {lf st : List Int} {D : List Nat} (hnx : ∀ t, t < M → ∀ z ∈ nx t, ∃ u : Nat, z = u ∧ u < M) (hbf : ∀ t, t < M → ∀ z ∈ bf t, ∃ u : Nat, z = u ∧ u < M)
    (hct : ∀ b t, b < M → t < M → (bf t).count (b : Int) = (nx b).count (t : Int)) (h : EI M nx en lf ((m : Int) :: st) D) :
    EI M nx (en.set m false) ((bf m).foldl decE (lf, st)).1 ((bf m).foldl decE (lf, st)).2 (m :: D) ∧ gB en m = true ∧ m < M ∧ m ∉ D := by
  obtain ⟨u, e, hm, hen, hlm⟩ := h.so m (by simp)
  obtain rfl : m = u := by omega
  have hml : m < en.length := by rw [h.le]; exact hm
  have hnd := List.nodup_cons.1 h.sn
  have hmD : m ∉ D := fun hd => by rw [(h.dd m hm).2 hd] at hen; cases hen
  have hle : ∀ t, t < M → ((bf m).count (t : Int) : Int) ≤ gI lf t := fun t ht => by
    have := filter_less hml hen (nx t) fun z hz => by obtain ⟨u, e, _⟩ := hnx t ht z hz; exact ⟨u, e⟩
    rw [h.cn t ht, hct t m ht hm]
    omega
  obtain ⟨a1, a2, a3⟩ := decEs_is lf st h.ll hnd.2 (fun t ht => by
    obtain ⟨u, e, _, _, h0⟩ := h.so t (by simp [ht])
    obtain rfl : t = u := by omega
    exact h0) (bf m) (hbf m hm) hle
  have hcn : ∀ t, t < M → gI ((bf m).foldl decE (lf, st)).1 t = (((nx t).filter fun z => gB (en.set m false) z.toNat).length : Int) := fun t ht => by
    have := filter_less hml hen (nx t) fun z hz => by obtain ⟨u, e, _⟩ := hnx t ht z hz; exact ⟨u, e⟩
    rw [a1 t ht, h.cn t ht, hct t m ht hm]
    omega
  have hm0 : (nx m).filter (fun z => gB en z.toNat) = [] := by
    have := h.cn m hm
    rw [hlm] at this
    exact List.eq_nil_of_length_eq_zero (by omega)
  have hz : ∀ z ∈ nx m, ∃ t : Nat, z = t ∧ t ∈ D := fun z hz => by
    obtain ⟨u, rfl, hu⟩ := hnx m hm z hz
    refine ⟨u, rfl, (h.dd u hu).1 ?_⟩
    have := List.filter_eq_nil_iff.1 hm0 _ hz
    simpa using this
  have hst : ∀ x ∈ ((bf m).foldl decE (lf, st)).2, ∃ t : Nat, x = t ∧ t < M := decEs_ok (M := M) (bf m) (lf, st) (fun x hx => by
    obtain ⟨u, e, hu, _⟩ := h.so x (by simp [hx])
    exact ⟨u, e, hu⟩) (hbf m hm)
  refine ⟨⟨by simp [h.le], (decEs_len (bf m) _).1.trans h.ll, a2, fun x hx => ?_, List.nodup_cons.2 ⟨hmD, h.dn⟩, fun t ht => ?_, fun t ht => ?_, ⟨hz, h.od⟩, hcn, fun t ht he h0 => ?_⟩, hen, hm, hmD⟩
  · obtain ⟨t, rfl, ht⟩ := hst x hx
    refine ⟨t, rfl, ht, ?_, ?_⟩
    · rw [gB_set hml]
      rcases (a3 t ht).1 hx with h1 | h1
      · have htm : t ≠ m := fun e => hnd.1 (e ▸ h1)
        rw [if_neg htm]
        obtain ⟨u, e, _, h2, _⟩ := h.so t (by simp [h1])
        obtain rfl : t = u := by omega
        exact h2
      · have htm : t ≠ m := fun e => by rw [e, hlm] at h1; omega
        rw [if_neg htm]
        cases hb : gB en t
        · have hd := (h.dd t ht).1 hb
          exfalso
          have hf : (nx t).filter (fun z => gB en z.toNat) = [] := by
            rw [List.filter_eq_nil_iff]
            intro z hz
            obtain ⟨u, rfl, hu⟩ := h.od.next t hd z hz
            rw [Int.toNat_natCast, (h.dd u (h.dm u hu)).2 hu]
            simp
          have := h.cn t ht
          rw [hf] at this
          simp at this
          omega
        · rfl
    · rcases (a3 t ht).1 hx with h1 | h1
      · obtain ⟨u, e, _, _, h2⟩ := h.so t (by simp [h1])
        obtain rfl : t = u := by omega
        have := hle t ht
        rw [a1 t ht]; omega
      · rw [a1 t ht]; omega
  · rw [gB_set hml, List.mem_cons]
    by_cases e : t = m
    · subst e; simp
    · rw [if_neg e, h.dd t ht]; simp [e]
  · rcases List.mem_cons.1 ht with rfl | ht
    · exact hm
    · exact h.dm t ht
  · rw [gB_set hml] at he
    by_cases e : t = m
    · subst e; simp at he
    · rw [if_neg e] at he
      rw [a3 t ht]
      rw [a1 t ht] at h0
      by_cases h1 : gI lf t = 0
      · have := h.ze t ht he h1
        rcases List.mem_cons.1 this with h2 | h2
        · omega
        · exact .inl h2
      · have := hle t ht
        exact .inr ⟨by omega, by omega⟩
/-- what is left -/
structure Fin2 (M : Nat) (nx : Nat → List Int) (res : List Bool) : Prop where
  len : res.length = M
  yes : ∀ t, t < M → gB res t = true → ∃ u : Nat, (u : Int) ∈ nx t ∧ gB res u = true
  no : ∀ t, t < M → gB res t = false → ∀ z ∈ nx t, gB res z.toNat = false
  way : ∀ (l : List Nat) (m : Nat), m < M → gB res m = false → (∀ i (hi : i < l.length), ((l[i] : Nat) : Int) ∈ nx ((m :: l)[i]'(by simp; omega))) → l.length + 1 ≤ M
theorem nodup_le' {M : Nat} : ∀ {Q : List Nat}, Q.Nodup → (∀ u ∈ Q, u < M) → Q.length ≤ M := by
  intro Q h1 h2
  have := h1.length_le_of_subset (l₂ := List.range M) fun u hu => List.mem_range.2 (h2 u hu)
  simpa using this
theorem endl_ends {M : Nat} {nx bf : Nat → List Int} (hnx : ∀ t, t < M → (nx t).length ≤ 1000000 ∧ ∀ z ∈ nx t, ∃ u : Nat, z = u ∧ u < M) (hbf : ∀ t, t < M → ∀ z ∈ bf t, ∃ u : Nat, z = u ∧ u < M)
    (hct : ∀ b t, b < M → t < M → (bf t).count (b : Int) = (nx b).count (t : Int)) (hM : M ≤ 1000000) :
    ∀ (n : Nat) (en : List Bool) (lf st : List Int) (D : List Nat), M - D.length ≤ n → EI M nx en lf st D → ∃ res, endl bf (n + 1) en lf st = some res ∧ Fin2 M nx res := by
  intro n
  have fin : ∀ (en : List Bool) (lf : List Int) (D : List Nat), EI M nx en lf [] D → Fin2 M nx en := fun en lf D h => by
    refine ⟨h.le, fun t ht he => ?_, fun t ht he z hz => ?_, fun l m hm he hl => ?_⟩
    · have h1 : gI lf t ≠ 0 := fun h0 => by have := h.ze t ht he h0; cases this
      rw [h.cn t ht] at h1
      cases hf : (nx t).filter (fun z => gB en z.toNat) with
      | nil => rw [hf] at h1; simp at h1
      | cons z r =>
        have hz : z ∈ (nx t).filter (fun z => gB en z.toNat) := by rw [hf]; simp
        obtain ⟨h2, h3⟩ := List.mem_filter.1 hz
        obtain ⟨u, rfl, _⟩ := (hnx t ht).2 z h2
        exact ⟨u, h2, by simpa using h3⟩
    · obtain ⟨u, rfl, hu⟩ := h.od.next t ((h.dd t ht).1 he) z hz
      rw [Int.toNat_natCast]
      exact (h.dd u (h.dm u hu)).2 hu
    · exact Nat.le_trans (h.od.way l m ((h.dd m hm).1 he) hl) (nodup_le' h.dn h.dm)
  induction n with
  | zero =>
    intro en lf st D hD h
    cases st with
    | nil => exact ⟨en, by simp [endl], fin en lf D h⟩
    | cons x st =>
      obtain ⟨m, rfl, _⟩ := h.so x (by simp)
      obtain ⟨h1, _, hm, hmD⟩ := h.step (fun t ht => (hnx t ht).2) hbf hct
      have := nodup_le' h1.dn h1.dm
      simp only [List.length_cons] at this
      omega
  | succ n ih =>
    intro en lf st D hD h
    cases st with
    | nil => exact ⟨en, by simp [endl], fin en lf D h⟩
    | cons x st =>
      obtain ⟨m, rfl, _⟩ := h.so x (by simp)
      obtain ⟨h1, hen, hm, hmD⟩ := h.step (fun t ht => (hnx t ht).2) hbf hct
      have hdl := nodup_le' h1.dn h1.dm
      simp only [List.length_cons] at hdl
      have hsl : st.length ≤ 1000000 := by
        have h2 := (List.nodup_cons.1 h.sn).2
        have h3 : (st.map Int.toNat).Nodup := by
          unfold List.Nodup at h2 ⊢
          rw [List.pairwise_map]
          refine h2.imp_of_mem fun {a b} ha hb hab e => hab ?_
          obtain ⟨t, rfl, _⟩ := h.so a (by simp [ha])
          obtain ⟨u, rfl, _⟩ := h.so b (by simp [hb])
          have e' : t = u := by simpa using e
          rw [e']
        have h4 := nodup_le' (M := M) h3 fun u hu => by
          obtain ⟨y, hy, rfl⟩ := List.mem_map.1 hu
          obtain ⟨t, rfl, ht, _⟩ := h.so y (by simp [hy])
          simpa using ht
        simp at h4
        omega
      have hlf : lf.all (fun x => decide (-1000000 ≤ x ∧ x ≤ 1000000)) = true := by
        rw [List.all_eq_true]
        intro y hy
        obtain ⟨t, ht, rfl⟩ := List.getElem_of_mem hy
        have h5 := h.cn t (by rw [← h.ll]; exact ht)
        unfold gI at h5
        rw [List.getD_eq_getElem?_getD, List.getElem?_eq_getElem ht, Option.getD_some] at h5
        have h6 := List.length_filter_le (fun z => gB en z.toNat) (nx t)
        have h7 := (hnx t (by rw [← h.ll]; exact ht)).1
        rw [decide_eq_true_iff]; omega
      rw [endl, if_neg]
      · simp only [Int.toNat_natCast]
        exact ih _ _ _ (m :: D) (by simp only [List.length_cons]; omega) h1
      · rintro (h8 | h8 | h8)
        · rw [Int.toNat_natCast] at h8
          have : gB en m = false := h8
          rw [hen] at this; cases this
        · omega
        · rw [hlf] at h8; cases h8
end Go.Proofs.YtcpanfpijljeaaaGreat
namespace Go.Proofs.YtcpanfpijljeaaaGreat
set_option linter.unusedVariables false
set_option linter.unusedSimpArgs false
open Go.RowKit

section
variable {w w' wr : World} {b B S g c : Nat} {v : Value} {en : List Bool} {lf q : List Int}
theorem BRow.setB (h : BRow w b en) (i : Nat) (x : Bool) : BRow (w.setCell ⟨b, i, none⟩ (.bool x)) b (en.set i x) := by
  unfold BRow
  rw [heap_set_same _ h]
  simp [List.map_set]
theorem BRow.of (h : BRow w b en) (e : w'.heap[b]? = w.heap[b]?) : BRow w' b en := e.trans h
theorem BRow.fro (h : BRow w b en) (j : Nat) : w.frozen? ⟨b, j, none⟩ = false := by
  unfold BRow at h
  simp [World.frozen?, h]
/-- the two rows of 'endless', and the slice of ends -/
structure ER (w wr : World) (S : Nat) (v : Value) (en : List Bool) (lf q : List Int) : Prop where
  b : BRow wr S en
  i : IRow wr (S + 1) lf
  o : Own wr (S + 2) 3 1 fI v q
  be : Below S w wr
theorem ER.sz (h : ER w wr S v en lf q) : S + 2 ≤ wr.heap.size := h.i.lt
theorem ER.setB (h : ER w wr S v en lf q) (k : Nat) (x : Bool) : ER w (wr.setCell ⟨S, k, none⟩ (.bool x)) S v (en.set k x) lf q :=
  ⟨h.b.setB k x, h.i.other _ (by simp), h.o.of_blocks fun m hm => Below.heap_setCell _ _ _ _ (by have := (h.o.lt m hm).1; simp; omega), h.be.setCell (p := ⟨S, k, none⟩) (Nat.le_refl _) _⟩
theorem ER.setI (h : ER w wr S v en lf q) (k : Nat) (x : Int) : ER w (wr.setCell ⟨S + 1, k, none⟩ (.int .i64 x)) S v en (lf.set k x) q :=
  ⟨h.b.of (Below.heap_setCell _ _ _ _ (by simp)), h.i.set k x, h.o.of_blocks fun m hm => Below.heap_setCell _ _ _ _ (by have := (h.o.lt m hm).1; simp; omega), h.be.setCell (p := ⟨S + 1, k, none⟩) (by simp) _⟩
theorem ER.alloc (h : ER w wr S v en lf q) (o : Obj) : ER w (wr.alloc o) S v en lf q :=
  ⟨h.b.of (Below.heap_alloc wr o S h.b.lt), h.i.alloc o, h.o.alloc o, h.be.alloc (by have := h.sz; omega) o⟩
theorem ER.app {v2 : Value} {w2 : World} {q2 : List Int} (h : ER w wr S v en lf q) (ho : Own w2 (S + 2) 3 1 fI v2 q2) (hg : wr.grownBy w2 v.ownBlock) : ER w w2 S v2 en lf q2 := by
  have hb : Below (S + 2) wr w2 := (Below.refl _ _).grown hg h.sz fun k hk => (h.o.lt k hk).1
  exact ⟨h.b.below hb (by omega), h.i.below hb (by omega), ho, h.be.trans (hb.mono (by omega))⟩
theorem Own.last {base : Nat} {r : List Int} {x : Int} (h : Own w base 3 1 fI v (r ++ [x])) :
    ∃ g c, v = .slice (some ⟨g, 0, none⟩) (r.length + 1) c ∧ base ≤ g ∧ w.cell? ⟨g, r.length, none⟩ = some (.int .i64 x) ∧ Own w base 3 1 fI (.slice (some ⟨g, 0, none⟩) r.length c) r ∧ r.length + 1 ≤ c ∧ c ≤ maxLen ∧ g < w.heap.size := by
  have hl : (r ++ [x]).length = r.length + 1 := by simp
  rcases h.2 with ⟨_, h0⟩ | ⟨g, cap, cur, rfl, hb, hg, hn, hm, hs, ht⟩
  · omega
  · refine ⟨g, cap, by rw [hl], hb, ?_, ⟨flat_len fI_len r, .inr ⟨g, cap, cur, rfl, hb, hg, by omega, hm, hs, ?_⟩⟩, by omega, hm, (Array.getElem?_eq_some_iff.1 hg).1⟩
    · have hsl := (fI_CI (h.sl fI_len rfl))
      obtain ⟨b2, o2, e2, _, hc⟩ := int_at hsl (i := r.length) (by simp)
      obtain ⟨rfl, rfl⟩ : g = b2 ∧ 0 = o2 := by simpa using e2
      simpa using hc
    · rw [List.flatMap_append] at ht
      have h2 : (r.flatMap fI).length = r.length * 1 := flat_len fI_len r
      have h3 := congrArg (List.take (r.length * 1)) ht
      rw [List.take_take, Nat.min_eq_left (by omega), List.take_left' h2] at h3
      exact h3
end
/-- how many bools in a block are true -/
def tru (w : World) (S : Nat) : Nat := match w.heap[S]? with
  | some (.cells cs _ _) => (cs.toList.filter fun v => match v with | .bool true => true | _ => false).length
  | _ => 0
theorem tru_is {w : World} {S : Nat} {en : List Bool} (h : BRow w S en) : tru w S = (en.filter id).length := by
  unfold tru
  unfold BRow at h
  rw [h]
  simp only
  clear h
  induction en with
  | nil => rfl
  | cons b l ih =>
    simp only [List.map_cons, List.filter_cons] at ih ⊢
    cases b
    · simpa using ih
    · simpa using ih
theorem tru_less {en : List Bool} {m : Nat} (hm : en.getD m false = true) : ((en.set m false).filter id).length < (en.filter id).length := by
  induction en generalizing m with
  | nil => simp at hm
  | cons b l ih =>
    cases m with
    | zero =>
      obtain rfl : b = true := by simpa using hm
      simp
    | succ m =>
      have := ih (m := m) (by simpa using hm)
      simp only [List.set_cons_succ, List.filter_cons]
      split
      · simp only [List.length_cons]; omega
      · exact this

def trL (M k : Nat) : List Bool := List.replicate k true ++ List.replicate (M - k) false
def lfL (p : Pl) (M k : Nat) : List Int := ((List.range k).map fun t => ((nextL p t).length : Int)) ++ List.replicate (M - k) 0
def endsL (p : Pl) (k : Nat) : List Int := ((List.range k).filter fun t => decide ((nextL p t).length = 0)).map fun t : Nat => (t : Int)
theorem trL_len {M k : Nat} (h : k ≤ M) : (trL M k).length = M := by simp [trL]; omega
theorem lfL_len {p : Pl} {M k : Nat} (h : k ≤ M) : (lfL p M k).length = M := by simp [lfL]; omega
theorem trL_set {M k : Nat} (h : k < M) : (trL M k).set k true = trL M (k + 1) := by
  unfold trL
  rw [List.set_append_right _ _ (by simp), List.length_replicate, Nat.sub_self, show M - k = (M - (k + 1)) + 1 by omega, List.replicate_succ, List.set_cons_zero, List.replicate_succ', List.append_assoc]
  rfl
theorem lfL_set {p : Pl} {M k : Nat} (h : k < M) : (lfL p M k).set k ((nextL p k).length : Int) = lfL p M (k + 1) := by
  unfold lfL
  rw [List.set_append_right _ _ (by simp)]
  simp only [List.length_map, List.length_range, Nat.sub_self]
  rw [show M - k = (M - (k + 1)) + 1 by omega, List.replicate_succ, List.set_cons_zero, List.range_succ, List.map_append, List.append_assoc]
  rfl
theorem endsL_len (p : Pl) (k : Nat) : (endsL p k).length ≤ k := by
  unfold endsL
  rw [List.length_map]
  have := List.length_filter_le (fun t => decide ((nextL p t).length = 0)) (List.range k)
  simpa using this
theorem endsL_yes {p : Pl} {k : Nat} (h : (nextL p k).length = 0) : endsL p (k + 1) = endsL p k ++ [(k : Int)] := by
  unfold endsL
  rw [List.range_succ, List.filter_append, List.map_append, List.filter_cons, if_pos (by rw [h]; rfl)]
  rfl
theorem endsL_no {p : Pl} {k : Nat} (h : ¬ (nextL p k).length = 0) : endsL p (k + 1) = endsL p k := by
  unfold endsL
  rw [List.range_succ, List.filter_append, List.map_append, List.filter_cons, if_neg (by simpa using h)]
  simp
def EndPost (M : Nat) (res : List Bool) (w : World) (e : Ending) (w' : World) : Prop :=
  (∃ rb, e = .returned (.slice (some ⟨rb, 0, none⟩) M M) ∧ BRow w' rb res ∧ w.heap.size ≤ rb) ∧ Below w.heap.size w w'

set_option maxRecDepth 100000 in
set_option maxHeartbeats 4000000 in
theorem endless_any (B g n M : Nat) (res : List Bool) (p : Pl) (w : World) (hM : 2 * p.rails.length = M) (h : Nw w B g p) (hB : B ≤ w.heap.size)
    (hs : endl (befL p M) n (List.replicate M true) (lfL p M M) (endsL p M).reverse = some res) :
    Calls Tryz.prog 61 #[.pointer (some ⟨g, 0, none⟩)] w (EndPost M res w) := by
  have hsz := h.sizes
  have hgB := h.gB
  obtain ⟨A1, c1, A2, c2, lb, sb, nb, bb, hN, x1, x2, x3, x4, x5, x6⟩ := h.net
  obtain ⟨_, _, k2, _, k4, k5⟩ := hN.cell
  rw [hM] at k4 k5 x5 x6
  have hM8 : M ≤ 800 := by omega
  have hM8' : (M : Int) ≤ 800 := by omega
  obtain ⟨i0, hi, hz0, hz1, hz2⟩ := info_parts inf3
  have hmk : ∀ W : World, (Instr.makeSlice 50 (.int .i64 (M : Int)) (.int .i64 (M : Int))).run Tryz.prog W = .ok (.slice (some ⟨W.heap.size, 0, none⟩) M M) (W.alloc (.cells (madeCells #[.int .i64 0] M) 3)) := fun W => by
    have := run_mk (P := Tryz.prog) 50 3 i0 _ 1 Tryz.underlying50 hi hz0 hz1 (M : Int) (M : Int) M M rfl rfl (by omega) (by rw [hz2]; omega) (by omega) W
    rw [this, Nat.mul_one]; rfl
  obtain ⟨i1, hi1, hy0, hy1, hy2⟩ := info_parts inf4
  have hmb : ∀ W : World, (Instr.makeSlice 57 (.int .i64 (M : Int)) (.int .i64 (M : Int))).run Tryz.prog W = .ok (.slice (some ⟨W.heap.size, 0, none⟩) M M) (W.alloc (.cells (madeCells #[.bool false] M) 4)) := fun W => by
    have := run_mk (P := Tryz.prog) 57 4 i1 _ 1 Tryz.underlying57 hi1 hy0 hy1 (M : Int) (M : Int) M M rfl rfl (by omega) (by rw [hy2]; omega) (by omega) W
    rw [this, Nat.mul_one]; rfl
  have HN5 := Lib.hid x5; have HN6 := Lib.hid x6
  have HS := Lib.hid hs
  have hgl : g < w.heap.size := by omega
  have c0 := fun i => cell_keep1 (w := w) (b := g) (i := i) (o := .cells (madeCells #[.bool false] M) 4) rfl hgl
  have HE0 := Lib.hid (show ER w ((w.alloc (.cells (madeCells #[.bool false] M) 4)).alloc (.cells (madeCells #[.int .i64 0] M) 3)) w.heap.size (.slice none 0 0) (trL M 0) (lfL p M 0) (endsL p 0) from by
    have hb1 := BRow.made w M
    have hi1 := IRow.made (w.alloc (.cells (madeCells #[.bool false] M) 4)) M
    rw [show (w.alloc (.cells (madeCells #[.bool false] M) 4)).heap.size = w.heap.size + 1 by simp] at hi1
    refine ⟨?_, ?_, Own.nil _ _ _ _ _, ((Below.refl _ w).alloc (Nat.le_refl _) _).alloc (by simp) _⟩
    · have := hb1.of (Below.heap_alloc _ (.cells (madeCells #[.int .i64 0] M) 3) _ hb1.lt)
      simpa [trL] using this
    · simpa [lfL] using hi1)
  have HK4 := Lib.hid k4; have HK5 := Lib.hid k5
  clear h hN x3 x4 x5 x6 hs
  go_enter Tryz.func61, Tryz.ntmps61
  go_wp2
  clear hmk hmb
  generalize ((w.alloc (.cells (madeCells #[.bool false] M) 4)).alloc (.cells (madeCells #[.int .i64 0] M) 3)) = W2 at *
  go_loopw [5, 28] (fun v i wr => ∃ k : Nat, k ≤ M ∧ i = .int .i64 (k : Int) ∧ ER w wr w.heap.size v (trL M k) (lfL p M k) (endsL p k)) (fun _ i _ => M - (intOf i).toNat)
  case atStart => exact ⟨0, by omega, rfl, HE0.out⟩
  case round =>
    obtain ⟨k, hk, rfl, her⟩ := hrel
    have HER := Lib.hid her
    have hszr := her.sz
    have hk4 := (HER.out.be.cell (p := ⟨g, 4, none⟩) hgl).trans HK4.out
    clear her
    by_cases hlt : k < M
    · obtain ⟨An, cn, n1, n2, n3, n4⟩ := HN5.out.2 k hlt
      have hnl := nextL_len p k
      have e1 := (HER.out.be.cell (p := ⟨nb, k, none⟩) (by have := HN5.out.1; simp; omega)).trans n1
      obtain ⟨f1, hf1⟩ : ∃ x, (nextL p k).length = x := ⟨_, rfl⟩
      have HL1 := Lib.hid (show (lfL p M k).set k (f1 : Int) = lfL p M (k + 1) by rw [← hf1]; exact lfL_set hlt)
      have HL2 := Lib.hid (show (trL M k).set k true = trL M (k + 1) from trL_set hlt)
      rw [hf1] at e1 hnl n2
      have r0 := HER.out.b.cell (i := k) (by rw [trL_len hk]; exact hlt)
      have r1 := HER.out.b.fro k
      have r2 := HER.out.i.cell (i := k) (by rw [lfL_len hk]; exact hlt)
      have r3 := HER.out.i.frozen k
      obtain ⟨u0, hu0⟩ : ∃ x, (trL M k)[k]'(by rw [trL_len hk]; exact hlt) = x := ⟨_, rfl⟩
      obtain ⟨u1, hu1⟩ : ∃ x, (lfL p M k)[k]'(by rw [lfL_len hk]; exact hlt) = x := ⟨_, rfl⟩
      rw [hu0] at r0
      rw [hu1] at r2
      have hk0 : (0 : Int) ≤ (k : Int) := by omega
      have hk1 : (k : Int) < (M : Int) := by omega
      have HEB := Lib.hid ((HER.out.setB k true).setI k (f1 : Int))
      have HF1 := Lib.hid hf1
      clear n1 n4 hu0 hu1 hf1
      by_cases hz : f1 = 0
      · subst hz
        have HEL := Lib.hid (endsL_yes HF1.out)
        have hel := endsL_len p k
        have hszr2 : w.heap.size + 2 ≤ wr.heap.size := hszr
        go_upto_region 9 with (fail)
        obtain ⟨W3, hW3⟩ : ∃ W3, (wr.setCell ⟨w.heap.size, k, none⟩ (.bool true)).setCell ⟨w.heap.size + 1, k, none⟩ (.int .i64 ((0 : Nat) : Int)) = W3 := ⟨_, rfl⟩
        rw [hW3] at HEB
        simp only [Int.natCast_zero, Int.cast_ofNat_Int] at hW3
        rw [hW3]
        have hsz3 := HEB.out.sz
        clear hW3 r0 r1 r2 r3 e1
        go_wp2_with (at_builtin; go_must (refine wpList_app _ rfl (.tmp 44) (.tmp 46) _ rfl (w.heap.size + 2) 3 i0 _ 1 8 Tryz.underlying50 hi hz0 hz1 hz2 rfl (by omega) fI_len fI_one u5 _ rfl (HEB.out.o.alloc _) _ _ [(k : Int)] 1 rfl (Sl.new _ _ (k : Int) _ rfl) (by unfold maxLen; simp only [List.length_cons, List.length_nil]; omega) (by simp only [List.length_cons, List.length_nil]; omega) (by simp; omega) (fun _ => .inr ⟨_, rfl⟩) ?_); intro v2 w2 o2 gr2 at2 ne2)
        go_roundw
        case rel => exact ⟨k + 1, by omega, by go_num, by rw [← HL1.out, ← HL2.out, HEL.out]; exact (HEB.out.alloc _).app o2 gr2⟩
        case measure => simp [intOf]; omega
      · have HEL := Lib.hid (endsL_no (p := p) (k := k) (by rw [HF1.out]; exact hz))
        have d1 : ((f1 : Int) == 0) = false := by simp; omega
        have d2 : ¬ (f1 : Int) = 0 := by omega
        go_wp2
        go_roundw
        case rel => exact ⟨k + 1, by omega, by go_num, by rw [← HL1.out, ← HL2.out, HEL.out]; exact HEB.out⟩
        case measure => simp [intOf]; omega
    · obtain rfl : M = k := by omega
      have HE1 := Lib.hid (show ER w wr w.heap.size u5 (List.replicate M true) (lfL p M M) (endsL p M) by have := HER.out; rwa [show trL M M = List.replicate M true by simp [trL]] at this)
      clear HER HE0 hk4
      go_wp2
      obtain ⟨wa, hwa⟩ : ∃ x, wr = x := ⟨_, rfl⟩
      subst hwa
      go_loopw [5] (fun v wr2 => ∃ (en : List Bool) (lf q : List Int) (n' : Nat), ER w wr2 w.heap.size v en lf q ∧ en.length = M ∧ lf.length = M ∧ (∀ x ∈ q, ∃ t : Nat, x = t ∧ t < M) ∧ endl (befL p M) n' en lf q.reverse = some res) (fun _ wr2 => tru wr2 w.heap.size)
      case atStart => exact ⟨_, _, _, n, HE1.out, by simp, lfL_len (Nat.le_refl _), (fun x hx => by
        unfold endsL at hx
        obtain ⟨t, ht, rfl⟩ := List.mem_map.1 hx
        exact ⟨t, rfl, by have := (List.mem_filter.1 ht).1; simpa using this⟩), HS.out⟩
      case round =>
        obtain ⟨en, lf, q, n', her2, hen, hlf, hq, hend⟩ := hrel
        rcases List.eq_nil_or_concat q with rfl | ⟨r, x, rfl⟩
        · obtain ⟨Av, cv, rfl, _, _, _⟩ := her2.o.form
          have HQ := Lib.hid (show en = res by
            cases n' with
            | zero => simp [endl] at hend
            | succ n' => simpa [endl] using hend)
          have HER2 := Lib.hid her2
          clear her2 hend hq HE1 hen hlf
          go_wp2
          go_ret
          exact ⟨⟨w.heap.size, rfl, by rw [← HQ.out]; exact HER2.out.b, Nat.le_refl _⟩, HER2.out.be⟩
        · rw [List.concat_eq_append] at her2 hq hend
          obtain ⟨m, rfl, hm⟩ := hq x (by simp)
          have hend' : endl (befL p M) n' en lf ((m : Int) :: r.reverse) = some res := by simpa using hend
          cases n' with
          | zero => simp [endl] at hend'
          | succ n' =>
          rw [endl] at hend'
          split at hend'
          · cases hend'
          rename_i hbad
          simp only [not_or] at hbad
          obtain ⟨hb1, hb2, hb3⟩ := hbad
          rw [Int.toNat_natCast] at hb1 hend'
          have hem : en.getD m false = true := by simpa using hb1
          have hrl : r.length ≤ 1000000 := by simp at hb2; omega
          have HLB := Lib.hid (show ∀ y ∈ lf, -1000000 ≤ y ∧ y ≤ 1000000 by
            have h1 : lf.all (fun x => decide (-1000000 ≤ x ∧ x ≤ 1000000)) = true := by simpa using hb3
            intro y hy
            exact of_decide_eq_true (List.all_eq_true.1 h1 y hy))
          obtain ⟨gq, cq, rfl, hgq, hcell, hown, hqc, hqm, hgl2⟩ := her2.o.last
          obtain ⟨Ab, cb, m0, m1, m2, m3⟩ := HN6.out.2 m hm
          have hLl : (befL p M m).length ≤ 1600 := by have := befL_len p m M; omega
          have HLO := Lib.hid (show ∀ y ∈ befL p M m, ∃ t : Nat, y = t ∧ t < M from befL_bd)
          obtain ⟨L, hL⟩ : ∃ L, befL p M m = L := ⟨_, rfl⟩
          rw [hL] at m0 m1 m3 hLl HLO hend'
          have HM3 := Lib.hid m3
          have HRO := Lib.hid (show ∀ y ∈ r, ∃ t : Nat, y = t ∧ t < M from fun y hy => hq y (by simp [hy]))
          have HER2 := Lib.hid (show ER w wr w.heap.size (.slice (some ⟨gq, 0, none⟩) r.length cq) en lf r from ⟨her2.b, her2.i, hown, her2.be⟩)
          have HER3 := Lib.hid (HER2.out.setB m false)
          have HTR := Lib.hid (show ∀ wx : World, BRow wx w.heap.size (en.set m false) → tru wx w.heap.size < tru wr w.heap.size from fun wx hx => by
            rw [tru_is hx, tru_is HER2.out.b]; exact tru_less hem)
          have HEN := Lib.hid hend'; have HLE := Lib.hid hen; have HLF := Lib.hid hlf
          have r0 := HER2.out.b.cell (i := m) (by omega)
          have r1 := HER2.out.b.fro m
          obtain ⟨u0, hu0⟩ : ∃ x, en[m]'(by omega) = x := ⟨_, rfl⟩
          rw [hu0] at r0
          obtain ⟨N, hN⟩ : ∃ x, r.length = x := ⟨_, rfl⟩
          have HNN := Lib.hid hN
          rw [hN] at hcell hqc hrl HER2 HER3 ⊢
          have hN0 : (0 : Int) ≤ (N : Int) := by omega
          have hN1 : (N : Int) < (N : Int) + 1 := by omega
          have hN2 : (0 : Int) < (N : Int) + 1 := by omega
          have hNc : (N : Int) ≤ (cq : Int) := by omega
          have hcm : (cq : Int) ≤ 9223372036854775807 := by unfold maxLen at hqm; omega
          have hwr1 : IntKind.i64.wrap ((N : Int) + 1 - 1) = (N : Int) := by rw [IntKind.wrap_i64]; omega
          have hwr2 : IntKind.i64.wrap (N : Int) = (N : Int) := by rw [IntKind.wrap_i64]; omega
          have hm0 : (0 : Int) ≤ (m : Int) := by omega
          have hm1 : (m : Int) < (M : Int) := by omega
          have hmb0 : bb < w.heap.size := by have := HN6.out.1; omega
          clear her2 hend hend' hb1 hb2 hb3 hem hown hq hu0 hL m3 hN hqm HE1 hen hlf
          go_upto_region 15 with (fail)
          obtain ⟨W3, hW3⟩ : ∃ W3, wr.setCell ⟨w.heap.size, m, none⟩ (.bool false) = W3 := ⟨_, rfl⟩
          rw [hW3] at HER3 ⊢
          have q0 := (HER3.out.be.cell (p := ⟨g, 5, none⟩) hgl).trans HK5.out
          have q1 := (HER3.out.be.cell (p := ⟨bb, m, none⟩) hmb0).trans m0
          clear hW3 r0 r1 hcell hwr1 hwr2 HER2 m0 hN1 hN2 hNc hcm
          go_wp2
          obtain ⟨wb, hwb⟩ : ∃ x, wr = x := ⟨_, rfl⟩
          rw [hwb] at HTR
          go_loopw [5, 74] (fun v j wr3 => ∃ k2 : Nat, k2 ≤ L.length ∧ j = .int .i64 (k2 : Int) ∧ ER w wr3 w.heap.size v (en.set m false) ((L.take k2).foldl decE (lf, r.reverse)).1 ((L.take k2).foldl decE (lf, r.reverse)).2.reverse) (fun _ j _ => L.length - (intOf j).toNat)
          case atStart => exact ⟨0, Nat.zero_le _, rfl, by have := HER3.out; simpa using this⟩
          case round =>
            obtain ⟨k2, hk2, rfl, her4⟩ := hrel
            have HER4 := Lib.hid her4
            have hsz4 := her4.sz
            clear her4
            by_cases hlt2 : k2 < L.length
            · obtain ⟨t, hLt, htM⟩ := HLO.out L[k2] (List.getElem_mem hlt2)
              obtain ⟨b3, o3, rfl, g3, q3⟩ := int_at HM3.out hlt2
              have q4 := (HER4.out.be.cell (p := ⟨b3, o3 + k2, none⟩) (by simp; omega)).trans q3
              rw [hLt] at q4
              have hstep := foldl_take decE (lf, r.reverse) L hlt2
              rw [hLt] at hstep
              have hbd := decEs_bd (u := 1000000) (L.take k2) (lf, r.reverse) (-1000000) (by omega) (by omega) HLB.out
              have hsl := decEs_len (L.take k2) (lf, r.reverse)
              simp only [List.length_take, List.length_reverse] at hbd hsl
              obtain ⟨s, hs⟩ : ∃ s, (L.take k2).foldl decE (lf, r.reverse) = s := ⟨_, rfl⟩
              rw [hs] at hstep hbd hsl HER4
              have hlfl := HLF.out
              have htl : t < s.1.length := by rw [hsl.1, hlfl]; exact htM
              obtain ⟨X, hX⟩ : ∃ x, s.1[t] = x := ⟨_, rfl⟩
              have hXb := hbd X (by rw [← hX]; exact List.getElem_mem htl)
              have hgd : s.1.getD t 0 = X := by rw [List.getD_eq_getElem?_getD, List.getElem?_eq_getElem htl, Option.getD_some, hX]
              have HST := Lib.hid (show (L.take (k2 + 1)).foldl decE (lf, r.reverse) = (s.1.set t (X - 1), if X - 1 = 0 then (t : Int) :: s.2 else s.2) by rw [hstep]; unfold decE; simp only [Int.toNat_natCast, hgd])
              have r2 := HER4.out.i.cell htl
              have r3 := HER4.out.i.frozen t
              rw [hX] at r2
              have hs2 : s.2.length ≤ 1002000 := by have := hsl.2; have := HNN.out; omega
              have hX0 : -1002000 ≤ X := by omega
              have hX1 : X ≤ 1000000 := hXb.2
              have ht0 : (0 : Int) ≤ (t : Int) := by omega
              have ht1 : (t : Int) < (M : Int) := by omega
              have hj0 : (0 : Int) ≤ (k2 : Int) := by omega
              have hj1 : (k2 : Int) < (L.length : Int) := by omega
              have HER5 := Lib.hid (HER4.out.setI t (X - 1))
              clear hstep hbd hsl hs hX hgd hlfl htl q3 hXb hLt q0 q1
              by_cases hz : X = 1
              · subst hz
                have HST1 := Lib.hid (show (L.take (k2 + 1)).foldl decE (lf, r.reverse) = (s.1.set t 0, (t : Int) :: s.2) by rw [HST.out]; simp)
                simp only [Int.sub_self] at HER5
                have hs3 : s.2.reverse.length ≤ 1002000 := by simpa using hs2
                clear HST hX0 hX1
                go_upto_region 20 with (fail)
                obtain ⟨W4, hW4⟩ : ∃ W4, wr.setCell ⟨w.heap.size + 1, t, none⟩ (.int .i64 0) = W4 := ⟨_, rfl⟩
                rw [hW4] at HER5 ⊢
                have hsz5 := HER5.out.sz
                clear hW4 r2 r3 q4
                go_wp2_with (at_builtin; go_must (refine wpList_app _ rfl (.tmp 89) (.tmp 91) _ rfl (w.heap.size + 2) 3 i0 _ 1 8 Tryz.underlying50 hi hz0 hz1 hz2 rfl (by omega) fI_len fI_one u5 _ rfl (HER5.out.o.alloc _) _ _ [(t : Int)] 1 rfl (Sl.new _ _ (t : Int) _ rfl) (by unfold maxLen; simp only [List.length_cons, List.length_nil]; omega) (by simp only [List.length_cons, List.length_nil]; omega) (by simp; omega) (fun _ => .inr ⟨_, rfl⟩) ?_); intro v2 w2 o2 gr2 at2 ne2)
                go_roundw
                case rel => exact ⟨k2 + 1, by omega, by go_num, by rw [HST1.out]; simp only [List.reverse_cons]; exact (HER5.out.alloc _).app o2 gr2⟩
                case measure => simp [intOf]; omega
              · have HST1 := Lib.hid (show (L.take (k2 + 1)).foldl decE (lf, r.reverse) = (s.1.set t (X - 1), s.2) by rw [HST.out, if_neg (by omega)])
                have d1 : (X - 1 == 0) = false := by simp; omega
                have d2 : ¬ X - 1 = 0 := by omega
                clear HST
                go_wp2
                go_roundw
                case rel => exact ⟨k2 + 1, by omega, by go_num, by rw [HST1.out]; exact HER5.out⟩
                case measure => simp [intOf]; omega
            · obtain rfl : k2 = L.length := by omega
              have hend2 := HEN.out
              have her5 := HER4.out
              rw [List.take_length] at her5
              have hsl := decEs_len L (lf, r.reverse)
              have hok := decEs_ok (M := M) L (lf, r.reverse) (fun x hx => HRO.out x (by simpa using hx)) HLO.out
              have HER6 := Lib.hid her5
              have HE2 := Lib.hid hend2; have HOK := Lib.hid hok; have HSL := Lib.hid hsl
              have hM2 := HTR.out wr her5.b
              clear her5 hend2 hok hsl HER4
              go_wp2
              go_roundw
              case rel => exact ⟨_, _, _, n', HER6.out, by rw [List.length_set]; exact HLE.out, by rw [HSL.out.1]; exact HLF.out, (fun x hx => HOK.out x (by simpa using hx)), by rw [List.reverse_reverse]; exact HE2.out⟩
              case measure => rw [hwb]; exact hM2

/-! partU5 -/
set_option linter.unusedVariables false
set_option linter.unusedSimpArgs false
open Go.RowKit

theorem endNo_moveU {x : Int} : endNo (moveE x) = x := by
  unfold endNo moveE
  simp only [decide_eq_true_eq]
  split <;> omega
theorem keyE_moveU (k : Nat) : keyE (moveE (k : Int)) = k := by
  unfold keyE; rw [endNo_moveU]; simp
theorem bef_count {p : Pl} {y x : Nat} : ∀ k, (befL p k y).count (x : Int) = if x < k then (leaveL p x).count (y : Int) else 0 := by
  intro k
  induction k with
  | zero => simp [befL]
  | succ k ih =>
    rw [befL_succ, List.count_append, ih]
    by_cases h : x = k
    · subst h
      rw [if_neg (by omega), if_pos (by omega)]
      generalize leaveL p x = l
      induction l with
      | nil => simp
      | cons z l ih2 =>
        simp only [List.filter_cons, List.count_cons]
        by_cases hz : (z == (y : Int)) = true
        · rw [if_pos hz, if_pos hz, List.map_cons, List.count_cons, if_pos (by simp)]; omega
        · rw [if_neg hz, if_neg hz]; omega
    · have h0 : List.count (x : Int) (((leaveL p k).filter fun z => z == (y : Int)).map fun _ => (k : Int)) = 0 := by
        rw [List.count_eq_zero]
        simp only [List.mem_map, not_exists, not_and]
        intro _ _; omega
      rw [h0, Nat.add_zero]
      by_cases h2 : x < k
      · rw [if_pos h2, if_pos (by omega)]
      · rw [if_neg h2, if_neg (by omega)]
theorem endless_some {p : Pl} (hv : Vld p) : ∃ n res, endl (befL p (2 * p.rails.length)) n (List.replicate (2 * p.rails.length) true) (lfL p (2 * p.rails.length) (2 * p.rails.length)) (endsL p (2 * p.rails.length)).reverse = some res ∧ Fin2 (2 * p.rails.length) (nextL p) res := by
  have hsz := of_decide_eq_true hv.sizes
  have hnb : ∀ t, t < 2 * p.rails.length → ∀ z ∈ nextL p t, ∃ u : Nat, z = u ∧ u < 2 * p.rails.length := fun t ht z hz => by
    have := nextL_bd hv ht z hz
    exact ⟨z.toNat, by omega, by omega⟩
  obtain ⟨M, hM⟩ : ∃ M, 2 * p.rails.length = M := ⟨_, rfl⟩
  rw [hM] at hnb ⊢
  have hgB : ∀ t, t < M → gB (List.replicate M true) t = true := fun t ht => by simp [gB, ht]
  have hgI : ∀ t, t < M → gI (lfL p M M) t = ((nextL p t).length : Int) := fun t ht => by simp [gI, lfL, ht]
  have hmem : ∀ x : Int, x ∈ (endsL p M).reverse ↔ ∃ t : Nat, x = t ∧ t < M ∧ (nextL p t).length = 0 := fun x => by
    rw [List.mem_reverse]
    unfold endsL
    rw [List.mem_map]
    constructor
    · rintro ⟨t, ht, rfl⟩
      obtain ⟨h1, h2⟩ := List.mem_filter.1 ht
      exact ⟨t, rfl, by simpa using h1, by simpa using h2⟩
    · rintro ⟨t, rfl, h1, h2⟩
      exact ⟨t, List.mem_filter.2 ⟨by simpa using h1, by simpa using h2⟩, rfl⟩
  have hei : EI M (nextL p) (List.replicate M true) (lfL p M M) (endsL p M).reverse [] := by
    refine ⟨by simp, lfL_len (Nat.le_refl _), ?_, ?_, List.nodup_nil, ?_, (fun t h => by cases h), trivial, ?_, ?_⟩
    · refine (List.reverse_perm _).nodup_iff.2 ?_
      unfold endsL
      unfold List.Nodup
      rw [List.pairwise_map]
      have := (List.nodup_range (n := M)).filter (fun t => decide ((nextL p t).length = 0))
      exact this.imp fun hne e => hne (by omega)
    · intro x hx
      obtain ⟨t, rfl, ht, h0⟩ := (hmem x).1 hx
      exact ⟨t, rfl, ht, hgB t ht, by rw [hgI t ht, h0]; rfl⟩
    · intro t ht
      rw [hgB t ht]; simp
    · intro t ht
      rw [hgI t ht, List.filter_eq_self.2]
      intro z hz
      obtain ⟨u, rfl, hu⟩ := hnb t ht z hz
      rw [Int.toNat_natCast]; exact hgB u hu
    · intro t ht _ h0
      rw [hgI t ht] at h0
      exact (hmem _).2 ⟨t, rfl, ht, by omega⟩
  obtain ⟨res, h1, h2⟩ := endl_ends (M := M) (nx := nextL p) (bf := befL p M) (fun t ht => ⟨by have := nextL_len p t; omega, hnb t ht⟩) (fun t _ => befL_bd) (fun b t hb _ => by
      rw [bef_count, if_pos hb]
      unfold nextL
      exact ((List.mergeSort_perm _ _).count_eq _).symm) (by omega) M (List.replicate M true) (lfL p M M) (endsL p M).reverse [] (by simp) hei
  exact ⟨_, res, h1, h2⟩

def EndlessPost (p : Pl) (res : List Bool) (w : World) (e : Ending) (w' : World) : Prop :=
  ((Vld p ∧ ∃ rb, e = .returned (.tuple #[.slice (some ⟨rb, 0, none⟩) (2 * p.rails.length) (2 * p.rails.length), .int .i64 0]) ∧ BRow w' rb res) ∨ (¬ Vld p ∧ e = .returned (.tuple #[.slice none 0 0, .int .i64 2]))) ∧ Below w.heap.size w w'
set_option maxRecDepth 100000 in
set_option maxHeartbeats 1000000 in
theorem Endless_any (A0 A20 : Option Addr) (c0 c20 n : Nat) (res : List Bool) (p : Pl) (w : World) (hP : PlAt w w.heap.size A0 c0 A20 c20 p)
    (hs : Vld p → endl (befL p (2 * p.rails.length)) n (List.replicate (2 * p.rails.length) true) (lfL p (2 * p.rails.length) (2 * p.rails.length)) (endsL p (2 * p.rails.length)).reverse = some res) :
    Calls Tryz.prog 22 #[.agg #[.slice A0 p.nodes.length c0, .slice A20 p.rails.length c20]] w (EndlessPost p res w) := by
  have HP := Lib.hid (hP.box (.cells #[.slice A0 p.nodes.length c0, .slice A20 p.rails.length c20] 25))
  have HB0 := Lib.hid ((Below.refl w.heap.size w).alloc (Nat.le_refl _) (.cells #[.slice A0 p.nodes.length c0, .slice A20 p.rails.length c20] 25))
  have HS := Lib.hid hs
  clear hP hs
  obtain ⟨M, hM⟩ : ∃ M, 2 * p.rails.length = M := ⟨_, rfl⟩
  have HM := Lib.hid hM
  rw [hM] at HS
  clear hM
  go_enter Tryz.func22, Tryz.ntmps22
  go_wp2_with fail
  refine (survey_any A0 A20 c0 c20 p _ HP.out).mono ?_
  rintro e w1 ⟨hb, ⟨hv, rfl⟩ | ⟨hv, g, rfl, hg, hN⟩⟩
  · have HV := Lib.hid hv; have HB := Lib.hid (HB0.out.trans (hb.mono (by simp))); clear hv hb
    go_wp2
    go_ret2
    exact ⟨.inr ⟨HV.out, rfl⟩, HB.out⟩
  · have HV := Lib.hid hv; have HB := Lib.hid (HB0.out.trans (hb.mono (by simp))); have HN := Lib.hid hN
    clear hv hb hN
    go_wp2_with fail
    refine (endless_any _ g n M res p _ HM.out HN.out (Nat.le_refl _) (HS.out HV.out)).mono ?_
    rintro e w2 ⟨⟨rb, rfl, hrow, _⟩, hb2⟩
    have HR := Lib.hid hrow
    have HB2 := Lib.hid (HB.out.trans (hb2.mono HB.out.size))
    clear hrow hb2
    go_wp2
    go_ret2
    exact ⟨.inl ⟨HV.out, rb, by rw [HM.out]; rfl, HR.out⟩, HB2.out⟩

/-! partJ1 -/
set_option linter.unusedVariables false
set_option linter.unusedSimpArgs false

/-- a way of one step or more -/
inductive Rch (nx : Nat → List Int) : Nat → Nat → Prop
  | one {a b : Nat} : (b : Int) ∈ nx a → Rch nx a b
  | more {a b c : Nat} : (b : Int) ∈ nx a → Rch nx b c → Rch nx a c
theorem Rch.trans {nx : Nat → List Int} {a b c : Nat} (h : Rch nx a b) (h2 : Rch nx b c) : Rch nx a c := by
  induction h with
  | one h => exact .more h h2
  | more h _ ih => exact .more h (ih h2)
theorem Rch.snoc {nx : Nat → List Int} {a b c : Nat} (h : Rch nx a b) (h2 : (c : Int) ∈ nx b) : Rch nx a c := h.trans (.one h2)
def gT (l : List Bool) (t : Nat) : Bool := l.getD t false
theorem gT_set {l : List Bool} {k t : Nat} {x : Bool} (hk : k < l.length) : gT (l.set k x) t = if t = k then x else gT l t := by
  unfold gT
  rw [List.getD_eq_getElem?_getD, List.getD_eq_getElem?_getD, List.getElem?_set]
  by_cases h : t = k
  · subst h; simp [hk]
  · rw [if_neg (fun e => h e.symm), if_neg h]
theorem gT_lt {l : List Bool} {k : Nat} (h : gT l k = true) : k < l.length := by
  unfold gT at h
  by_cases hk : k < l.length
  · exact hk
  · rw [List.getD_eq_getElem?_getD, List.getElem?_eq_none (by omega)] at h; simp at h
/-- how many are false -/
def fls (l : List Bool) : Nat := (l.filter fun b => !b).length
theorem fls_set {l : List Bool} {k : Nat} (hk : k < l.length) (h : gT l k = false) : fls (l.set k true) + 1 = fls l := by
  induction l generalizing k with
  | nil => simp at hk
  | cons b l ih =>
    cases k with
    | zero =>
      have : b = false := by simpa [gT] using h
      subst this
      simp [fls]
    | succ k =>
      have := ih (k := k) (by simpa using hk) (by simpa [gT] using h)
      unfold fls at this ⊢
      simp only [List.set_cons_succ, List.filter_cons]
      split
      · simp only [List.length_cons]; omega
      · exact this

/-! The specification's search: in the order of a queue. -/
def bfs (nx : Nat → List Int) : Nat → List Bool → List Int → Option (List Bool)
  | 0, _, _ => none
  | _ + 1, out, [] => some out
  | n + 1, out, x :: l => if gT out x.toNat then bfs nx n out l else bfs nx n (out.set x.toNat true) (l ++ nx x.toNat)
structure BIr (M : Nat) (nx : Nat → List Int) (a : Nat) (out : List Bool) (l : List Int) : Prop where
  len : out.length = M
  q : ∀ x ∈ l, ∃ t : Nat, x = t ∧ t < M ∧ Rch nx a t
  o : ∀ b, gT out b = true → Rch nx a b
  cl : ∀ b, gT out b = true → ∀ c : Nat, (c : Int) ∈ nx b → gT out c = true ∨ (c : Int) ∈ l
  st : ∀ c : Nat, (c : Int) ∈ nx a → gT out c = true ∨ (c : Int) ∈ l
theorem bfs_ends {M a : Nat} {nx : Nat → List Int} (hnx : ∀ t, t < M → ∀ z ∈ nx t, ∃ u : Nat, z = u ∧ u < M) :
    ∀ (f k : Nat) (out : List Bool) (l : List Int), fls out ≤ f → l.length ≤ k → BIr M nx a out l → ∃ n res, bfs nx n out l = some res ∧ res.length = M ∧ ∀ b, gT res b = true ↔ Rch nx a b := by
  intro f
  induction f with
  | zero =>
    intro k
    induction k with
    | zero =>
      intro out l hf hk h
      obtain rfl : l = [] := by cases l; rfl; simp at hk
      refine ⟨1, out, rfl, h.len, fun b => ⟨h.o b, fun hb => ?_⟩⟩
      suffices hh : ∀ x y, Rch nx x y → (x = a ∨ gT out x = true) → gT out y = true from hh a b hb (.inl rfl)
      intro x y hxy
      induction hxy with
      | one hm => rintro (rfl | hx)
                  · simpa using h.st _ hm
                  · simpa using h.cl _ hx _ hm
      | more hm _ ih => rintro (rfl | hx)
                        · exact ih (.inr (by simpa using h.st _ hm))
                        · exact ih (.inr (by simpa using h.cl _ hx _ hm))
    | succ k ih =>
      intro out l hf hk h
      cases l with
      | nil => exact ih out [] hf (by simp) h
      | cons x l =>
        obtain ⟨t, rfl, ht, hr⟩ := h.q x (by simp)
        have hT : gT out t = true := by
          cases e : gT out t with
          | true => rfl
          | false => have := fls_set (by rw [h.len]; exact ht) e; omega
        obtain ⟨n, res, h1, h2⟩ := ih out l hf (by simp at hk; omega) ⟨h.len, fun x hx => h.q x (by simp [hx]), h.o, fun b hb c hc => by
            rcases h.cl b hb c hc with h3 | h3
            · exact .inl h3
            · rcases List.mem_cons.1 h3 with h4 | h4
              · obtain rfl : c = t := by omega
                exact .inl hT
              · exact .inr h4, fun c hc => by
            rcases h.st c hc with h3 | h3
            · exact .inl h3
            · rcases List.mem_cons.1 h3 with h4 | h4
              · obtain rfl : c = t := by omega
                exact .inl hT
              · exact .inr h4⟩
        exact ⟨n + 1, res, by rw [bfs, Int.toNat_natCast, if_pos hT]; exact h1, h2⟩
  | succ f ihf =>
    intro k
    induction k with
    | zero =>
      intro out l hf hk h
      obtain rfl : l = [] := by cases l; rfl; simp at hk
      refine ⟨1, out, rfl, h.len, fun b => ⟨h.o b, fun hb => ?_⟩⟩
      suffices hh : ∀ x y, Rch nx x y → (x = a ∨ gT out x = true) → gT out y = true from hh a b hb (.inl rfl)
      intro x y hxy
      induction hxy with
      | one hm => rintro (rfl | hx)
                  · simpa using h.st _ hm
                  · simpa using h.cl _ hx _ hm
      | more hm _ ih => rintro (rfl | hx)
                        · exact ih (.inr (by simpa using h.st _ hm))
                        · exact ih (.inr (by simpa using h.cl _ hx _ hm))
    | succ k ih =>
      intro out l hf hk h
      cases l with
      | nil => exact ih out [] hf (by simp) h
      | cons x l =>
        obtain ⟨t, rfl, ht, hr⟩ := h.q x (by simp)
        cases hT : gT out t with
        | true =>
          obtain ⟨n, res, h1, h2⟩ := ih out l hf (by simp at hk; omega) ⟨h.len, fun x hx => h.q x (by simp [hx]), h.o, fun b hb c hc => by
              rcases h.cl b hb c hc with h3 | h3
              · exact .inl h3
              · rcases List.mem_cons.1 h3 with h4 | h4
                · obtain rfl : c = t := by omega
                  exact .inl hT
                · exact .inr h4, fun c hc => by
              rcases h.st c hc with h3 | h3
              · exact .inl h3
              · rcases List.mem_cons.1 h3 with h4 | h4
                · obtain rfl : c = t := by omega
                  exact .inl hT
                · exact .inr h4⟩
          exact ⟨n + 1, res, by rw [bfs, Int.toNat_natCast, if_pos hT]; exact h1, h2⟩
        | false =>
          have htl : t < out.length := by rw [h.len]; exact ht
          have hfs := fls_set htl hT
          obtain ⟨n, res, h1, h2⟩ := ihf (l ++ nx t).length (out.set t true) (l ++ nx t) (by omega) (Nat.le_refl _) ⟨by rw [List.length_set]; exact h.len, fun x hx => by
              rcases List.mem_append.1 hx with hx | hx
              · exact h.q x (by simp [hx])
              · obtain ⟨u, rfl, hu⟩ := hnx t ht x hx
                exact ⟨u, rfl, hu, hr.snoc hx⟩, fun b hb => by
              rw [gT_set htl] at hb
              by_cases e : b = t
              · subst e; exact hr
              · rw [if_neg e] at hb; exact h.o b hb, fun b hb c hc => by
              rw [gT_set htl] at hb ⊢
              by_cases e2 : c = t
              · subst e2; exact .inl (by simp)
              rw [if_neg e2]
              by_cases e : b = t
              · subst e; exact .inr (by simp [hc])
              · rw [if_neg e] at hb
                rcases h.cl b hb c hc with h3 | h3
                · exact .inl h3
                · rcases List.mem_cons.1 h3 with h4 | h4
                  · omega
                  · exact .inr (by simp [h4]), fun c hc => by
              rw [gT_set htl]
              by_cases e2 : c = t
              · subst e2; exact .inl (by simp)
              rw [if_neg e2]
              rcases h.st c hc with h3 | h3
              · exact .inl h3
              · rcases List.mem_cons.1 h3 with h4 | h4
                · omega
                · exact .inr (by simp [h4])⟩
          exact ⟨n + 1, res, by rw [bfs, Int.toNat_natCast, hT]; exact h1, h2⟩
theorem bfs_start {M a : Nat} {nx : Nat → List Int} (ha : a < M) (hnx : ∀ t, t < M → ∀ z ∈ nx t, ∃ u : Nat, z = u ∧ u < M) :
    ∃ n res, bfs nx n (List.replicate M false) (nx a) = some res ∧ res.length = M ∧ ∀ b, gT res b = true ↔ Rch nx a b := by
  refine bfs_ends hnx _ _ _ _ (Nat.le_refl _) (Nat.le_refl _) ⟨by simp, fun x hx => ?_, fun b hb => ?_, fun b hb => ?_, fun c hc => .inr hc⟩
  · obtain ⟨u, rfl, hu⟩ := hnx a ha x hx
    exact ⟨u, rfl, hu, .one hx⟩
  · exfalso
    have := gT_lt hb
    unfold gT at hb
    rw [List.getD_eq_getElem?_getD, List.getElem?_replicate] at hb
    split at hb <;> simp at hb
  · exfalso
    unfold gT at hb
    rw [List.getD_eq_getElem?_getD, List.getElem?_replicate] at hb
    split at hb <;> simp at hb

/-! The program's search: with a stack; it ends at the wanted one. -/
def visE (s : List Bool × List Int) (z : Int) : List Bool × List Int := if gT s.1 z.toNat then s else (s.1.set z.toNat true, z :: s.2)
def dfs (nx : Nat → List Int) (g : Nat) : Nat → List Bool → List Int → Option Bool
  | 0, _, _ => none
  | n + 1, sn, st => match st with
    | [] => some (gT sn g)
    | x :: l => if gT sn g then some true else dfs nx g n ((nx x.toNat).foldl visE (sn, l)).1 ((nx x.toNat).foldl visE (sn, l)).2
theorem vis_is {M : Nat} : ∀ (L : List Int) (s : List Bool × List Int), s.1.length = M → (∀ z ∈ L, ∃ u : Nat, z = u ∧ u < M) →
    (L.foldl visE s).1.length = M ∧ fls (L.foldl visE s).1 + (L.foldl visE s).2.length = fls s.1 + s.2.length ∧
    (∀ b, gT (L.foldl visE s).1 b = true ↔ gT s.1 b = true ∨ (b : Int) ∈ L) ∧ (∀ x ∈ s.2, x ∈ (L.foldl visE s).2) ∧
    (∀ x ∈ (L.foldl visE s).2, x ∈ s.2 ∨ x ∈ L) ∧ (∀ b : Nat, gT (L.foldl visE s).1 b = true → gT s.1 b = true ∨ (b : Int) ∈ (L.foldl visE s).2) := by
  intro L
  induction L with
  | nil => intro s hs _; exact ⟨hs, rfl, fun b => by simp, fun x hx => hx, fun x hx => .inl hx, fun b hb => .inl hb⟩
  | cons z L ih =>
    intro s hs hL
    obtain ⟨u, rfl, hu⟩ := hL z (by simp)
    have hL2 : ∀ z ∈ L, ∃ u : Nat, z = u ∧ u < M := fun z hz => hL z (by simp [hz])
    rw [List.foldl_cons]
    cases hg : gT s.1 u with
    | true =>
      have e : visE s (u : Int) = s := by unfold visE; rw [Int.toNat_natCast, if_pos hg]
      rw [e]
      obtain ⟨h1, h2, h3, h4, h5, h6⟩ := ih s hs hL2
      refine ⟨h1, h2, fun b => ?_, h4, fun x hx => ?_, h6⟩
      · rw [h3 b, List.mem_cons]
        constructor
        · rintro (h | h)
          · exact .inl h
          · exact .inr (.inr h)
        · rintro (h | h | h)
          · exact .inl h
          · obtain rfl : b = u := by omega
            exact .inl hg
          · exact .inr h
      · rcases h5 x hx with h | h
        · exact .inl h
        · exact .inr (by simp [h])
    | false =>
      have e : visE s (u : Int) = (s.1.set u true, (u : Int) :: s.2) := by unfold visE; rw [Int.toNat_natCast, hg]; rfl
      rw [e]
      have hul : u < s.1.length := by omega
      obtain ⟨h1, h2, h3, h4, h5, h6⟩ := ih (s.1.set u true, (u : Int) :: s.2) (by simp [hs]) hL2
      have hf := fls_set hul hg
      refine ⟨h1, by rw [h2]; simp only [List.length_cons]; omega, fun b => ?_, fun x hx => h4 x (by simp [hx]), fun x hx => ?_, fun b hb => ?_⟩
      · rw [h3 b, gT_set hul, List.mem_cons]
        by_cases e : b = u
        · subst e; simp
        · rw [if_neg e]
          constructor
          · rintro (h | h)
            · exact .inl h
            · exact .inr (.inr h)
          · rintro (h | h | h)
            · exact .inl h
            · omega
            · exact .inr h
      · rcases h5 x hx with h | h
        · rcases List.mem_cons.1 h with rfl | h
          · exact .inr (by simp)
          · exact .inl h
        · exact .inr (by simp [h])
      · rcases h6 b hb with h | h
        · rw [gT_set hul] at h
          by_cases e : b = u
          · subst e; exact .inr (h4 _ (by simp))
          · rw [if_neg e] at h; exact .inl h
        · exact .inr h
structure DIr (M : Nat) (nx : Nat → List Int) (a : Nat) (sn : List Bool) (st : List Int) : Prop where
  len : sn.length = M
  fa : gT sn a = true
  q : ∀ x ∈ st, ∃ t : Nat, x = t ∧ t < M ∧ gT sn t = true
  o : ∀ b, gT sn b = true → b = a ∨ Rch nx a b
  cl : ∀ b : Nat, gT sn b = true → (b : Int) ∈ st ∨ ∀ c : Nat, (c : Int) ∈ nx b → gT sn c = true
theorem dfs_ends {M a g : Nat} {nx : Nat → List Int} (hnx : ∀ t, t < M → ∀ z ∈ nx t, ∃ u : Nat, z = u ∧ u < M) :
    ∀ (n : Nat) (sn : List Bool) (st : List Int), fls sn + st.length ≤ n → DIr M nx a sn st → ∃ r, dfs nx g (n + 1) sn st = some r ∧ (r = true ↔ g = a ∨ Rch nx a g) := by
  intro n
  have fin : ∀ sn, DIr M nx a sn [] → (gT sn g = true ↔ g = a ∨ Rch nx a g) := fun sn h => by
    refine ⟨h.o g, ?_⟩
    rintro (rfl | hr)
    · exact h.fa
    · suffices hh : ∀ x y, Rch nx x y → gT sn x = true → gT sn y = true from hh a g hr h.fa
      intro x y hxy
      induction hxy with
      | one hm => intro hx
                  rcases h.cl _ hx with h1 | h1
                  · cases h1
                  · exact h1 _ hm
      | more hm _ ih => intro hx
                        rcases h.cl _ hx with h1 | h1
                        · cases h1
                        · exact ih (h1 _ hm)
  induction n with
  | zero =>
    intro sn st hn h
    obtain rfl : st = [] := by cases st; rfl; simp at hn
    exact ⟨_, rfl, fin sn h⟩
  | succ n ih =>
    intro sn st hn h
    cases st with
    | nil => exact ⟨_, rfl, fin sn h⟩
    | cons x l =>
      rw [dfs]
      by_cases hg : gT sn g = true
      · simp only [if_pos hg]
        exact ⟨true, rfl, fun _ => h.o g hg, fun _ => rfl⟩
      · simp only [if_neg hg]
        obtain ⟨t, rfl, ht, hgt⟩ := h.q x (by simp)
        rw [Int.toNat_natCast]
        have hR : ∀ c : Nat, (c : Int) ∈ nx t → Rch nx a c := fun c hc => by
          rcases h.o t hgt with rfl | h1
          · exact .one hc
          · exact h1.snoc hc
        obtain ⟨h1, h2, h3, h4, h5, h6⟩ := vis_is (nx t) (sn, l) h.len (hnx t ht)
        refine ih _ _ (by rw [h2]; simp only [List.length_cons] at hn ⊢; omega) ⟨h1, (h3 a).2 (.inl h.fa), fun x hx => ?_, fun b hb => ?_, fun b hb => ?_⟩
        · rcases h5 x hx with h7 | h7
          · obtain ⟨u, rfl, hu, hgu⟩ := h.q x (by simp [h7])
            exact ⟨u, rfl, hu, (h3 u).2 (.inl hgu)⟩
          · obtain ⟨u, rfl, hu⟩ := hnx t ht x h7
            exact ⟨u, rfl, hu, (h3 u).2 (.inr h7)⟩
        · rcases (h3 b).1 hb with h7 | h7
          · exact h.o b h7
          · exact .inr (hR b h7)
        · rcases h6 b hb with h7 | h7
          · rcases h.cl b h7 with h8 | h8
            · rcases List.mem_cons.1 h8 with h9 | h9
              · obtain rfl : b = t := by omega
                exact .inr fun c hc => (h3 c).2 (.inr hc)
              · exact .inl (h4 _ h9)
            · exact .inr fun c hc => (h3 c).2 (.inl (h8 c hc))
          · exact .inl h7
theorem gT_rep {M b : Nat} : gT (List.replicate M false) b = false := by
  unfold gT
  rw [List.getD_eq_getElem?_getD, List.getElem?_replicate]
  split <;> simp
theorem dfs_start {M a g : Nat} {nx : Nat → List Int} (ha : a < M) (hnx : ∀ t, t < M → ∀ z ∈ nx t, ∃ u : Nat, z = u ∧ u < M) :
    ∃ n r, dfs nx g n ((List.replicate M false).set a true) [(a : Int)] = some r ∧ (r = true ↔ g = a ∨ Rch nx a g) := by
  have hl : a < (List.replicate M false).length := by simpa using ha
  have hT : ∀ b, gT ((List.replicate M false).set a true) b = true → b = a := fun b hb => by
    rw [gT_set hl, gT_rep] at hb
    by_cases e : b = a
    · exact e
    · rw [if_neg e] at hb; cases hb
  have h0 : DIr M nx a ((List.replicate M false).set a true) [(a : Int)] := ⟨by simp, by rw [gT_set hl]; simp, fun x hx => by
      obtain rfl : x = (a : Int) := by simpa using hx
      exact ⟨a, rfl, ha, by rw [gT_set hl]; simp⟩, fun b hb => .inl (hT b hb), fun b hb => .inl (by rw [hT b hb]; simp)⟩
  obtain ⟨r, h⟩ := dfs_ends (g := g) hnx _ _ _ (Nat.le_refl _) h0
  exact ⟨_, r, h⟩

/-! partJ2 -/
set_option linter.unusedVariables false
set_option linter.unusedSimpArgs false
open Go.RowKit

section
variable {w w' wr : World} {S : Nat} {v : Value} {sn : List Bool} {q : List Int}
/-- the row of 'reaches', and its stack -/
structure RR (w wr : World) (S : Nat) (v : Value) (sn : List Bool) (q : List Int) : Prop where
  b : BRow wr S sn
  o : Own wr (S + 1) 3 1 fI v q
  be : Below S w wr
theorem RR.sz (h : RR w wr S v sn q) : S + 1 ≤ wr.heap.size := h.b.lt
theorem RR.setB (h : RR w wr S v sn q) (k : Nat) (x : Bool) : RR w (wr.setCell ⟨S, k, none⟩ (.bool x)) S v (sn.set k x) q :=
  ⟨h.b.setB k x, h.o.of_blocks fun m hm => Below.heap_setCell _ _ _ _ (by have := (h.o.lt m hm).1; simp; omega), h.be.setCell (p := ⟨S, k, none⟩) (Nat.le_refl _) _⟩
theorem RR.alloc (h : RR w wr S v sn q) (o : Obj) : RR w (wr.alloc o) S v sn q :=
  ⟨h.b.of (Below.heap_alloc wr o S h.b.lt), h.o.alloc o, h.be.alloc (by have := h.sz; omega) o⟩
theorem RR.app {v2 : Value} {w2 : World} {q2 : List Int} (h : RR w wr S v sn q) (ho : Own w2 (S + 1) 3 1 fI v2 q2) (hg : wr.grownBy w2 v.ownBlock) : RR w w2 S v2 sn q2 := by
  have hb : Below (S + 1) wr w2 := (Below.refl _ _).grown hg h.sz fun k hk => (h.o.lt k hk).1
  exact ⟨h.b.below hb (by omega), ho, h.be.trans (hb.mono (by omega))⟩
end
/-- how many bools in a block are false -/
def fal (w : World) (S : Nat) : Nat := match w.heap[S]? with
  | some (.cells cs _ _) => (cs.toList.filter fun v => match v with | .bool true => false | _ => true).length
  | _ => 0
theorem fal_is {w : World} {S : Nat} {sn : List Bool} (h : BRow w S sn) : fal w S = fls sn := by
  unfold fal fls
  unfold BRow at h
  rw [h]
  simp only
  clear h
  induction sn with
  | nil => rfl
  | cons b l ih =>
    simp only [List.map_cons, List.filter_cons] at ih ⊢
    cases b
    · simpa using ih
    · simpa using ih
def lenV : Value → Nat
  | .slice _ n _ => n
  | _ => 0

set_option maxRecDepth 100000 in
set_option maxHeartbeats 4000000 in
theorem reaches_any (B g n M a t : Nat) (r : Bool) (p : Pl) (w : World) (hM : 2 * p.rails.length = M) (h : Nw w B g p) (hB : B ≤ w.heap.size) (ha : a < M) (ht : t < M)
    (hs : dfs (nextL p) t n ((List.replicate M false).set a true) [(a : Int)] = some r) :
    Calls Tryz.prog 60 #[.pointer (some ⟨g, 0, none⟩), .int .i64 (a : Int), .int .i64 (t : Int)] w fun e w' => e = .returned (.bool r) ∧ Below w.heap.size w w' := by
  have hsz := h.sizes
  have hgB := h.gB
  have hv := h.v
  obtain ⟨A1, c1, A2, c2, lb, sb, nb, bb, hN, x1, x2, x3, x4, x5, x6⟩ := h.net
  obtain ⟨_, _, k2, _, k4, k5⟩ := hN.cell
  rw [hM] at k4 k5 x5 x6
  have hM8 : M ≤ 800 := by omega
  have hM8' : (M : Int) ≤ 800 := by omega
  have hnb : ∀ u, u < M → ∀ z ∈ nextL p u, ∃ x : Nat, z = x ∧ x < M := fun u hu z hz => by
    have := nextL_bd hv (by omega) z hz
    exact ⟨z.toNat, by omega, by omega⟩
  obtain ⟨i0, hi, hz0, hz1, hz2⟩ := info_parts inf3
  obtain ⟨i1, hi1, hy0, hy1, hy2⟩ := info_parts inf4
  have hmb : ∀ W : World, (Instr.makeSlice 57 (.int .i64 (M : Int)) (.int .i64 (M : Int))).run Tryz.prog W = .ok (.slice (some ⟨W.heap.size, 0, none⟩) M M) (W.alloc (.cells (madeCells #[.bool false] M) 4)) := fun W => by
    have := run_mk (P := Tryz.prog) 57 4 i1 _ 1 Tryz.underlying57 hi1 hy0 hy1 (M : Int) (M : Int) M M rfl rfl (by omega) (by rw [hy2]; omega) (by omega) W
    rw [this, Nat.mul_one]; rfl
  have HN5 := Lib.hid x5
  have HNB := Lib.hid hnb
  have HS := Lib.hid hs
  have hgl : g < w.heap.size := by omega
  have hb1 := BRow.made w M
  have r0 := hb1.cell (i := a) (by simpa using ha)
  have r1 := hb1.fro a
  rw [List.getElem_replicate] at r0
  have HK4 := Lib.hid k4
  have hWW : (w.alloc (.cells (madeCells #[.bool false] M) 4)).setCell ⟨w.heap.size, a, none⟩ (.bool true) = w.alloc (.cells ((madeCells #[.bool false] M).setIfInBounds a (.bool true)) 4) := World.setCell_alloc_at _ _ _ _ _ rfl
  have HE0 := Lib.hid (show RR w (((w.alloc (.cells (madeCells #[.bool false] M) 4)).setCell ⟨w.heap.size, a, none⟩ (.bool true)).alloc (.cells #[.int .i64 (a : Int)] 3)) w.heap.size (.slice (some ⟨w.heap.size + 1, 0, none⟩) 1 1) ((List.replicate M false).set a true) [(a : Int)] from by
    have h2 := hb1.setB a true
    have h3 := Own.built (f := fI) (size := 1) ((w.alloc (.cells (madeCells #[.bool false] M) 4)).setCell ⟨w.heap.size, a, none⟩ (.bool true)) (w.heap.size + 1) 3 (a : Int) #[.int .i64 (a : Int)] rfl fI_len (by simp)
    rw [show ((w.alloc (.cells (madeCells #[.bool false] M) 4)).setCell ⟨w.heap.size, a, none⟩ (.bool true)).heap.size = w.heap.size + 1 by simp] at h3
    exact ⟨h2.of (Below.heap_alloc _ _ _ h2.lt), h3, (((Below.refl _ w).alloc (Nat.le_refl _) _).setCell (p := ⟨w.heap.size, a, none⟩) (Nat.le_refl _) _).alloc (by simp) _⟩)
  rw [hWW] at HE0
  clear hWW
  have ha0 : (0 : Int) ≤ (a : Int) := by omega
  have ha1 : (a : Int) < (M : Int) := by omega
  have ht0 : (0 : Int) ≤ (t : Int) := by omega
  have ht1 : (t : Int) < (M : Int) := by omega
  have c0 := fun i => cell_keep1 (w := w) (b := g) (i := i) (o := .cells (madeCells #[.bool false] M) 4) rfl hgl
  clear h hN x3 x4 x5 x6 hs hb1
  go_enter Tryz.func60, Tryz.ntmps60
  go_wp2
  clear hmb r0 r1
  generalize ((w.alloc (.cells ((madeCells #[.bool false] M).setIfInBounds a (.bool true)) 4)).alloc (.cells #[.int .i64 (a : Int)] 3)) = W2 at *
  go_loopw [8] (fun v wr => ∃ (sn : List Bool) (q : List Int) (n' : Nat), RR w wr w.heap.size v sn q ∧ sn.length = M ∧ fls sn + q.length ≤ M ∧ (∀ x ∈ q, ∃ u : Nat, x = u ∧ u < M) ∧ dfs (nextL p) t n' sn q.reverse = some r) (fun v wr => fal wr w.heap.size + lenV v)
  case atStart => exact ⟨_, _, n, HE0.out, by simp, by
    have := fls_set (l := List.replicate M false) (k := a) (by simpa using ha) gT_rep
    have h2 : fls (List.replicate M false) ≤ M := by unfold fls; have := List.length_filter_le (fun b : Bool => !b) (List.replicate M false); rwa [List.length_replicate] at this
    simp; omega, (fun x hx => ⟨a, by simpa using hx, ha⟩), HS.out⟩
  case round =>
    obtain ⟨sn, q, n', her2, hsn, hfl, hq, hend⟩ := hrel
    have htl : t < sn.length := by omega
    have r2 := her2.b.cell htl
    have HG := Lib.hid (show gT sn t = sn[t] by unfold gT; rw [List.getD_eq_getElem?_getD, List.getElem?_eq_getElem htl]; rfl)
    obtain ⟨u0, hu0⟩ : ∃ x, sn[t] = x := ⟨_, rfl⟩
    rw [hu0] at r2 HG
    clear hu0
    cases n' with
    | zero => simp [dfs] at hend
    | succ n' =>
    rcases List.eq_nil_or_concat q with rfl | ⟨l, x, rfl⟩
    · obtain ⟨Av, cv, hv8, _, _, _⟩ := her2.o.form
      have hv9 : u8 = .slice Av 0 cv := hv8
      subst hv9
      clear hv8
      have HQ := Lib.hid (show u0 = r by simpa [dfs, HG.out] using hend)
      have HER2 := Lib.hid her2
      clear her2 hend hq hsn hfl
      go_wp2
      go_ret
      exact ⟨by rw [HQ.out]; rfl, HER2.out.be⟩
    · rw [List.concat_eq_append] at her2 hq hend hfl
      obtain ⟨m, rfl, hm⟩ := hq x (by simp)
      obtain ⟨gq, cq, rfl, hgq, hcell, hown, hqc, hqm, hgl2⟩ := her2.o.last
      have hend' : dfs (nextL p) t (n' + 1) sn ((m : Int) :: l.reverse) = some r := by simpa using hend
      rw [dfs] at hend'
      cases u0
      case true =>
        have HQ := Lib.hid (show r = true by simpa [HG.out] using hend'.symm)
        have HER2 := Lib.hid her2
        have hlv : (0 : Int) < (l.length : Int) + 1 := by omega
        clear her2 hend hend' hq hown hcell hgq hfl hsn
        go_wp2
        go_ret
        exact ⟨by rw [HQ.out]; rfl, HER2.out.be⟩
      case false =>
      have hend2 : dfs (nextL p) t n' ((nextL p m).foldl visE (sn, l.reverse)).1 ((nextL p m).foldl visE (sn, l.reverse)).2 = some r := by
        simpa [HG.out] using hend'
      have hfl2 : fls sn + l.length + 1 ≤ M := by simp at hfl; omega
      obtain ⟨Ab, cb, m0, m1, m2, m3⟩ := HN5.out.2 m hm
      have hLl : (nextL p m).length ≤ 1600 := by have := nextL_len p m; omega
      have HLO := Lib.hid (HNB.out m hm)
      have HVI := Lib.hid (fun k => vis_is (M := M) ((nextL p m).take k) (sn, l.reverse) hsn (fun z hz => HLO.out z (List.mem_of_mem_take hz)))
      have HVE := Lib.hid (vis_is (M := M) (nextL p m) (sn, l.reverse) hsn HLO.out)
      have HQL := Lib.hid (show ∀ x ∈ l, ∃ u : Nat, x = u ∧ u < M from fun x hx => hq x (by simp [hx]))
      obtain ⟨L, hL⟩ : ∃ L, nextL p m = L := ⟨_, rfl⟩
      rw [hL] at m0 m1 m3 hLl HLO HVI HVE hend2
      have HM3 := Lib.hid m3
      have HER2 := Lib.hid (show RR w wr w.heap.size (.slice (some ⟨gq, 0, none⟩) l.length cq) sn l from ⟨her2.b, hown, her2.be⟩)
      have HEN := Lib.hid hend2
      have HFA := Lib.hid (fal_is her2.b)
      obtain ⟨N, hN⟩ : ∃ x, l.length = x := ⟨_, rfl⟩
      have HNN := Lib.hid hN
      rw [hN] at hcell hqc hfl2 HER2 ⊢
      have hN0 : (0 : Int) ≤ (N : Int) := by omega
      have hN1 : (N : Int) < (N : Int) + 1 := by omega
      have hN2 : (0 : Int) < (N : Int) + 1 := by omega
      have hNc : (N : Int) ≤ (cq : Int) := by omega
      have hN8 : N ≤ 800 := by omega
      have hcm : (cq : Int) ≤ 9223372036854775807 := by unfold maxLen at hqm; omega
      have hwr1 : IntKind.i64.wrap ((N : Int) + 1 - 1) = (N : Int) := by rw [IntKind.wrap_i64]; omega
      have hwr2 : IntKind.i64.wrap (N : Int) = (N : Int) := by rw [IntKind.wrap_i64]; omega
      have hm0 : (0 : Int) ≤ (m : Int) := by omega
      have hm1 : (m : Int) < (M : Int) := by omega
      have hmb0 : nb < w.heap.size := by have := HN5.out.1; omega
      have q0 := (HER2.out.be.cell (p := ⟨g, 4, none⟩) hgl).trans HK4.out
      have q1 := (HER2.out.be.cell (p := ⟨nb, m, none⟩) hmb0).trans m0
      have HFL := Lib.hid hfl2
      clear her2 hend hend' hend2 hown hq hL m3 hN hqm hfl hfl2 m0
      go_wp2
      obtain ⟨wb, hwb⟩ : ∃ x, wr = x := ⟨_, rfl⟩
      rw [hwb] at HFA
      go_loopw [8, 52] (fun v j wr3 => ∃ k2 : Nat, k2 ≤ L.length ∧ j = .int .i64 (k2 : Int) ∧ RR w wr3 w.heap.size v ((L.take k2).foldl visE (sn, l.reverse)).1 ((L.take k2).foldl visE (sn, l.reverse)).2.reverse) (fun _ j _ => L.length - (intOf j).toNat)
      case atStart => exact ⟨0, Nat.zero_le _, rfl, by have := HER2.out; simpa using this⟩
      case round =>
        obtain ⟨k2, hk2, rfl, her4⟩ := hrel
        have HER4 := Lib.hid her4
        have hsz4 := her4.sz
        clear her4
        by_cases hlt2 : k2 < L.length
        · obtain ⟨z, hLz, hzM⟩ := HLO.out L[k2] (List.getElem_mem hlt2)
          obtain ⟨b3, o3, rfl, g3, q3⟩ := int_at HM3.out hlt2
          have q4 := (HER4.out.be.cell (p := ⟨b3, o3 + k2, none⟩) (by simp; omega)).trans q3
          rw [hLz] at q4
          have hstep := foldl_take visE (sn, l.reverse) L hlt2
          rw [hLz] at hstep
          obtain ⟨v1, v2, v3, v4, v5, v6⟩ := HVI.out k2
          obtain ⟨s, hs⟩ : ∃ s, (L.take k2).foldl visE (sn, l.reverse) = s := ⟨_, rfl⟩
          rw [hs] at hstep v1 v2 HER4
          have hs2 : s.2.length ≤ 800 := by have := HFL.out; have := HNN.out; simp at v2; omega
          have hzl : z < s.1.length := by omega
          obtain ⟨X, hX⟩ : ∃ x, s.1[z] = x := ⟨_, rfl⟩
          have hgz : gT s.1 z = X := by unfold gT; rw [List.getD_eq_getElem?_getD, List.getElem?_eq_getElem hzl, ← hX]; rfl
          have r2 := HER4.out.b.cell hzl
          have r3 := HER4.out.b.fro z
          rw [hX] at r2
          have HST := Lib.hid (show (L.take (k2 + 1)).foldl visE (sn, l.reverse) = if X then s else (s.1.set z true, (z : Int) :: s.2) by rw [hstep]; unfold visE; simp only [Int.toNat_natCast, hgz])
          have hz0' : (0 : Int) ≤ (z : Int) := by omega
          have hz1' : (z : Int) < (M : Int) := by omega
          have hj0 : (0 : Int) ≤ (k2 : Int) := by omega
          have hj1 : (k2 : Int) < (L.length : Int) := by omega
          clear hstep hs hX hgz hzl q3 hLz q0 q1 v1 v2 v3 v4 v5 v6 hwb
          cases X
          case true =>
            have HST1 := Lib.hid (show (L.take (k2 + 1)).foldl visE (sn, l.reverse) = s by rw [HST.out, if_pos rfl])
            go_wp2
            go_roundw
            case rel => exact ⟨k2 + 1, by omega, by go_num, by rw [HST1.out]; exact HER4.out⟩
            case measure => simp [intOf]; omega
          case false =>
            have HST1 := Lib.hid (show (L.take (k2 + 1)).foldl visE (sn, l.reverse) = (s.1.set z true, (z : Int) :: s.2) by rw [HST.out]; rfl)
            have HER5 := Lib.hid (HER4.out.setB z true)
            have hs3 : s.2.reverse.length ≤ 800 := by simpa using hs2
            go_upto_region 12 with (fail)
            obtain ⟨W4, hW4⟩ : ∃ W4, wr.setCell ⟨w.heap.size, z, none⟩ (.bool true) = W4 := ⟨_, rfl⟩
            rw [hW4] at HER5 ⊢
            have hsz5 := HER5.out.sz
            clear hW4 r2 r3 q4
            go_wp2_with (at_builtin; go_must (refine wpList_app _ rfl (.tmp 64) (.tmp 66) _ rfl (w.heap.size + 1) 3 i0 _ 1 8 Tryz.underlying50 hi hz0 hz1 hz2 rfl (by omega) fI_len fI_one u8 _ rfl (HER5.out.o.alloc _) _ _ [(z : Int)] 1 rfl (Sl.new _ _ (z : Int) _ rfl) (by unfold maxLen; simp only [List.length_cons, List.length_nil]; omega) (by simp only [List.length_cons, List.length_nil]; omega) (by simp; omega) (fun _ => .inr ⟨_, rfl⟩) ?_); intro v2 w2 o2 gr2 at2 ne2)
            go_roundw
            case rel => exact ⟨k2 + 1, by omega, by go_num, by rw [HST1.out]; simp only [List.reverse_cons]; exact (HER5.out.alloc _).app o2 gr2⟩
            case measure => simp [intOf]; omega
        · obtain rfl : k2 = L.length := by omega
          have her5 := HER4.out
          rw [List.take_length] at her5
          obtain ⟨v1, v2, v3, v4, v5, v6⟩ := HVE.out
          have hfe := fal_is her5.b
          obtain ⟨A6, c6, hu8, _, _, _⟩ := her5.o.form
          have hfl3 := HFL.out
          have hnn := HNN.out
          have hm2 : fal wr w.heap.size + lenV u8 < fls sn + (N + 1) := by
            rw [hfe, hu8]
            simp only [lenV, List.length_reverse]
            simp only [List.length_reverse] at v2
            omega
          have HM2 := Lib.hid hm2
          have HER6 := Lib.hid her5
          have hf7 : fls ((L.foldl visE (sn, l.reverse)).1) + ((L.foldl visE (sn, l.reverse)).2.reverse).length ≤ M := by
            simp only [List.length_reverse] at v2 ⊢
            omega
          have HF7 := Lib.hid hf7
          have HOK := Lib.hid (show ∀ x ∈ (L.foldl visE (sn, l.reverse)).2.reverse, ∃ u : Nat, x = u ∧ u < M from fun x hx => by
            rcases v5 x (by simpa using hx) with h | h
            · exact HQL.out x (by simpa using h)
            · exact HLO.out x h)
          have HV1 := Lib.hid v1
          clear her5 HER4 v1 v2 v3 v4 v5 v6 hfe hm2 hf7
          go_wp2
          go_roundw
          case rel => exact ⟨_, _, n', HER6.out, HV1.out, HF7.out, HOK.out, by rw [List.reverse_reverse]; exact HEN.out⟩
          case measure =>
            have := HM2.out
            rw [hwb, HFA.out]
            simpa [lenV] using this

/-! partJ3 -/
set_option linter.unusedVariables false
set_option linter.unusedSimpArgs false
open Go.RowKit

theorem grown_setCells (b : Nat) : ∀ (vs : List Value) (o : Nat) (w : World), w.grownBy (w.setCells b o vs) (some b)
  | [], _, w => ⟨rfl, rfl, rfl, Nat.le_refl _, fun _ _ _ => rfl⟩
  | v :: r, o, w => by
    have h := grown_setCells b r (o + 1) (w.setCell ⟨b, o, none⟩ v)
    have hb := (Below.refl 0 w).setCell (p := ⟨b, o, none⟩) (Nat.zero_le _) v
    refine ⟨h.os.trans hb.os, h.tape.trans hb.tape, h.output.trans hb.output, Nat.le_trans hb.size h.size, fun k hk hne => ?_⟩
    refine (h.block k (by simpa using hk) hne).trans (Below.heap_setCell _ _ _ _ (by simp; intro e; exact hne (by rw [e])))
/-- a part of a block of the call's own: from an offset on, with its spare cells -/
structure OTs (w : World) (base g off cap : Nat) (l : List E) : Prop where
  hb : base ≤ g
  hg : g < w.heap.size
  le : l.length ≤ cap
  cm : cap ≤ maxLen
  cells : ∀ (j : Nat) (u : Value), (l.flatMap fE)[j]? = some u → w.cell? ⟨g, off + j, none⟩ = some u
  spare : ∀ j, j < cap * 2 → (w.cell? ⟨g, off + j, none⟩).isSome = true ∧ w.frozen? ⟨g, off + j, none⟩ = false
def OT (w : World) (base : Nat) (v : Value) (l : List E) : Prop :=
  (l = [] ∧ v = .slice none 0 0) ∨ ∃ g off cap, v = .slice (some ⟨g, off, none⟩) l.length cap ∧ OTs w base g off cap l
section
variable {w w' : World} {base g off cap : Nat} {v : Value} {l m : List E}
theorem Own.ot (h : Own w base 27 2 fE v l) : OT w base v l := by
  rcases h.2 with ⟨rfl, hn⟩ | ⟨g, cap, cur, rfl, hb, hg, hn, hm, hs, ht⟩
  · exact .inl ⟨List.eq_nil_of_length_eq_zero hn, rfl⟩
  · refine .inr ⟨g, 0, cap, rfl, hb, (Array.getElem?_eq_some_iff.1 hg).1, hn, hm, fun j u hu => ?_, fun j hj => ?_⟩
    · have hj := (List.getElem?_eq_some_iff.1 hu).1
      have hl := flat_len fE_len l
      rw [cell_of_row w g (0 + j) cur 27 (0, 0) hg, Nat.zero_add, ← hu, ← ht, List.getElem?_take, if_pos (by omega), Array.getElem?_toList]
    · rw [cell_of_row w g (0 + j) cur 27 (0, 0) hg, Nat.zero_add]
      exact ⟨by rw [Array.getElem?_eq_getElem (by omega)]; rfl, frozen_of_row w g j cur 27 hg⟩
theorem OTs.of (h : OTs w base g off cap l) (e : w'.heap[g]? = w.heap[g]?) (hs : w.heap.size ≤ w'.heap.size) : OTs w' base g off cap l :=
  ⟨h.hb, Nat.lt_of_lt_of_le h.hg hs, h.le, h.cm, fun j u hu => (World.cell?_of_block e).trans (h.cells j u hu), fun j hj => by
    rw [World.cell?_of_block (a := ⟨g, off + j, none⟩) e, World.frozen?_of_block (a := ⟨g, off + j, none⟩) e]; exact h.spare j hj⟩
theorem OT.of (h : OT w base v l) (e : ∀ k, v.ownBlock = some k → w'.heap[k]? = w.heap[k]?) (hs : w.heap.size ≤ w'.heap.size) : OT w' base v l := by
  rcases h with h | ⟨g, off, cap, rfl, h⟩
  · exact .inl h
  · exact .inr ⟨g, off, cap, rfl, h.of (e g rfl) hs⟩
theorem OT.lt (h : OT w base v l) : ∀ k, v.ownBlock = some k → base ≤ k ∧ k < w.heap.size := by
  rcases h with ⟨_, rfl⟩ | ⟨g, off, cap, rfl, h⟩
  · intro k hk; cases hk
  · intro k hk
    obtain rfl : g = k := by simpa [Value.ownBlock] using hk
    exact ⟨h.hb, h.hg⟩
theorem OT.below {B : Nat} (h : OT w base v l) (hb : Below B w w') (hB : w.heap.size ≤ B) : OT w' base v l :=
  h.of (fun k hk => hb.block k (by have := (h.lt k hk).2; omega)) hb.size
theorem OT.lower {base' : Nat} (h : OT w base v l) (hb : base' ≤ base) : OT w base' v l := by
  rcases h with h | ⟨g, off, cap, rfl, h⟩
  · exact .inl h
  · exact .inr ⟨g, off, cap, rfl, by have := h.hb; omega, h.hg, h.le, h.cm, h.cells, h.spare⟩
theorem OTs.head {x : E} (h : OTs w base g off cap (x :: l)) : w.cell? ⟨g, off, none⟩ = some (.int .i64 x.rail) ∧ w.cell? ⟨g, off + 1, none⟩ = some (.bool x.last) :=
  ⟨h.cells 0 _ rfl, h.cells 1 _ rfl⟩
theorem OTs.tail {x : E} (h : OTs w base g off cap (x :: l)) : OTs w base g (off + 2) (cap - 1) l := by
  have := h.cm
  refine ⟨h.hb, h.hg, by have := h.le; simp at this; omega, by omega, fun j u hu => ?_, fun j hj => ?_⟩
  · rw [Nat.add_assoc]; exact h.cells (2 + j) u (by rw [List.flatMap_cons, List.getElem?_append_right (by rw [fE_len]; omega), fE_len, Nat.add_sub_cancel_left]; exact hu)
  · rw [Nat.add_assoc]; exact h.spare (2 + j) (by omega)
theorem OTs.none {x : E} (h : OTs w base g off 1 (x :: l)) : l = [] ∧ OTs w base g off 0 [] := by
  have := h.le
  simp only [List.length_cons] at this
  refine ⟨List.eq_nil_of_length_eq_zero (by omega), h.hb, h.hg, Nat.le_refl _, by simp [maxLen], fun j u hu => by simp at hu, fun j hj => by omega⟩
end
section append
variable {P : Program} (w : World)
/-- append of a slice that reads as m onto such a part -/
theorem wpList_appT {ops : Array Oper} {rest : List Oper} {o : Oper} {a : Act} {Q : Exit → Act → World → Prop} (hgd : o.guard = none) (s x : Operand) (t : TypeId)
    (ho : o.op = .call { callee := .builtin .append, args := #[s, x], argTypes := #[t, t] })
    (base : Nat) (i : TypeInfo) (z : Value) (bytes : Nat) (ht : P.underlying t = some (.slice 27)) (hi : P.info? 27 = some i) (hz : i.zero = some z)
    (hsize : i.size = 2) (hby : i.bytes = bytes) (hzs : z.cells.size = 2)
    (v : Value) (l : List E) (hs : a.eval s = v) (hown : OT w base v l)
    (B : Nat) (A : Option Addr) (m : List E) (c : Nat) (hx : a.eval x = .slice A m.length c) (hr : Sl w B 2 (fun x cs => cs = fE x) A m)
    (h63 : l.length + m.length ≤ maxLen) (hbytes : (l.length + m.length) * bytes ≤ 140737488355328) (hbase : base ≤ w.heap.size) (hA0 : A = none → m = [])
    (h : ∀ v' w', OT w' base v' (l ++ m) → w.grownBy w' v.ownBlock → wpList P ops Q rest (a.put o.dst v') w') :
    wpList P ops Q (o :: rest) a w := by
  refine wpList_plain hgd fun K hK => ?_
  have key : ∃ v' w', (Builtin.append_ #[t, t] o.type #[v, .slice A m.length c]).run P w = .ok v' w' ∧ OT w' base v' (l ++ m) ∧ w.grownBy w' v.ownBlock := by
    rcases A with _ | ad
    · obtain rfl := hA0 rfl
      rcases hown with ⟨rfl, rfl⟩ | ⟨g, off, cap, rfl, hown⟩
      · exact ⟨_, w, run_app_nil w base t o.type 27 i 2 ht hi (.slice none 0 0) 0 [] (World.ownsRow_nil w base 27 2) c, .inl ⟨rfl, rfl⟩, World.grownBy.refl w _⟩
      · refine ⟨_, w, ?_, .inr ⟨g, off, cap, rfl, by simpa using hown⟩, World.grownBy.refl w _⟩
        have hnc := hown.le
        simp [Builtin.append_, run_underlying ht, sizeOf, typeInfo, hi, Builtin.lenOf, Builtin.firstCells, hnc, storeCells]
    · have hcells : ∀ j u, (m.flatMap fE)[j]? = some u → w.cell? (ad.add j) = some u := by
        rcases m with _ | ⟨x, r⟩
        · intro j u hu; simp at hu
        · obtain ⟨b, off, h, _⟩ := hr (by simp)
          injection h with h; subst h
          exact hr.flat fE_len (by omega) rfl
      rcases hown with ⟨rfl, rfl⟩ | ⟨g, off, cap, rfl, hown⟩
      · obtain ⟨v', w', hrun, h2, h3, h4, h5⟩ := run_append_own_at (P := P) w base t o.type 27 i z 2 bytes ht hi hz hsize hby hzs (by omega) _ _ _ (World.ownsRow_nil w base 27 2) ad m.length c (m.flatMap fE) (flat_len fE_len m) hcells (flat_one fE_one m) (by simpa using h63) (by simpa using hbytes) hbase
        refine ⟨v', w', hrun, Own.ot (?_ : Own w' base 27 2 fE v' ([] ++ m)), h3⟩
        unfold Own
        simpa using h2
      · by_cases hroom : l.length + m.length ≤ cap
        · have hml := flat_len fE_len m
          have hll := flat_len fE_len l
          have hin : ∀ j, j < (m.flatMap fE).length → (w.cell? ⟨g, off + l.length * 2 + j, none⟩).isSome = true := fun j hj => by
            rw [Nat.add_assoc]; exact (hown.spare (l.length * 2 + j) (by omega)).1
          have hrun := run_append_room_cells (P := P) w t o.type 27 i ht hi g off l.length cap ad m.length c (m.flatMap fE) (by rw [hsize]; exact hml) hcells (flat_one fE_one m) hroom (by rw [hsize]; exact hin) (fun j hj => by
            rw [hsize, Nat.add_assoc]; exact (hown.spare (l.length * 2 + j) (by omega)).2)
          rw [hsize] at hrun
          have hgr := grown_setCells g (m.flatMap fE) (off + l.length * 2) w
          refine ⟨_, _, hrun, .inr ⟨g, off, cap, by rw [List.length_append], hown.hb, Nat.lt_of_lt_of_le hown.hg hgr.size, by rw [List.length_append]; exact hroom, hown.cm, fun j u hu => ?_, fun j hj => ?_⟩, hgr⟩
          · rw [List.flatMap_append] at hu
            by_cases hj : j < (l.flatMap fE).length
            · rw [List.getElem?_append_left hj] at hu
              rw [World.cell?_setCells_out g _ _ _ _ (fun _ _ => .inl (by show off + j < off + l.length * 2; omega))]
              exact hown.cells j u hu
            · rw [List.getElem?_append_right (by omega)] at hu
              obtain ⟨h1, h2⟩ := List.getElem?_eq_some_iff.1 hu
              have := World.cell?_setCells_in g (m.flatMap fE) (off + l.length * 2) w hin (j - (l.flatMap fE).length) h1
              rw [h2] at this
              rw [show off + j = off + l.length * 2 + (j - (l.flatMap fE).length) by omega]
              exact this
          · rw [World.frozen?_setCells]
            refine ⟨?_, (hown.spare j hj).2⟩
            by_cases hj2 : off + j < off + l.length * 2 ∨ off + l.length * 2 + (m.flatMap fE).length ≤ off + j
            · rw [World.cell?_setCells_out g _ _ _ _ (fun _ _ => hj2)]
              exact (hown.spare j hj).1
            · have := World.cell?_setCells_in g (m.flatMap fE) (off + l.length * 2) w hin (j - l.length * 2) (by omega)
              rw [show off + j = off + l.length * 2 + (j - l.length * 2) by omega, this]; rfl
        · obtain ⟨v', w', hrun, r1, r2⟩ := run_append_arg_grows (P := P) w t o.type 27 i z 2 bytes ht hi hz hsize hby hzs (by omega) ⟨g, off, none⟩ l.length cap (l.flatMap fE) (flat_len fE_len l) (fun j u hj => by rw [Addr.add_lit]; exact hown.cells j u hj) ad m.length c (m.flatMap fE) (flat_len fE_len m) hcells (by omega) h63 hbytes
          refine ⟨v', w', hrun, (Own.ot (?_ : Own w' w.heap.size 27 2 fE v' (l ++ m))).lower hbase, ⟨r2.os, r2.tape, r2.output, r2.size, fun k hk _ => r2.block k hk (by simp)⟩⟩
          unfold Own
          rw [List.length_append, List.flatMap_append]; exact r1
  obtain ⟨v', w', hrun, h2, h3⟩ := key
  refine Oper.wp.eq_1 P o a w K Q ▸ ?_
  unfold execOp
  simp only [ho, resolve, invoke, builtin, Sem.run_bind, Sem.run_pure, Result.andThen_ok, List.map_toArray, List.map_cons, List.map_nil, hs, hx, hrun]
  exact hK _ _ (h v' w' h2 h3)
end append

/-! partJ4 -/
set_option linter.unusedVariables false
set_option linter.unusedSimpArgs false
open Go.RowKit

theorem OT.lenV {w : World} {base : Nat} {v : Value} {l : List E} (h : OT w base v l) : lenV v = l.length := by
  rcases h with ⟨rfl, rfl⟩ | ⟨g, off, cap, rfl, _⟩
  · rfl
  · rfl
/-- the row of 'Reached', and its queue -/
structure RQ (w wr : World) (S : Nat) (v : Value) (out : List Bool) (q : List Int) : Prop where
  b : BRow wr S out
  o : OT wr (S + 1) v (q.map moveE)
  be : Below S w wr
section
variable {w wr : World} {S : Nat} {v : Value} {out : List Bool} {q : List Int}
theorem RQ.sz (h : RQ w wr S v out q) : S + 1 ≤ wr.heap.size := h.b.lt
theorem RQ.setB (h : RQ w wr S v out q) (k : Nat) (x : Bool) : RQ w (wr.setCell ⟨S, k, none⟩ (.bool x)) S v (out.set k x) q :=
  ⟨h.b.setB k x, h.o.of (fun m hm => Below.heap_setCell _ _ _ _ (by have := (h.o.lt m hm).1; simp; omega)) (by simp), h.be.setCell (p := ⟨S, k, none⟩) (Nat.le_refl _) _⟩
theorem RQ.below {w2 : World} (h : RQ w wr S v out q) (hb : Below wr.heap.size wr w2) : RQ w w2 S v out q :=
  ⟨h.b.below hb h.b.lt, h.o.below hb (Nat.le_refl _), h.be.trans (hb.mono (by have := h.sz; omega))⟩
theorem RQ.app {v2 : Value} {w2 : World} {q2 : List Int} (h : RQ w wr S v out q) (ho : OT w2 (S + 1) v2 (q2.map moveE)) (hg : wr.grownBy w2 v.ownBlock) : RQ w w2 S v2 out q2 := by
  have hb : Below (S + 1) wr w2 := (Below.refl _ _).grown hg h.sz fun k hk => (h.o.lt k hk).1
  exact ⟨h.b.below hb (by omega), ho, h.be.trans (hb.mono (by omega))⟩
end

set_option maxRecDepth 100000 in
set_option maxHeartbeats 4000000 in
theorem rReached_any (A A2 : Option Addr) (c c2 n M : Nat) (res : List Bool) (p : Pl) (m : E) (w : World) (hM : 2 * p.rails.length = M) (hP : PlAt w w.heap.size A c A2 c2 p) (hv : Vld p) (hm : railIn p m.rail = true)
    (hs : bfs (nextL p) n (List.replicate M false) (nextL p (keyE m)) = some res) :
    Calls Tryz.prog 69 #[.agg #[.slice A p.nodes.length c, .slice A2 p.rails.length c2], .agg #[.int .i64 m.rail, .bool m.last]] w fun e w' => (∃ rb, e = .returned (.slice (some ⟨rb, 0, none⟩) M M) ∧ BRow w' rb res ∧ w.heap.size ≤ rb) ∧ Below w.heap.size w w' := by
  obtain ⟨i0, hi, hz0, hz1, hz2⟩ := info_parts info27
  obtain ⟨i1, hi1, hy0, hy1, hy2⟩ := info_parts inf4
  have hsz := of_decide_eq_true hv.sizes
  have hM8 : M ≤ 800 := by omega
  have hR : p.rails.length ≤ 400 := by omega
  have hMM : 2 * (p.rails.length : Int) = (M : Int) := by omega
  have hmb : ∀ W : World, (Instr.makeSlice 57 (.int .i64 (M : Int)) (.int .i64 (M : Int))).run Tryz.prog W = .ok (.slice (some ⟨W.heap.size, 0, none⟩) M M) (W.alloc (.cells (madeCells #[.bool false] M) 4)) := fun W => by
    have := run_mk (P := Tryz.prog) 57 4 i1 _ 1 Tryz.underlying57 hi1 hy0 hy1 (M : Int) (M : Int) M M rfl rfl (by omega) (by rw [hy2]; omega) (by omega) W
    rw [this, Nat.mul_one]; rfl
  have hnb : ∀ u, u < M → ∀ z ∈ nextL p u, ∃ x : Nat, z = x ∧ x < M := fun u hu z hz => by
    have := nextL_bd hv (by omega) z hz
    exact ⟨z.toNat, by omega, by omega⟩
  have hkey : keyE m < M := by have := (key_in hm).2.1; omega
  have HNB := Lib.hid hnb
  have HS := Lib.hid hs
  have HV := Lib.hid hv
  have HM := Lib.hid hm
  have HMM := Lib.hid hM
  have hb0 : Below w.heap.size w (((w.alloc (.cells #[.slice A p.nodes.length c, .slice A2 p.rails.length c2] 25)).alloc (.cells #[.int .i64 m.rail, .bool m.last] 27)).alloc (.cells (madeCells #[.bool false] M) 4)) := (((Below.refl _ w).alloc (Nat.le_refl _) _).alloc (by simp) _).alloc (by simp; omega) _
  have HP1 := Lib.hid (((hP.box (.cells #[.slice A p.nodes.length c, .slice A2 p.rails.length c2] 25)).box (.cells #[.int .i64 m.rail, .bool m.last] 27)).box (.cells (madeCells #[.bool false] M) 4))
  have HX := Lib.hid (show ∀ j : Nat, (((w.alloc (.cells #[.slice A p.nodes.length c, .slice A2 p.rails.length c2] 25)).alloc (.cells #[.int .i64 m.rail, .bool m.last] 27)).alloc (.cells (madeCells #[.bool false] M) 4)).cell? ⟨w.heap.size, j, none⟩ = #[.slice A p.nodes.length c, .slice A2 p.rails.length c2][j]? ∧ (((w.alloc (.cells #[.slice A p.nodes.length c, .slice A2 p.rails.length c2] 25)).alloc (.cells #[.int .i64 m.rail, .bool m.last] 27)).alloc (.cells (madeCells #[.bool false] M) 4)).cell? ⟨w.heap.size + 1, j, none⟩ = #[.int .i64 m.rail, .bool m.last][j]? from fun j => by
    have h1 := cell_keep1 (o := .cells #[.int .i64 m.rail, .bool m.last] 27) (cell_new1 w #[.slice A p.nodes.length c, .slice A2 p.rails.length c2] 25 j) (by simp)
    have h2 := cell_new1 (w.alloc (.cells #[.slice A p.nodes.length c, .slice A2 p.rails.length c2] 25)) #[.int .i64 m.rail, .bool m.last] 27 j
    rw [show (w.alloc (.cells #[.slice A p.nodes.length c, .slice A2 p.rails.length c2] 25)).heap.size = w.heap.size + 1 by simp] at h2
    exact ⟨cell_keep1 h1 (by simp; omega), cell_keep1 h2 (by simp)⟩)
  have hbr := BRow.made ((w.alloc (.cells #[.slice A p.nodes.length c, .slice A2 p.rails.length c2] 25)).alloc (.cells #[.int .i64 m.rail, .bool m.last] 27)) M
  rw [show ((w.alloc (.cells #[.slice A p.nodes.length c, .slice A2 p.rails.length c2] 25)).alloc (.cells #[.int .i64 m.rail, .bool m.last] 27)).heap.size = w.heap.size + 2 by simp] at hbr
  have hz3 : (((w.alloc (.cells #[.slice A p.nodes.length c, .slice A2 p.rails.length c2] 25)).alloc (.cells #[.int .i64 m.rail, .bool m.last] 27)).alloc (.cells (madeCells #[.bool false] M) 4)).heap.size = w.heap.size + 3 := by simp
  have HB0 := Lib.hid hb0
  have HPA0 := Lib.hid hP
  have HBR := Lib.hid hbr
  clear hP hv hm hs hsz hb0 hbr hM
  go_enter Tryz.func69, Tryz.ntmps69
  go_wp2_with fail
  clear hmb
  generalize (((w.alloc (.cells #[.slice A p.nodes.length c, .slice A2 p.rails.length c2] 25)).alloc (.cells #[.int .i64 m.rail, .bool m.last] 27)).alloc (.cells (madeCells #[.bool false] M) 4)) = W1 at *
  have HPA := Lib.hid (show ∀ w7 : World, Below (w.heap.size + 2) W1 w7 → PlAt w7 w7.heap.size A c A2 c2 p from fun w7 hb => (HPA0.out.below (HB0.out.trans (hb.mono (by omega)))).more (by have := hb.size; omega))
  (with_reducible refine (rNext_any A A2 c c2 p m _ HP1.out HV.out HM.out).mono ?_)
  rintro e w1 ⟨⟨vq, rfl, hoq⟩, hb1⟩
  have HE0 := Lib.hid (show RQ W1 w1 (w.heap.size + 2) vq (List.replicate M false) (nextL p (keyE m)) from
    ⟨HBR.out.below hb1 (by omega), (Own.ot hoq).lower (by omega), hb1.mono (by omega)⟩)
  have HQ0 := Lib.hid (hnb (keyE m) hkey)
  have hnl := nextL_len p (keyE m)
  clear hb1 hoq HBR
  go_wp2_with fail
  go_loopw [6] (fun v wr => ∃ (out : List Bool) (q : List Int) (n' : Nat), RQ W1 wr (w.heap.size + 2) v out q ∧ out.length = M ∧ 3 * fls out + q.length ≤ 3 * M + 2 ∧ (∀ x ∈ q, ∃ u : Nat, x = u ∧ u < M) ∧ bfs (nextL p) n' out q = some res) (fun v wr => 3 * fal wr (w.heap.size + 2) + lenV v)
  case atStart => exact ⟨_, _, n, HE0.out, by simp, by
    have h2 : fls (List.replicate M false) ≤ M := by unfold fls; have := List.length_filter_le (fun b : Bool => !b) (List.replicate M false); rwa [List.length_replicate] at this
    omega, HQ0.out, HS.out⟩
  case round =>
    obtain ⟨out, q, n', her2, hout, hfl, hq, hend⟩ := hrel
    have hszr := her2.sz
    have hsz1 := her2.be.size
    cases n' with
    | zero => simp [bfs] at hend
    | succ n' =>
    cases q with
    | nil =>
      have HQ := Lib.hid (show out = res by simpa [bfs] using hend)
      have HER2 := Lib.hid her2
      have hv6 : ∃ A cv, u6 = .slice A 0 cv := by
        rcases her2.o with ⟨_, h⟩ | ⟨g, off, cap, h, _⟩
        · exact ⟨_, _, h⟩
        · exact ⟨_, _, h⟩
      obtain ⟨Av, cv, rfl⟩ := hv6
      clear her2 hend hq hout hfl
      go_wp2
      go_ret
      exact ⟨⟨w.heap.size + 2, rfl, by rw [← HQ.out]; exact HER2.out.b, by omega⟩, HB0.out.trans (HER2.out.be.mono (by omega))⟩
    | cons x l =>
      obtain ⟨k, rfl, hk⟩ := hq x (by simp)
      have HOT := Lib.hid her2.o
      rcases her2.o with ⟨h, _⟩ | ⟨g, off, cap, hu6, hot⟩
      · simp at h
      have hu7 : u6 = .slice (some ⟨g, off, none⟩) (l.length + 1) cap := by simpa using hu6
      subst hu7
      rw [List.map_cons] at hot
      obtain ⟨h0, h1⟩ := hot.head
      have hcap := hot.le
      have hcm := hot.cm
      simp only [List.length_cons, List.length_map] at hcap
      have hgw := hot.hg
      have hgb := hot.hb
      obtain ⟨xr, hxr⟩ : ∃ z, (moveE (k : Int)).rail = z := ⟨_, rfl⟩
      obtain ⟨xl, hxl⟩ : ∃ z, (moveE (k : Int)).last = z := ⟨_, rfl⟩
      have hxn : endNo ⟨xr, xl⟩ = (k : Int) := by rw [← hxr, ← hxl]; exact endNo_move
      have hx0 : 0 ≤ xr := by rw [← hxr]; unfold moveE; simp; omega
      have hx1 : xr ≤ 1000000 := by rw [← hxr]; unfold moveE; simp; omega
      have hx2 : railIn p xr = true := by rw [← hxr]; unfold moveE railIn; simp; omega
      have hxk : keyE ⟨xr, xl⟩ = k := by unfold keyE; rw [hxn]; simp
      rw [hxr] at h0
      rw [hxl] at h1
      have HER2 := Lib.hid her2
      have HOTS := Lib.hid hot
      have HQL := Lib.hid (show ∀ x ∈ l, ∃ u : Nat, x = u ∧ u < M from fun x hx => hq x (by simp [hx]))
      have HFA := Lib.hid (fal_is her2.b)
      have HOUT := Lib.hid hout
      have HFL := Lib.hid hfl
      have HEN := Lib.hid hend
      have HXN := Lib.hid hxn; have HXK := Lib.hid hxk; have HX2 := Lib.hid hx2
      obtain ⟨N, hN⟩ : ∃ z, l.length = z := ⟨_, rfl⟩
      have HNN := Lib.hid hN
      rw [hN] at hcap ⊢
      have hN0 : (0 : Int) < (N : Int) + 1 := by omega
      have hN1 : (1 : Int) ≤ (N : Int) + 1 := by omega
      have hN2 : (N : Int) + 1 ≤ (cap : Int) := by omega
      have hN3 : N ≤ 3000 := by simp at hfl; omega
      have hcm2 : (cap : Int) ≤ 9223372036854775807 := by unfold maxLen at hcm; omega
      have hb3 : Below wr.heap.size wr (wr.alloc (.cells #[.int .i64 xr, .bool xl] 27)) := (Below.refl _ wr).alloc (Nat.le_refl _) _
      have d0 := fun j => cell_new1 wr #[.int .i64 xr, .bool xl] 27 j
      clear her2 hot hq hend hxr hxl hxn hxk hx2 hN hout hfl
      go_upto_region 5 with (fail)
      have hw6 : wr.heap.size < (wr.alloc (.cells #[.int .i64 xr, .bool xl] 27)).heap.size := by simp
      have hcase : (cap = 1 ∧ N = 0) ∨ ¬ cap = 1 := by omega
      rcases hcase with ⟨rfl, rfl⟩ | hc1
      · go_upto_region 6 with (fail)
        obtain ⟨e1, e2⟩ := HOTS.out.none
        have HT := Lib.hid (show RQ W1 wr (w.heap.size + 2) (.slice (some ⟨g, off, none⟩) 0 0) out l from ⟨HER2.out.b, .inr ⟨g, off, 0, by rw [e1]; rfl, by rw [e1]; exact e2⟩, HER2.out.be⟩)
        clear e1 e2
        generalize Value.slice (some ⟨g, off, none⟩) 0 0 = vt at *
        have hHT := HT.out.below hb3
        have HT2 := Lib.hid hHT
        have hsw := HT.out.sz
        have hs1 := HT.out.be.size
        clear hHT HER2 HOTS HOT h0 h1 hN0 hN1 hN2
        have d00 := d0 0
        have d01 := d0 1
        simp only [List.getElem?_toArray, List.getElem?_cons_zero, List.getElem?_cons_succ] at d00 d01
        clear d0
        generalize (wr.alloc (.cells #[.int .i64 xr, .bool xl] 27)) = w4 at *
        go_wp2_with fail
        (with_reducible refine (rNumber_any xr xl _ hx0 hx1).mono ?_)
        rintro e w5 ⟨rfl, hb5⟩
        rw [HXN.out]
        have hz5 := hb5.size
        have HT3 := Lib.hid (HT2.out.below hb5)
        have e00 := (hb5.cell (p := ⟨wr.heap.size, 0, none⟩) hw6).trans d00
        have e01 := (hb5.cell (p := ⟨wr.heap.size, 1, none⟩) hw6).trans d01
        have hkl : k < out.length := by rw [HOUT.out]; exact hk
        have r2 := HT3.out.b.cell hkl
        have r3 := HT3.out.b.fro k
        obtain ⟨X, hX⟩ : ∃ z, out[k] = z := ⟨_, rfl⟩
        have HG := Lib.hid (show gT out k = X by unfold gT; rw [List.getD_eq_getElem?_getD, List.getElem?_eq_getElem hkl, ← hX]; rfl)
        rw [hX] at r2
        have hk0 : (0 : Int) ≤ (k : Int) := by omega
        have hk1 : (k : Int) < (M : Int) := by omega
        have hwz5 : wr.heap.size < w5.heap.size := by omega
        clear hX hb5 d00 d01 HT HT2
        cases X
        case true =>
          have HE2 := Lib.hid (show bfs (nextL p) n' out l = some res by have := HEN.out; rw [bfs, Int.toNat_natCast, if_pos HG.out] at this; exact this)
          have hf3 := HFL.out
          simp only [List.length_cons] at hf3
          go_wp2
          go_roundw
          case rel => exact ⟨out, l, n', HT3.out, HOUT.out, by omega, HQL.out, HE2.out⟩
          case measure =>
            have hm1 := fal_is HT3.out.b
            have hm2 := HFA.out
            have hm3 : lenV vt = l.length := by rw [HT3.out.o.lenV, List.length_map]
            have := HNN.out
            show 3 * fal w5 (w.heap.size + 2) + lenV vt < 3 * fal wr (w.heap.size + 2) + lenV (.slice _ _ _)
            simp only [lenV] at hm3 ⊢
            omega
        case false =>
          have HE2 := Lib.hid (show bfs (nextL p) n' (out.set k true) (l ++ nextL p k) = some res by have := HEN.out; rw [bfs, Int.toNat_natCast, HG.out] at this; exact this)
          have hnl2 := nextL_len p k
          have hfs := fls_set hkl HG.out
          have HNX := Lib.hid (HNB.out k hk)
          go_wp2_with fail
          (with_reducible refine (rNumber_any xr xl _ hx0 hx1).mono ?_)
          rintro e w6 ⟨rfl, hb6⟩
          rw [HXN.out]
          have hz6 := hb6.size
          have HT4 := Lib.hid (HT3.out.below hb6)
          have f00 := (hb6.cell (p := ⟨wr.heap.size, 0, none⟩) hwz5).trans e00
          have f01 := (hb6.cell (p := ⟨wr.heap.size, 1, none⟩) hwz5).trans e01
          have r4 := HT4.out.b.cell hkl
          have r5 := HT4.out.b.fro k
          have HT5 := Lib.hid (HT4.out.setB k true)
          have hne : (w6.setCell ⟨w.heap.size + 2, k, none⟩ (.bool true)).heap[wr.heap.size]? = w6.heap[wr.heap.size]? := Below.heap_setCell _ _ _ _ (by simp; omega)
          have g00 := (World.cell?_of_block (a := ⟨wr.heap.size, 0, none⟩) hne).trans f00
          have g01 := (World.cell?_of_block (a := ⟨wr.heap.size, 1, none⟩) hne).trans f01
          have hz7 : (w6.setCell ⟨w.heap.size + 2, k, none⟩ (.bool true)).heap.size = w6.heap.size := by simp
          clear r2 r3 e00 e01 hb6 hne HT3
          go_upto_region 8 with (fail)
          obtain ⟨w7, hw7⟩ : ∃ z, w6.setCell ⟨w.heap.size + 1 + 1, k, none⟩ (.bool true) = z := ⟨_, rfl⟩
          have hw8 : w6.setCell ⟨w.heap.size + 2, k, none⟩ (.bool true) = w7 := hw7
          rw [hw7]
          rw [hw8] at HT5 g00 g01 hz7
          clear hw8
          have p0 := (HT5.out.be.cell (p := ⟨w.heap.size, 0, none⟩) (by simp)).trans (HX.out 0).1
          have p1 := (HT5.out.be.cell (p := ⟨w.heap.size, 1, none⟩) (by simp)).trans (HX.out 1).1
          simp only [List.getElem?_toArray, List.getElem?_cons_zero, List.getElem?_cons_succ] at p0 p1
          clear hw7 r4 r5 f00 f01
          have HB7 := Lib.hid HT5.out.be
          have hs7 := HT5.out.be.size
          go_wp2_with fail
          have hpw := HPA.out w7 HT5.out.be
          (with_reducible refine (rNext_any A A2 c c2 p ⟨xr, xl⟩ w7 hpw HV.out HX2.out).mono ?_)
          rintro e w8 ⟨⟨vm, rfl, hom⟩, hb8⟩
          rw [HXK.out] at hom
          have hz8 := hb8.size
          have HT6 := Lib.hid (HT5.out.below hb8)
          obtain ⟨Am, cm, hvm, hm1, hm2, hm3⟩ := hom.form
          have hsl := hom.sl fE_len hvm
          obtain ⟨mm, hmm⟩ : ∃ z, (nextL p k).map moveE = z := ⟨_, rfl⟩
          have hml : mm.length ≤ 2 := by rw [← hmm, List.length_map]; exact hnl2
          rw [hmm] at hvm hsl hm1 hm3
          have HMM2 := Lib.hid hmm
          subst hvm
          have hl1 : (l.map moveE).length + mm.length ≤ maxLen := by rw [List.length_map]; have := HNN.out; unfold maxLen; omega
          have hl2 : ((l.map moveE).length + mm.length) * 16 ≤ 140737488355328 := by rw [List.length_map]; have := HNN.out; omega
          clear hom hmm hb8 hpw g00 g01 p0 p1 HT4
          go_wp2_with (at_builtin; go_must (refine wpList_appT _ rfl (.tmp 33) (.tmp 36) _ rfl (w.heap.size + 2 + 1) i0 _ 16 Tryz.underlying31 hi hz0 hz1 hz2 rfl vt _ rfl HT6.out.o _ Am mm cm rfl hsl hl1 hl2 (by omega) hm3 ?_); intro v2 w9 o2 gr2)
          go_roundw
          case rel =>
            have hf3 := HFL.out
            simp only [List.length_cons] at hf3
            exact ⟨out.set k true, l ++ nextL p k, n', HT6.out.app (by rw [List.map_append, HMM2.out]; exact o2) gr2, by rw [List.length_set]; exact HOUT.out, by rw [List.length_append]; omega, (fun x hx => by
              rcases List.mem_append.1 hx with hx | hx
              · exact HQL.out x hx
              · exact HNX.out x hx), HE2.out⟩
          case measure =>
            have hR := HT6.out.app (q2 := l ++ nextL p k) (by rw [List.map_append, HMM2.out]; exact o2) gr2
            have hm1 := fal_is hR.b
            have hm2 := HFA.out
            have hm3 : lenV v2 = l.length + (nextL p k).length := by rw [hR.o.lenV, List.length_map, List.length_append]
            have := HNN.out
            show 3 * fal w9 (w.heap.size + 2) + lenV v2 < 3 * fal wr (w.heap.size + 2) + lenV (.slice _ _ _)
            simp only [lenV] at hm3 ⊢
            omega
      · have hc2 : ¬ (cap : Int) = 1 := by omega
        go_upto_region 6 with (fail)
        have HT := Lib.hid (show RQ W1 wr (w.heap.size + 2) (.slice (some ⟨g, off + 2, none⟩) N (cap - 1)) out l from ⟨HER2.out.b, .inr ⟨g, off + 2, cap - 1, by rw [List.length_map, HNN.out], HOTS.out.tail⟩, HER2.out.be⟩)
        generalize Value.slice (some ⟨g, off + 2, none⟩) N (cap - 1) = vt at *
        have hHT := HT.out.below hb3
        have HT2 := Lib.hid hHT
        have hsw := HT.out.sz
        have hs1 := HT.out.be.size
        clear hHT HER2 HOTS HOT h0 h1 hN0 hN1 hN2
        have d00 := d0 0
        have d01 := d0 1
        simp only [List.getElem?_toArray, List.getElem?_cons_zero, List.getElem?_cons_succ] at d00 d01
        clear d0
        generalize (wr.alloc (.cells #[.int .i64 xr, .bool xl] 27)) = w4 at *
        go_wp2_with fail
        (with_reducible refine (rNumber_any xr xl _ hx0 hx1).mono ?_)
        rintro e w5 ⟨rfl, hb5⟩
        rw [HXN.out]
        have hz5 := hb5.size
        have HT3 := Lib.hid (HT2.out.below hb5)
        have e00 := (hb5.cell (p := ⟨wr.heap.size, 0, none⟩) hw6).trans d00
        have e01 := (hb5.cell (p := ⟨wr.heap.size, 1, none⟩) hw6).trans d01
        have hkl : k < out.length := by rw [HOUT.out]; exact hk
        have r2 := HT3.out.b.cell hkl
        have r3 := HT3.out.b.fro k
        obtain ⟨X, hX⟩ : ∃ z, out[k] = z := ⟨_, rfl⟩
        have HG := Lib.hid (show gT out k = X by unfold gT; rw [List.getD_eq_getElem?_getD, List.getElem?_eq_getElem hkl, ← hX]; rfl)
        rw [hX] at r2
        have hk0 : (0 : Int) ≤ (k : Int) := by omega
        have hk1 : (k : Int) < (M : Int) := by omega
        have hwz5 : wr.heap.size < w5.heap.size := by omega
        clear hX hb5 d00 d01 HT HT2
        cases X
        case true =>
          have HE2 := Lib.hid (show bfs (nextL p) n' out l = some res by have := HEN.out; rw [bfs, Int.toNat_natCast, if_pos HG.out] at this; exact this)
          have hf3 := HFL.out
          simp only [List.length_cons] at hf3
          go_wp2
          go_roundw
          case rel => exact ⟨out, l, n', HT3.out, HOUT.out, by omega, HQL.out, HE2.out⟩
          case measure =>
            have hm1 := fal_is HT3.out.b
            have hm2 := HFA.out
            have hm3 : lenV vt = l.length := by rw [HT3.out.o.lenV, List.length_map]
            have := HNN.out
            show 3 * fal w5 (w.heap.size + 2) + lenV vt < 3 * fal wr (w.heap.size + 2) + lenV (.slice _ _ _)
            simp only [lenV] at hm3 ⊢
            omega
        case false =>
          have HE2 := Lib.hid (show bfs (nextL p) n' (out.set k true) (l ++ nextL p k) = some res by have := HEN.out; rw [bfs, Int.toNat_natCast, HG.out] at this; exact this)
          have hnl2 := nextL_len p k
          have hfs := fls_set hkl HG.out
          have HNX := Lib.hid (HNB.out k hk)
          go_wp2_with fail
          (with_reducible refine (rNumber_any xr xl _ hx0 hx1).mono ?_)
          rintro e w6 ⟨rfl, hb6⟩
          rw [HXN.out]
          have hz6 := hb6.size
          have HT4 := Lib.hid (HT3.out.below hb6)
          have f00 := (hb6.cell (p := ⟨wr.heap.size, 0, none⟩) hwz5).trans e00
          have f01 := (hb6.cell (p := ⟨wr.heap.size, 1, none⟩) hwz5).trans e01
          have r4 := HT4.out.b.cell hkl
          have r5 := HT4.out.b.fro k
          have HT5 := Lib.hid (HT4.out.setB k true)
          have hne : (w6.setCell ⟨w.heap.size + 2, k, none⟩ (.bool true)).heap[wr.heap.size]? = w6.heap[wr.heap.size]? := Below.heap_setCell _ _ _ _ (by simp; omega)
          have g00 := (World.cell?_of_block (a := ⟨wr.heap.size, 0, none⟩) hne).trans f00
          have g01 := (World.cell?_of_block (a := ⟨wr.heap.size, 1, none⟩) hne).trans f01
          have hz7 : (w6.setCell ⟨w.heap.size + 2, k, none⟩ (.bool true)).heap.size = w6.heap.size := by simp
          clear r2 r3 e00 e01 hb6 hne HT3
          go_upto_region 8 with (fail)
          obtain ⟨w7, hw7⟩ : ∃ z, w6.setCell ⟨w.heap.size + 1 + 1, k, none⟩ (.bool true) = z := ⟨_, rfl⟩
          have hw8 : w6.setCell ⟨w.heap.size + 2, k, none⟩ (.bool true) = w7 := hw7
          rw [hw7]
          rw [hw8] at HT5 g00 g01 hz7
          clear hw8
          have p0 := (HT5.out.be.cell (p := ⟨w.heap.size, 0, none⟩) (by simp)).trans (HX.out 0).1
          have p1 := (HT5.out.be.cell (p := ⟨w.heap.size, 1, none⟩) (by simp)).trans (HX.out 1).1
          simp only [List.getElem?_toArray, List.getElem?_cons_zero, List.getElem?_cons_succ] at p0 p1
          clear hw7 r4 r5 f00 f01
          have HB7 := Lib.hid HT5.out.be
          have hs7 := HT5.out.be.size
          go_wp2_with fail
          have hpw := HPA.out w7 HT5.out.be
          (with_reducible refine (rNext_any A A2 c c2 p ⟨xr, xl⟩ w7 hpw HV.out HX2.out).mono ?_)
          rintro e w8 ⟨⟨vm, rfl, hom⟩, hb8⟩
          rw [HXK.out] at hom
          have hz8 := hb8.size
          have HT6 := Lib.hid (HT5.out.below hb8)
          obtain ⟨Am, cm, hvm, hm1, hm2, hm3⟩ := hom.form
          have hsl := hom.sl fE_len hvm
          obtain ⟨mm, hmm⟩ : ∃ z, (nextL p k).map moveE = z := ⟨_, rfl⟩
          have hml : mm.length ≤ 2 := by rw [← hmm, List.length_map]; exact hnl2
          rw [hmm] at hvm hsl hm1 hm3
          have HMM2 := Lib.hid hmm
          subst hvm
          have hl1 : (l.map moveE).length + mm.length ≤ maxLen := by rw [List.length_map]; have := HNN.out; unfold maxLen; omega
          have hl2 : ((l.map moveE).length + mm.length) * 16 ≤ 140737488355328 := by rw [List.length_map]; have := HNN.out; omega
          clear hom hmm hb8 hpw g00 g01 p0 p1 HT4
          go_wp2_with (at_builtin; go_must (refine wpList_appT _ rfl (.tmp 33) (.tmp 36) _ rfl (w.heap.size + 2 + 1) i0 _ 16 Tryz.underlying31 hi hz0 hz1 hz2 rfl vt _ rfl HT6.out.o _ Am mm cm rfl hsl hl1 hl2 (by omega) hm3 ?_); intro v2 w9 o2 gr2)
          go_roundw
          case rel =>
            have hf3 := HFL.out
            simp only [List.length_cons] at hf3
            exact ⟨out.set k true, l ++ nextL p k, n', HT6.out.app (by rw [List.map_append, HMM2.out]; exact o2) gr2, by rw [List.length_set]; exact HOUT.out, by rw [List.length_append]; omega, (fun x hx => by
              rcases List.mem_append.1 hx with hx | hx
              · exact HQL.out x hx
              · exact HNX.out x hx), HE2.out⟩
          case measure =>
            have hR := HT6.out.app (q2 := l ++ nextL p k) (by rw [List.map_append, HMM2.out]; exact o2) gr2
            have hm1 := fal_is hR.b
            have hm2 := HFA.out
            have hm3 : lenV v2 = l.length + (nextL p k).length := by rw [hR.o.lenV, List.length_map, List.length_append]
            have := HNN.out
            show 3 * fal w9 (w.heap.size + 2) + lenV v2 < 3 * fal wr (w.heap.size + 2) + lenV (.slice _ _ _)
            simp only [lenV] at hm3 ⊢
            omega

/-! partJ5 -/
set_option linter.unusedVariables false
set_option linter.unusedSimpArgs false
open Go.RowKit

open Classical in
noncomputable def rB (p : Pl) (a b : Nat) : Bool := decide (Rch (nextL p) a b)
noncomputable def rRow (p : Pl) (a : Nat) : List Bool := (List.range (2 * p.rails.length)).map (rB p a)
theorem rB_iff {p : Pl} {a b : Nat} : rB p a b = true ↔ Rch (nextL p) a b := by simp [rB]
theorem rRow_len {p : Pl} {a : Nat} : (rRow p a).length = 2 * p.rails.length := by simp [rRow]
theorem next_nat {p : Pl} (hv : Vld p) : ∀ u, u < 2 * p.rails.length → ∀ z ∈ nextL p u, ∃ x : Nat, z = x ∧ x < 2 * p.rails.length := fun u hu z hz => by
  have := nextL_bd hv hu z hz
  exact ⟨z.toNat, by omega, by omega⟩
theorem bfs_row {p : Pl} (hv : Vld p) {a : Nat} (ha : a < 2 * p.rails.length) : ∃ n, bfs (nextL p) n (List.replicate (2 * p.rails.length) false) (nextL p a) = some (rRow p a) := by
  obtain ⟨n, res, h1, h2, h3⟩ := bfs_start ha (next_nat hv)
  refine ⟨n, h1.trans (congrArg some ?_)⟩
  refine List.ext_getElem (by rw [h2, rRow_len]) fun i h4 h5 => ?_
  have h6 : gT res i = res[i] := by unfold gT; rw [List.getD_eq_getElem?_getD, List.getElem?_eq_getElem h4]; rfl
  have h7 : (rRow p a)[i] = rB p a i := by simp [rRow]
  rw [h7, ← h6, Bool.eq_iff_iff, h3, rB_iff]
theorem rReached_row (A A2 : Option Addr) (c c2 : Nat) (p : Pl) (m : E) (w : World) (hP : PlAt w w.heap.size A c A2 c2 p) (hv : Vld p) (hm : railIn p m.rail = true) :
    Calls Tryz.prog 69 #[.agg #[.slice A p.nodes.length c, .slice A2 p.rails.length c2], .agg #[.int .i64 m.rail, .bool m.last]] w fun e w' => (∃ rb, e = .returned (.slice (some ⟨rb, 0, none⟩) (2 * p.rails.length) (2 * p.rails.length)) ∧ BRow w' rb (rRow p (keyE m)) ∧ w.heap.size ≤ rb) ∧ Below w.heap.size w w' := by
  obtain ⟨n, hn⟩ := bfs_row hv (key_in hm).2.1
  exact rReached_any A A2 c c2 n _ _ p m w rfl hP hv hm hn
theorem reaches_row (B g a t : Nat) (p : Pl) (w : World) (h : Nw w B g p) (hB : B ≤ w.heap.size) (ha : a < 2 * p.rails.length) (ht : t < 2 * p.rails.length) (hne : t ≠ a) :
    Calls Tryz.prog 60 #[.pointer (some ⟨g, 0, none⟩), .int .i64 (a : Int), .int .i64 (t : Int)] w fun e w' => e = .returned (.bool (rB p a t)) ∧ Below w.heap.size w w' := by
  obtain ⟨n, r, h1, h2⟩ := dfs_start (g := t) ha (next_nat h.v)
  have hr : r = rB p a t := by
    rw [Bool.eq_iff_iff, h2, rB_iff]
    exact ⟨fun h => h.resolve_left hne, .inr⟩
  have := reaches_any B g n _ a t r p w rfl h hB ha ht h1
  rw [hr] at this
  exact this
noncomputable def turnB (p : Pl) (k : Nat) : Bool := rB p (2 * k) (2 * k + 1) || rB p (2 * k + 1) (2 * k)
def TurnsPost (p : Pl) (r : Int) (w : World) (e : Ending) (w' : World) : Prop :=
  ((Vld p ∧ railIn p r = true ∧ e = .returned (.tuple #[.bool (turnB p r.toNat), .int .i64 0])) ∨ ((¬ Vld p ∨ railIn p r = false) ∧ e = .returned (.tuple #[.bool false, .int .i64 2]))) ∧ Below w.heap.size w w'
set_option maxRecDepth 100000 in
set_option maxHeartbeats 1000000 in
theorem Turns_any (A A2 : Option Addr) (c c2 : Nat) (p : Pl) (r : Int) (w : World) (hP : PlAt w w.heap.size A c A2 c2 p) :
    Calls Tryz.prog 21 #[.agg #[.slice A p.nodes.length c, .slice A2 p.rails.length c2], .int .i64 r] w (TurnsPost p r w) := by
  have HP := Lib.hid (hP.box (.cells #[.slice A p.nodes.length c, .slice A2 p.rails.length c2] 25)); clear hP
  have HB0 := Lib.hid ((Below.refl w.heap.size w).alloc (Nat.le_refl _) (.cells #[.slice A p.nodes.length c, .slice A2 p.rails.length c2] 25))
  go_enter Tryz.func21, Tryz.ntmps21
  go_wp2_with fail
  refine (survey_any A A2 c c2 p _ HP.out).mono ?_
  rintro e w1 ⟨hb, ⟨hv, rfl⟩ | ⟨hv, g, rfl, hg, hN⟩⟩
  · have HV := Lib.hid hv; have HB := Lib.hid (HB0.out.trans (hb.mono (by simp))); clear hv hb
    go_wp2
    go_ret2
    exact ⟨.inr ⟨.inl HV.out, rfl⟩, HB.out⟩
  · have HV := Lib.hid hv; have HB := Lib.hid (HB0.out.trans (hb.mono (by simp))); have HN := Lib.hid hN; clear hv hb hN
    go_wp2_with fail
    refine (hasRail_any _ g p r _ HN.out).mono ?_
    rintro e w2 ⟨rfl, rfl⟩
    cases hr : railIn p r
    · have HR := Lib.hid hr; clear hr
      go_wp2
      go_ret2
      exact ⟨.inr ⟨.inr HR.out, rfl⟩, HB.out⟩
    · have HR := Lib.hid hr
      have hsz := HN.out.sizes
      have hr2 := of_decide_eq_true hr
      obtain ⟨k, rfl⟩ := Int.eq_ofNat_of_zero_le hr2.1
      have hk : k < p.rails.length := by omega
      clear hr hr2
      have hC1 := fun w2 hN => reaches_row _ g (2 * k) (2 * k + 1) p w2 hN (Nat.le_refl _) (by omega) (by omega) (by omega)
      have hC2 := fun w2 hN => reaches_row _ g (2 * k + 1) (2 * k) p w2 hN (Nat.le_refl _) (by omega) (by omega) (by omega)
      simp only [Int.natCast_add, Int.natCast_mul, Int.cast_ofNat_Int, Int.natCast_one] at hC1 hC2
      have HC1 := Lib.hid hC1; have HC2 := Lib.hid hC2
      have hk1 : (k : Int) ≤ 1000 := by omega
      have hk0 : (0 : Int) ≤ (k : Int) := by omega
      clear hC1 hC2
      go_wp2_with fail
      refine (HC1.out _ HN.out).mono ?_
      rintro e w3 ⟨rfl, hb3⟩
      have HB3 := Lib.hid (HB.out.trans (hb3.mono HB.out.size))
      have HN3 := Lib.hid ((HN.out.below hb3).more hb3.size)
      clear hb3
      cases h1 : rB p (2 * k) (2 * k + 1)
      · have HT := Lib.hid (show turnB p ((k : Int).toNat) = rB p (2 * k + 1) (2 * k) by unfold turnB; rw [Int.toNat_natCast, h1]; rfl)
        go_wp2_with fail
        refine (HC2.out _ HN3.out).mono ?_
        rintro e w4 ⟨rfl, hb4⟩
        have HB4 := Lib.hid (HB3.out.trans (hb4.mono HB3.out.size))
        clear hb4
        go_wp2
        go_ret2
        exact ⟨.inl ⟨HV.out, HR.out, by rw [HT.out]; rfl⟩, HB4.out⟩
      · have HT := Lib.hid (show turnB p ((k : Int).toNat) = true by unfold turnB; rw [Int.toNat_natCast, h1]; rfl)
        go_wp2
        go_ret2
        exact ⟨.inl ⟨HV.out, HR.out, by rw [HT.out]; rfl⟩, HB3.out⟩

/-! partJ6 -/
set_option linter.unusedVariables false
set_option linter.unusedSimpArgs false
open Go.RowKit

/-- the first k of a row are right, the others false -/
def upTo (M : Nat) (f : Nat → Bool) (k : Nat) : List Bool := (List.range k).map f ++ List.replicate (M - k) false
theorem upTo_len {M k : Nat} {f : Nat → Bool} (h : k ≤ M) : (upTo M f k).length = M := by simp [upTo]; omega
theorem upTo_set {M k : Nat} {f : Nat → Bool} (h : k < M) : (upTo M f k).set k (f k) = upTo M f (k + 1) := by
  unfold upTo
  rw [List.set_append_right _ _ (by simp)]
  simp only [List.length_map, List.length_range, Nat.sub_self]
  rw [show M - k = (M - (k + 1)) + 1 by omega, List.replicate_succ, List.set_cons_zero, List.range_succ, List.map_append, List.append_assoc]
  rfl
theorem upTo_all {M : Nat} {f : Nat → Bool} : upTo M f M = (List.range M).map f := by simp [upTo]
noncomputable def rr (p : Pl) (i : Nat) : Bool := rB p i i
noncomputable def anyTo (p : Pl) (i k : Nat) : Bool := rB p i i || (List.range k).any fun j => rB p i j && rB p j j
noncomputable def oB (p : Pl) (i : Nat) : Bool := anyTo p i (2 * p.rails.length)
theorem anyTo_succ (p : Pl) (i k : Nat) : anyTo p i (k + 1) = (anyTo p i k || rB p i k && rB p k k) := by
  unfold anyTo
  rw [List.range_succ, List.any_append, Bool.or_assoc]
  simp
theorem moveE_in {p : Pl} {k : Nat} (h : k < 2 * p.rails.length) : railIn p (moveE (k : Int)).rail = true := by
  unfold moveE railIn; simp; omega

theorem wpAnyH_strong {P : Program} {ops : Array Oper} {Q : Exit → Act → World → Prop} {md : Region.Mode} {S S' : World → Prop} (hS : ∀ w, S' w → S w) :
    ∀ (fuel : Nat) (listed : Array Bool) (a : Act) (w : World), wpAnyH P md ops Q S' fuel listed a w → wpAnyH P md ops Q S fuel listed a w
  | 0, _, _, _, h => h
  | fuel + 1, _, _, _, h => ⟨h.1, fun i hi => wpOp_mono (fun a' w' h' => ⟨hS _ h'.1, wpAnyH_strong hS fuel _ a' w' h'.2⟩) (h.2 i hi)⟩

set_option maxRecDepth 100000 in
set_option maxHeartbeats 4000000 in
theorem rEndless_any (A A2 : Option Addr) (c c2 M : Nat) (p : Pl) (w : World) (hM : 2 * p.rails.length = M) (hP : PlAt w w.heap.size A c A2 c2 p) (hv : Vld p) :
    Calls Tryz.prog 38 #[.agg #[.slice A p.nodes.length c, .slice A2 p.rails.length c2]] w fun e w' => (∃ rb, e = .returned (.slice (some ⟨rb, 0, none⟩) M M) ∧ BRow w' rb ((List.range M).map (oB p))) ∧ Below w.heap.size w w' := by
  obtain ⟨i1, hi1, hy0, hy1, hy2⟩ := info_parts inf4
  have hsz := of_decide_eq_true hv.sizes
  have hM8 : M ≤ 800 := by omega
  have hMM : 2 * (p.rails.length : Int) = (M : Int) := by omega
  have hmb : ∀ W : World, (Instr.makeSlice 57 (.int .i64 (M : Int)) (.int .i64 (M : Int))).run Tryz.prog W = .ok (.slice (some ⟨W.heap.size, 0, none⟩) M M) (W.alloc (.cells (madeCells #[.bool false] M) 4)) := fun W => by
    have := run_mk (P := Tryz.prog) 57 4 i1 _ 1 Tryz.underlying57 hi1 hy0 hy1 (M : Int) (M : Int) M M rfl rfl (by omega) (by rw [hy2]; omega) (by omega) W
    rw [this, Nat.mul_one]; rfl
  have hz0 : (w.alloc (.cells #[.slice A p.nodes.length c, .slice A2 p.rails.length c2] 25)).heap.size = w.heap.size + 1 := by simp
  have hb0 := (Below.refl w.heap.size w).alloc (Nat.le_refl _) (.cells #[.slice A p.nodes.length c, .slice A2 p.rails.length c2] 25)
  have HX := Lib.hid (show ∀ j : Nat, (w.alloc (.cells #[.slice A p.nodes.length c, .slice A2 p.rails.length c2] 25)).cell? ⟨w.heap.size, j, none⟩ = #[.slice A p.nodes.length c, .slice A2 p.rails.length c2][j]? from fun j => cell_new1 w _ 25 j)
  obtain ⟨W0, hW0⟩ : ∃ z, w.alloc (.cells #[.slice A p.nodes.length c, .slice A2 p.rails.length c2] 25) = z := ⟨_, rfl⟩
  rw [hW0] at hz0 hb0 HX
  have HB0 := Lib.hid hb0
  have HV := Lib.hid hv
  have HC69 := Lib.hid (show ∀ (k : Nat) (wx : World), k < M → Below (w.heap.size + 1) W0 wx → Calls Tryz.prog 69 #[.agg #[.slice A p.nodes.length c, .slice A2 p.rails.length c2], .agg #[.int .i64 (moveE (k : Int)).rail, .bool (moveE (k : Int)).last]] wx fun e w' => (∃ rb, e = .returned (.slice (some ⟨rb, 0, none⟩) M M) ∧ BRow w' rb (rRow p k) ∧ wx.heap.size ≤ rb) ∧ Below wx.heap.size wx w' from fun k wx hk hb => by
    have hp2 := (hP.below (hb0.trans (hb.mono (by omega)))).more (show w.heap.size ≤ wx.heap.size by have := hb.size; omega)
    have := rReached_row A A2 c c2 p (moveE (k : Int)) wx hp2 hv (moveE_in (by omega))
    rw [keyE_moveU, hM] at this
    exact this)
  have HKP := Lib.hid (show ∀ wx : World, Below (w.heap.size + 1) W0 wx → wx.cell? ⟨w.heap.size, 0, none⟩ = some (.slice A p.nodes.length c) ∧ wx.cell? ⟨w.heap.size, 1, none⟩ = some (.slice A2 p.rails.length c2) from fun wx hb =>
    ⟨(hb.cell (p := ⟨w.heap.size, 0, none⟩) (by simp)).trans (HX.out 0), (hb.cell (p := ⟨w.heap.size, 1, none⟩) (by simp)).trans (HX.out 1)⟩)
  have hkp0 := HKP.out W0 (Below.refl _ _)
  have hrl : ∀ a, (rRow p a).length = M := fun a => by rw [rRow_len, hM]
  have hrg : ∀ a j (h : j < (rRow p a).length), (rRow p a)[j] = rB p a j := fun a j h => by simp [rRow]
  have HRL := Lib.hid hrl; have HRG := Lib.hid hrg
  have HOB := Lib.hid (show ∀ i, oB p i = anyTo p i M from fun i => by unfold oB; rw [hM])
  have hbr1 := BRow.made W0 M
  rw [hz0] at hbr1
  have HBR1 := Lib.hid hbr1
  have HBW := Lib.hid ((Below.refl (w.heap.size + 1) W0).alloc (by omega) (.cells (madeCells #[.bool false] M) 4))
  obtain ⟨k00, k01⟩ := hkp0
  clear hP hv hsz hb0 hrl hrg hbr1 hM
  go_enter Tryz.func38, Tryz.ntmps38
  go_wp2
  go_loopw [5] (fun i wr => ∃ k : Nat, k ≤ M ∧ i = .int .i64 (k : Int) ∧ BRow wr (w.heap.size + 1) (upTo M (rr p) k) ∧ Below (w.heap.size + 1) W0 wr) (fun i _ => M - (intOf i).toNat)
  case atStart => exact ⟨0, Nat.zero_le _, rfl, by simpa [upTo] using HBR1.out, HBW.out⟩
  case round =>
    obtain ⟨k, hk, rfl, hrow, hbe⟩ := hrel
    have HR := Lib.hid hrow; have HB := Lib.hid hbe
    have hzr := hbe.size
    have hlr := hrow.lt
    clear hrow hbe
    by_cases hlt : k < M
    · have hk0 : (0 : Int) ≤ (k : Int) := by omega
      have hk1 : (k : Int) < (M : Int) := by omega
      have hk2 : (k : Int) ≤ 1000000 := by omega
      obtain ⟨x0, hx0⟩ : ∃ z, (upTo M (rr p) k)[k]'(by rw [upTo_len hk]; exact hlt) = z := ⟨_, rfl⟩
      go_upto_region 6 with (fail)
      · have hbq : Below wr.heap.size wr wr.drew := (Below.refl _ _).drew
        have HK := Lib.hid (show ∀ w', Below (w.heap.size + 1) wr w' → w'.cell? ⟨w.heap.size, 0, none⟩ = some (.slice A p.nodes.length c) ∧ w'.cell? ⟨w.heap.size, 1, none⟩ = some (.slice A2 p.rails.length c2) from fun w' hb' => HKP.out w' (HB.out.trans hb'))
        have HKR := Lib.hid (show ∀ w', Below wr.heap.size wr w' → w'.cell? ⟨w.heap.size + 1, k, none⟩ = some (.bool x0) ∧ w'.frozen? ⟨w.heap.size + 1, k, none⟩ = false from fun w' hb' => by
          have h2 := HR.out.below hb' hlr
          have h3 := h2.cell (i := k) (by rw [upTo_len hk]; exact hlt)
          rw [hx0] at h3
          exact ⟨h3, h2.fro k⟩)
        have HS := Lib.hid (show (fun w' => w'.cell? ⟨w.heap.size, 0, none⟩ = some (.slice A p.nodes.length c) ∧ w'.cell? ⟨w.heap.size, 1, none⟩ = some (.slice A2 p.rails.length c2)) wr.drew from HK.out _ (hbq.mono (by omega)))
        refine wp_region_held_drew (S := (fun w' => w'.cell? ⟨w.heap.size, 0, none⟩ = some (.slice A p.nodes.length c) ∧ w'.cell? ⟨w.heap.size, 1, none⟩ = some (.slice A2 p.rails.length c2))) (by kernel_rfl) HS.out (fun _ => ?_)
        refine hTake (i := 0) (d := 21) (v := .slice (some ⟨w.heap.size + 1, 0, none⟩) M M) rfl rfl (by kernel_rfl) (by kernel_rfl) (by kernel_rfl) (fun _ _ _ h => h) (Or.inl ⟨rfl, ?gr⟩) HS.out ?_
        case gr =>
          rintro W' ⟨s0, s1⟩
          go_simp
        simp only [Act.put, List.setIfInBounds_toArray, List.set_cons_zero, List.set_cons_succ]
        refine hTake (i := 1) (d := 22) (v := .int .i64 (k : Int)) rfl rfl (by kernel_rfl) (by kernel_rfl) (by kernel_rfl) (fun _ _ _ h => h) (Or.inl ⟨rfl, ?gr⟩) HS.out ?_
        case gr =>
          rintro W' ⟨s0, s1⟩
          go_simp
        simp only [Act.put, List.setIfInBounds_toArray, List.set_cons_zero, List.set_cons_succ]
        refine hTake (i := 2) (d := 23) (v := .agg #[.slice A p.nodes.length c, .slice A2 p.rails.length c2]) rfl rfl (by kernel_rfl) (by kernel_rfl) (by kernel_rfl) (fun _ _ _ h => h) (Or.inl ⟨rfl, ?gr⟩) HS.out ?_
        case gr =>
          rintro W' ⟨s0, s1⟩
          go_simp
        simp only [Act.put, List.setIfInBounds_toArray, List.set_cons_zero, List.set_cons_succ]
        refine hTake (i := 3) (d := 24) (v := .int .i64 (k : Int)) rfl rfl (by kernel_rfl) (by kernel_rfl) (by kernel_rfl) (fun _ _ _ h => h) (Or.inl ⟨rfl, ?gr⟩) HS.out ?_
        case gr =>
          rintro W' ⟨s0, s1⟩
          go_simp
        simp only [Act.put, List.setIfInBounds_toArray, List.set_cons_zero, List.set_cons_succ]
        refine hTake (i := 6) (d := 27) (v := .int .i64 (k : Int)) rfl rfl (by kernel_rfl) (by kernel_rfl) (by kernel_rfl) (fun _ _ _ h => h) (Or.inl ⟨rfl, ?gr⟩) HS.out ?_
        case gr =>
          rintro W' ⟨s0, s1⟩
          go_simp
        simp only [Act.put, List.setIfInBounds_toArray, List.set_cons_zero, List.set_cons_succ]
        refine wpAnyH_ready (rs := [4]) (by kernel_rfl) (by simp) ?_
        refine AllReadyH.cons rfl (fun K hK => ?_) AllReadyH.nil
        rw [if_pos (by rfl)]
        go_simp
        go_at_call 66
        refine (Of_any (k : Int) _ hk0 hk2).mono ?_
        rintro e w5 ⟨rfl, hb5⟩
        replace hbq := hbq.trans (hb5.mono hbq.size)
        have hs5 := hbq.size
        have HS := Lib.hid (show (fun w' => w'.cell? ⟨w.heap.size, 0, none⟩ = some (.slice A p.nodes.length c) ∧ w'.cell? ⟨w.heap.size, 1, none⟩ = some (.slice A2 p.rails.length c2)) w5 from HK.out _ (hbq.mono (by omega)))
        refine hK.out _ _ HS.out (fun _ => ?_)
        clear hK K hb5
        try simp only [Act.put, List.setIfInBounds_toArray, List.set_cons_zero, List.set_cons_succ]
        refine wpAnyH_ready (rs := [5]) (by kernel_rfl) (by simp) ?_
        refine AllReadyH.cons rfl (fun K hK => ?_) AllReadyH.nil
        rw [if_pos (by rfl)]
        go_simp
        go_at_call 69
        have hpw := HC69.out k _ hlt (HB.out.trans (hbq.mono (by omega)))
        refine hpw.mono ?_
        rintro e w6 ⟨⟨rb, rfl, hrow, hrs⟩, hb6⟩
        replace hbq := hbq.trans (hb6.mono hbq.size)
        have hrl := HRL.out k
        have hrc := hrow.cell (i := k) (by rw [hrl]; exact hlt)
        rw [HRG.out] at hrc
        obtain ⟨hst, hfr⟩ := HKR.out _ hbq
        refine hK.out _ _ (HK.out _ (hbq.mono (by omega))) (fun _ => ?_)
        clear hK K hb6 hpw
        refine wpAnyH_strong (S' := (fun w' => w'.cell? ⟨w.heap.size, 0, none⟩ = some (.slice A p.nodes.length c) ∧ w'.cell? ⟨w.heap.size, 1, none⟩ = some (.slice A2 p.rails.length c2) ∧ w'.cell? ⟨rb, k, none⟩ = some (.bool (rB p k k)))) (fun _ h => ⟨h.1, h.2.1⟩) _ _ _ _ ?_
        have h67 := HK.out _ (hbq.mono (show w.heap.size + 1 ≤ wr.heap.size by omega))
        have HS := Lib.hid (show (fun w' => w'.cell? ⟨w.heap.size, 0, none⟩ = some (.slice A p.nodes.length c) ∧ w'.cell? ⟨w.heap.size, 1, none⟩ = some (.slice A2 p.rails.length c2) ∧ w'.cell? ⟨rb, k, none⟩ = some (.bool (rB p k k))) w6 from ⟨h67.1, h67.2, hrc⟩)
        try simp only [Act.put, List.setIfInBounds_toArray, List.set_cons_zero, List.set_cons_succ]
        refine hTake (i := 7) (d := 28) (v := .pointer (some ⟨rb, k, none⟩)) rfl rfl (by kernel_rfl) (by kernel_rfl) (by kernel_rfl) (fun _ _ _ h => h) (Or.inl ⟨rfl, ?gr⟩) HS.out ?_
        case gr =>
          rintro W' ⟨s0, s1, s2⟩
          go_simp
        simp only [Act.put, List.setIfInBounds_toArray, List.set_cons_zero, List.set_cons_succ]
        refine hTake (i := 8) (d := 29) (v := .bool (rB p k k)) rfl rfl (by kernel_rfl) (by kernel_rfl) (by kernel_rfl) (fun _ _ _ h => h) (Or.inl ⟨rfl, ?gr⟩) HS.out ?_
        case gr =>
          rintro W' ⟨s0, s1, s2⟩
          go_simp
        simp only [Act.put, List.setIfInBounds_toArray, List.set_cons_zero, List.set_cons_succ]
        refine hTake (i := 9) (d := 30) (v := .pointer (some ⟨w.heap.size + 1, k, none⟩)) rfl rfl (by kernel_rfl) (by kernel_rfl) (by kernel_rfl) (fun _ _ _ h => h) (Or.inl ⟨rfl, ?gr⟩) HS.out ?_
        case gr =>
          rintro W' ⟨s0, s1, s2⟩
          go_simp
        simp only [Act.put, List.setIfInBounds_toArray, List.set_cons_zero, List.set_cons_succ]
        refine wpAnyH_ready (rs := [10]) (by kernel_rfl) (by simp) ?_
        refine AllReadyH.cons rfl (fun K hK => ?_) AllReadyH.nil
        rw [if_pos (by rfl)]
        go_simp
        have h68 := HK.out _ ((hbq.mono (show w.heap.size + 1 ≤ wr.heap.size by omega)).setCell (p := ⟨w.heap.size + 1, k, none⟩) (Nat.le_refl _) (.bool (rB p k k)))
        refine hK.out _ _ ⟨h68.1, h68.2, (World.cell?_setCell_other _ _ _ _ (by intro e; have e2 := congrArg Addr.block e; simp at e2; omega)).trans hrc⟩ (fun _ => ?_)
        clear hK K
        refine wpAnyH_done (by kernel_rfl) ?_ _
        all_goals
          go_wp2_with fail
          go_roundw
          case rel => exact ⟨k + 1, by omega, by go_num, by rw [← upTo_set hlt]; exact (HR.out.below hbq hlr).setB k _, (HB.out.trans (hbq.mono (by omega))).setCell (p := ⟨w.heap.size + 1, k, none⟩) (Nat.le_refl _) _⟩
          case measure => simp [intOf]; omega
    · obtain rfl : M = k := by omega
      obtain ⟨S2, hS2⟩ : ∃ z, wr.heap.size = z := ⟨_, rfl⟩
      have HA1 := Lib.hid (show BRow (wr.alloc (.cells (madeCells #[.bool false] M) 4)) (w.heap.size + 1) ((List.range M).map (rr p)) by
        have := HR.out
        rw [upTo_all] at this
        exact this.of (Below.heap_alloc wr _ _ hlr))
      have HA2 := Lib.hid (show BRow (wr.alloc (.cells (madeCells #[.bool false] M) 4)) S2 (upTo M (oB p) 0) by
        have := BRow.made wr M
        rw [hS2] at this
        simpa [upTo] using this)
      have HA3 := Lib.hid (HB.out.alloc (show w.heap.size + 1 ≤ wr.heap.size by omega) (.cells (madeCells #[.bool false] M) 4))
      have hzz : (wr.alloc (.cells (madeCells #[.bool false] M) 4)).heap.size = S2 + 1 := by simp [hS2]
      have hS2' : w.heap.size + 2 ≤ S2 := by omega
      clear HR HB HBR1 HBW k00 k01
      go_wp2
      clear hmb
      generalize (wr.alloc (.cells (madeCells #[.bool false] M) 4)) = W2 at *
      go_loopw [7] (fun i wr => ∃ k : Nat, k ≤ M ∧ i = .int .i64 (k : Int) ∧ BRow wr (w.heap.size + 1) ((List.range M).map (rr p)) ∧ BRow wr S2 (upTo M (oB p) k) ∧ Below (w.heap.size + 1) W0 wr) (fun i _ => M - (intOf i).toNat)
      case atStart => exact ⟨0, Nat.zero_le _, rfl, HA1.out, HA2.out, HA3.out⟩
      case round =>
        obtain ⟨k, hk, rfl, hra, hro, hbe⟩ := hrel
        have HRA := Lib.hid hra; have HRO := Lib.hid hro; have HB := Lib.hid hbe
        have hlo := hro.lt
        have hla := hra.lt
        have hzr := hbe.size
        clear hra hro hbe
        by_cases hlt : k < M
        · have hk0 : (0 : Int) ≤ (k : Int) := by omega
          have hk1 : (k : Int) < (M : Int) := by omega
          have hk2 : (k : Int) ≤ 1000000 := by omega
          have a0 := HRA.out.cell (i := k) (by simpa using hlt)
          simp only [List.getElem_map, List.getElem_range] at a0
          have o0 := HRO.out.cell (i := k) (by rw [upTo_len hk]; exact hlt)
          have o1 := HRO.out.fro k
          obtain ⟨x0, hx0⟩ : ∃ z, (upTo M (oB p) k)[k]'(by rw [upTo_len hk]; exact hlt) = z := ⟨_, rfl⟩
          rw [hx0] at o0
          clear hx0
          go_upto_region 12 with (fail)
          have hset : ((upTo M (oB p) k).set k (rr p k)) = (upTo M (oB p) k).set k (anyTo p k 0) := by unfold anyTo rr; simp
          have HO1 := Lib.hid (show BRow (wr.setCell ⟨S2, k, none⟩ (.bool (rr p k))) S2 ((upTo M (oB p) k).set k (anyTo p k 0)) from by rw [← hset]; exact HRO.out.setB k _)
          have HA1' := Lib.hid (show BRow (wr.setCell ⟨S2, k, none⟩ (.bool (rr p k))) (w.heap.size + 1) ((List.range M).map (rr p)) from HRA.out.of (Below.heap_setCell _ _ _ _ (by simp; omega)))
          have HB1 := Lib.hid (HB.out.setCell (p := ⟨S2, k, none⟩) (show w.heap.size + 1 ≤ S2 by omega) (.bool (rr p k)))
          have hz5 : (wr.setCell ⟨S2, k, none⟩ (.bool (rr p k))).heap.size = wr.heap.size := by simp
          obtain ⟨w5, hw5⟩ : ∃ z, wr.setCell ⟨S2, k, none⟩ (.bool (rr p k)) = z := ⟨_, rfl⟩
          rw [hw5] at HO1 HA1' HB1 hz5 ⊢
          clear hset hw5 a0 o0 o1 HRA HRO HB
          have hl5 := HO1.out.lt
          go_cut [8] from 45 to 48 (fun s8 wx => (∃ rb : Nat, s8 = .slice (some ⟨rb, 0, none⟩) M M ∧ BRow wx rb (rRow p k) ∧ S2 < rb) ∧ Below w5.heap.size w5 wx)
          case first =>
            have hbq : Below w5.heap.size w5 w5.drew := (Below.refl _ _).drew
            go_region_held3 (fun w' => w'.cell? ⟨w.heap.size, 0, none⟩ = some (.slice A p.nodes.length c) ∧ w'.cell? ⟨w.heap.size, 1, none⟩ = some (.slice A2 p.rails.length c2))
              (exact HKP.out _ (HB1.out.trans (hbq.mono (by omega))))
              ((first
                | (go_at_call 66; (with_reducible refine (Of_any (k : Int) _ hk0 hk2).mono ?_); rintro e w6 ⟨rfl, hb6⟩; replace hbq := hbq.trans (hb6.mono hbq.size))
                | (go_at_call 69; have hpw := HC69.out k _ hlt (HB1.out.trans (hbq.mono (by omega))); have hbs := hbq.size; (with_reducible refine hpw.mono ?_); rintro e w7 ⟨⟨rb, rfl, hrow, hrs⟩, hb7⟩; replace hbq := hbq.trans (hb7.mono hbq.size))))
            all_goals
              go_wp2_with fail
              go_meet
              exact ⟨⟨rb, rfl, hrow, by omega⟩, hbq⟩
          case rest =>
          obtain ⟨⟨rb, rfl, hrow, hrb⟩, hbq⟩ := hcut
          have HR3 := Lib.hid hrow
          have HO3 := Lib.hid (HO1.out.below hbq hl5)
          have HA3' := Lib.hid (HA1'.out.below hbq HA1'.out.lt)
          have HB3 := Lib.hid (HB1.out.trans (hbq.mono (by omega)))
          have hzc := hbq.size
          clear hrow hbq HO1 HA1' HB1
          go_wp2
          go_loopw [9] (fun i wr => ∃ j : Nat, j ≤ M ∧ i = .int .i64 (j : Int) ∧ BRow wr (w.heap.size + 1) ((List.range M).map (rr p)) ∧ BRow wr S2 ((upTo M (oB p) k).set k (anyTo p k j)) ∧ BRow wr rb (rRow p k) ∧ Below (w.heap.size + 1) W0 wr) (fun i _ => M - (intOf i).toNat)
          case atStart => exact ⟨0, Nat.zero_le _, rfl, HA3'.out, HO3.out, HR3.out, HB3.out⟩
          case round =>
            obtain ⟨j, hj, rfl, hra, hro, hrr, hbe⟩ := hrel
            have HRA := Lib.hid hra; have HRO := Lib.hid hro; have HRR := Lib.hid hrr; have HB := Lib.hid hbe
            clear hra hro hrr hbe
            by_cases hjt : j < M
            · have hj0 : (0 : Int) ≤ (j : Int) := by omega
              have hj1 : (j : Int) < (M : Int) := by omega
              have a0 := HRA.out.cell (i := j) (by simpa using hjt)
              simp only [List.getElem_map, List.getElem_range] at a0
              have o0 := HRO.out.cell (i := k) (by rw [List.length_set, upTo_len hk]; exact hlt)
              have o1 := HRO.out.fro k
              rw [List.getElem_set_self] at o0
              have r0 := HRR.out.cell (i := j) (by rw [HRL.out]; exact hjt)
              rw [HRG.out] at r0
              have HST := Lib.hid (anyTo_succ p k j)
              have HEND := Lib.hid (show ∀ b : Bool, b = anyTo p k (j + 1) → BRow (wr.setCell ⟨S2, k, none⟩ (.bool b)) (w.heap.size + 1) ((List.range M).map (rr p)) ∧ BRow (wr.setCell ⟨S2, k, none⟩ (.bool b)) S2 ((upTo M (oB p) k).set k (anyTo p k (j + 1))) ∧ BRow (wr.setCell ⟨S2, k, none⟩ (.bool b)) rb (rRow p k) ∧ Below (w.heap.size + 1) W0 (wr.setCell ⟨S2, k, none⟩ (.bool b)) from fun b hb => by
                subst hb
                refine ⟨HRA.out.of (Below.heap_setCell _ _ _ _ (by simp; omega)), ?_, HRR.out.of (Below.heap_setCell _ _ _ _ (by simp; omega)), HB.out.setCell (p := ⟨S2, k, none⟩) (show w.heap.size + 1 ≤ S2 by omega) _⟩
                have := HRO.out.setB k (anyTo p k (j + 1))
                rwa [List.set_set] at this)
              unfold rr at a0
              obtain ⟨x, hx⟩ : ∃ z, anyTo p k j = z := ⟨_, rfl⟩
              obtain ⟨y, hy⟩ : ∃ z, rB p k j = z := ⟨_, rfl⟩
              obtain ⟨z, hz⟩ : ∃ z, rB p j j = z := ⟨_, rfl⟩
              rw [hx, hy, hz] at HST
              rw [hx] at o0; rw [hy] at r0; rw [hz] at a0
              clear hx hy hz
              cases x
              · cases y
                · go_wp2
                  go_roundw
                  case rel => exact ⟨j + 1, by omega, by go_num, HEND.out _ (by rw [HST.out]; rfl)⟩
                  case measure => simp [intOf]; omega
                · go_wp2
                  go_roundw
                  case rel => exact ⟨j + 1, by omega, by go_num, HEND.out _ (by rw [HST.out]; rfl)⟩
                  case measure => simp [intOf]; omega
              · go_wp2
                go_roundw
                case rel => exact ⟨j + 1, by omega, by go_num, HEND.out _ (by rw [HST.out]; rfl)⟩
                case measure => simp [intOf]; omega
            · obtain rfl : M = j := by omega
              have HL := Lib.hid (show (upTo M (oB p) k).set k (anyTo p k M) = upTo M (oB p) (k + 1) by rw [← HOB.out, upTo_set hlt])
              go_wp2
              go_roundw
              case rel => exact ⟨k + 1, by omega, by go_num, HRA.out, by rw [← HL.out]; exact HRO.out, HB.out⟩
              case measure => simp [intOf]; omega
        · obtain rfl : M = k := by omega
          have HQ := Lib.hid (show BRow wr S2 ((List.range M).map (oB p)) by have := HRO.out; rwa [upTo_all] at this)
          go_wp2
          go_ret
          exact ⟨⟨S2, rfl, HQ.out⟩, HB0.out.trans (HB.out.mono (by omega))⟩

/-! partJ7 -/
set_option linter.unusedVariables false
set_option linter.unusedSimpArgs false
open Go.RowKit
/-- a way as long as one likes, where a round is met -/
theorem Rch.len {nx : Nat → List Int} {a b : Nat} (h : Rch nx a b) : ∃ l : List Nat, 1 ≤ l.length ∧ l.getLast? = some b ∧ ∀ i (hi : i < l.length), ((l[i] : Nat) : Int) ∈ nx ((a :: l)[i]'(by simp; omega)) := by
  induction h with
  | @one a b h => exact ⟨[b], by simp, rfl, fun i hi => by
      obtain rfl : i = 0 := by simp at hi; omega
      simpa using h⟩
  | @more a b c h _ ih =>
    obtain ⟨l, h1, h2, h3⟩ := ih
    refine ⟨b :: l, by simp, by rw [List.getLast?_cons, h2]; rfl, fun i hi => ?_⟩
    cases i with
    | zero => simpa using h
    | succ i =>
      have := h3 i (by simpa using hi)
      simpa using this
theorem walk_app {nx : Nat → List Int} {a b : Nat} : ∀ (l l2 : List Nat), (∀ i (hi : i < l.length), ((l[i] : Nat) : Int) ∈ nx ((a :: l)[i]'(by simp; omega))) → l.getLast? = some b →
    (∀ i (hi : i < l2.length), ((l2[i] : Nat) : Int) ∈ nx ((b :: l2)[i]'(by simp; omega))) → ∀ i (hi : i < (l ++ l2).length), (((l ++ l2)[i] : Nat) : Int) ∈ nx ((a :: (l ++ l2))[i]'(by simp at hi ⊢; omega)) := by
  intro l
  induction l generalizing a with
  | nil => intro l2 _ h; simp at h
  | cons x l ih =>
    intro l2 h1 h2 h3 i hi
    cases i with
    | zero => have := h1 0 (by simp); simpa using this
    | succ i =>
      cases l with
      | nil =>
        obtain rfl : x = b := by simpa using h2
        have := h3 i (by simpa using hi)
        simpa using this
      | cons y l =>
        have := ih (a := x) l2 (fun i hi => by have := h1 (i + 1) (by simpa using hi); simpa using this) (by simpa using h2) h3 i (by simpa using hi)
        simpa using this
/-- along a round, ways as long as one likes -/
theorem round_long {nx : Nat → List Int} {b : Nat} (h : Rch nx b b) : ∀ n : Nat, ∃ l : List Nat, n ≤ l.length ∧ (∀ i (hi : i < l.length), ((l[i] : Nat) : Int) ∈ nx ((b :: l)[i]'(by simp; omega))) := by
  obtain ⟨l0, h1, h2, h3⟩ := h.len
  intro n
  induction n with
  | zero => exact ⟨[], by simp, fun i hi => by simp at hi⟩
  | succ n ih =>
    obtain ⟨l, h4, h5⟩ := ih
    exact ⟨l0 ++ l, by simp; omega, walk_app l0 l h3 h2 h5⟩
theorem fin2_no {M : Nat} {nx : Nat → List Int} {res : List Bool} (h : Fin2 M nx res) (hnx : ∀ t, t < M → ∀ z ∈ nx t, ∃ u : Nat, z = u ∧ u < M) {a b : Nat} (hr : Rch nx a b) : a < M → gB res a = false → b < M ∧ gB res b = false := by
  induction hr with
  | @one a b hm =>
    intro ha hf
    obtain ⟨u, hu, hu2⟩ := hnx a ha _ hm
    obtain rfl : b = u := by omega
    have := h.no a ha hf _ hm
    rw [Int.toNat_natCast] at this
    exact ⟨hu2, this⟩
  | @more a b c hm _ ih =>
    intro ha hf
    obtain ⟨u, hu, hu2⟩ := hnx a ha _ hm
    obtain rfl : b = u := by omega
    have := h.no a ha hf _ hm
    rw [Int.toNat_natCast] at this
    exact ih hu2 this
theorem fin2_yes {M : Nat} {nx : Nat → List Int} {res : List Bool} (h : Fin2 M nx res) (hnx : ∀ t, t < M → ∀ z ∈ nx t, ∃ u : Nat, z = u ∧ u < M) {a : Nat} (ha : a < M) (ht : gB res a = true) : Rch nx a a ∨ ∃ k, k < M ∧ Rch nx a k ∧ Rch nx k k := by
  have step : ∀ t, t < M ∧ gB res t = true → ∃ u, (u < M ∧ gB res u = true) ∧ (u : Int) ∈ nx t := fun t ht => by
    obtain ⟨u, h1, h2⟩ := h.yes t ht.1 ht.2
    obtain ⟨v, h3, h4⟩ := hnx t ht.1 _ h1
    obtain rfl : u = v := by omega
    exact ⟨u, ⟨h4, h2⟩, h1⟩
  let f : Nat → {t // t < M ∧ gB res t = true} := fun n => Nat.rec ⟨a, ha, ht⟩ (fun _ t => ⟨Classical.choose (step t.1 t.2), (Classical.choose_spec (step t.1 t.2)).1⟩) n
  have hf : ∀ n, ((f (n + 1)).1 : Int) ∈ nx (f n).1 := fun n => (Classical.choose_spec (step (f n).1 (f n).2)).2
  have hR : ∀ d n, Rch nx (f n).1 (f (n + d + 1)).1 := fun d => by
    induction d with
    | zero => exact fun n => .one (hf n)
    | succ d ih => exact fun n => (ih n).snoc (hf (n + d + 1))
  have hrep : ∃ i j, i < j ∧ (f i).1 = (f j).1 := by
    refine Classical.byContradiction fun hn => ?_
    have hnd : ((List.range (M + 1)).map fun i => (f i).1).Nodup := by
      unfold List.Nodup
      rw [List.pairwise_map]
      refine List.pairwise_lt_range.imp fun {i j} hij e => hn ⟨i, j, hij, e⟩
    have := nodup_le' (M := M) hnd fun u hu => by
      obtain ⟨i, _, rfl⟩ := List.mem_map.1 hu
      exact (f i).2.1
    simp at this
    omega
  obtain ⟨i, j, hij, e⟩ := hrep
  have hkk : Rch nx (f i).1 (f i).1 := by
    have := hR (j - i - 1) i
    rw [show i + (j - i - 1) + 1 = j by omega, ← e] at this
    exact this
  cases i with
  | zero => exact .inl hkk
  | succ i =>
    refine .inr ⟨(f (i + 1)).1, (f (i + 1)).2.1, ?_, hkk⟩
    have h9 : Rch nx a (f (0 + i + 1)).1 := hR i 0
    rwa [Nat.zero_add] at h9
theorem fin2_iff {M : Nat} {nx : Nat → List Int} {res : List Bool} (h : Fin2 M nx res) (hnx : ∀ t, t < M → ∀ z ∈ nx t, ∃ u : Nat, z = u ∧ u < M) {a : Nat} (ha : a < M) : gB res a = true ↔ Rch nx a a ∨ ∃ k, k < M ∧ Rch nx a k ∧ Rch nx k k := by
  refine ⟨fin2_yes h hnx ha, fun hr => ?_⟩
  have main : ∀ b, b < M → Rch nx b b → gB res b = true := fun b hb hbb => by
    cases e : gB res b with
    | true => rfl
    | false =>
      obtain ⟨l, h1, h2⟩ := round_long hbb M
      have := h.way l b hb e h2
      omega
  cases e : gB res a with
  | true => rfl
  | false =>
    rcases hr with hr | ⟨k, hk, h1, h2⟩
    · rw [main a ha hr] at e; cases e
    · obtain ⟨_, h3⟩ := fin2_no h hnx h1 ha e
      rw [main k hk h2] at h3; cases h3

/-! partJ8 -/
set_option linter.unusedVariables false
set_option linter.unusedSimpArgs false
open Go.RowKit

set_option maxRecDepth 100000 in
set_option maxHeartbeats 8000000 in
theorem rTurns_any (A A2 : Option Addr) (c c2 k : Nat) (p : Pl) (w : World) (hP : PlAt w w.heap.size A c A2 c2 p) (hv : Vld p) (hk : k < p.rails.length) :
    Calls Tryz.prog 39 #[.agg #[.slice A p.nodes.length c, .slice A2 p.rails.length c2], .int .i64 (k : Int)] w fun e w' => e = .returned (.bool (turnB p k)) ∧ Below w.heap.size w w' := by
  have hsz := of_decide_eq_true hv.sizes
  obtain ⟨M, hM⟩ : ∃ z, 2 * p.rails.length = z := ⟨_, rfl⟩
  obtain ⟨a, ha⟩ : ∃ z, 2 * k = z := ⟨_, rfl⟩
  obtain ⟨b, hb⟩ : ∃ z, 2 * k + 1 = z := ⟨_, rfl⟩
  have ham : a < M := by omega
  have hbm : b < M := by omega
  have ha0 : (0 : Int) ≤ (a : Int) := by omega
  have hb0 : (0 : Int) ≤ (b : Int) := by omega
  have ha1 : (a : Int) < (M : Int) := by omega
  have hb1 : (b : Int) < (M : Int) := by omega
  have hin : railIn p (k : Int) = true := by unfold railIn; simp; omega
  have hka : keyE ⟨(k : Int), false⟩ = a := by unfold keyE endNo; simp; omega
  have hkb : keyE ⟨(k : Int), true⟩ = b := by unfold keyE endNo; simp; omega
  have hna : endNo ⟨(k : Int), false⟩ = (a : Int) := by unfold endNo; simp; omega
  have hnb : endNo ⟨(k : Int), true⟩ = (b : Int) := by unfold endNo; simp; omega
  have hT : turnB p k = (rB p a b || rB p b a) := by unfold turnB; rw [hb, ha]
  have hrl : ∀ x, (rRow p x).length = M := fun x => by rw [rRow_len, hM]
  have hrg : ∀ x j (h : j < (rRow p x).length), (rRow p x)[j] = rB p x j := fun x j h => by simp [rRow]
  have hz2 : ((w.alloc (.cells #[.slice A p.nodes.length c, .slice A2 p.rails.length c2] 25)).alloc (.cells #[.int .i64 (k : Int), .bool false] 27)).heap.size = w.heap.size + 2 := by simp
  have hbw := ((Below.refl w.heap.size w).alloc (Nat.le_refl _) (.cells #[.slice A p.nodes.length c, .slice A2 p.rails.length c2] 25)).alloc (by simp) (.cells #[.int .i64 (k : Int), .bool false] 27)
  have hcx : ∀ j : Nat, ((w.alloc (.cells #[.slice A p.nodes.length c, .slice A2 p.rails.length c2] 25)).alloc (.cells #[.int .i64 (k : Int), .bool false] 27)).cell? ⟨w.heap.size, j, none⟩ = #[.slice A p.nodes.length c, .slice A2 p.rails.length c2][j]? ∧ ((w.alloc (.cells #[.slice A p.nodes.length c, .slice A2 p.rails.length c2] 25)).alloc (.cells #[.int .i64 (k : Int), .bool false] 27)).cell? ⟨w.heap.size + 1, j, none⟩ = #[.int .i64 (k : Int), .bool false][j]? := fun j => by
    have h1 := cell_keep1 (o := .cells #[.int .i64 (k : Int), .bool false] 27) (cell_new1 w #[.slice A p.nodes.length c, .slice A2 p.rails.length c2] 25 j) (by simp)
    have h2 := cell_new1 (w.alloc (.cells #[.slice A p.nodes.length c, .slice A2 p.rails.length c2] 25)) #[.int .i64 (k : Int), .bool false] 27 j
    rw [show (w.alloc (.cells #[.slice A p.nodes.length c, .slice A2 p.rails.length c2] 25)).heap.size = w.heap.size + 1 by simp] at h2
    exact ⟨h1, h2⟩
  obtain ⟨wr, hwr⟩ : ∃ z, (w.alloc (.cells #[.slice A p.nodes.length c, .slice A2 p.rails.length c2] 25)).alloc (.cells #[.int .i64 (k : Int), .bool false] 27) = z := ⟨_, rfl⟩
  rw [hwr] at hz2 hbw hcx
  have HK := Lib.hid (show ∀ w', Below wr.heap.size wr w' → w'.cell? ⟨w.heap.size, 0, none⟩ = some (.slice A p.nodes.length c) ∧ w'.cell? ⟨w.heap.size, 1, none⟩ = some (.slice A2 p.rails.length c2) ∧ w'.cell? ⟨w.heap.size + 1, 0, none⟩ = some (.int .i64 (k : Int)) ∧ w'.cell? ⟨w.heap.size + 1, 1, none⟩ = some (.bool false) from fun w' hb' =>
    ⟨(hb'.cell (p := ⟨w.heap.size, 0, none⟩) (by simp; omega)).trans (hcx 0).1, (hb'.cell (p := ⟨w.heap.size, 1, none⟩) (by simp; omega)).trans (hcx 1).1, (hb'.cell (p := ⟨w.heap.size + 1, 0, none⟩) (by simp; omega)).trans (hcx 0).2, (hb'.cell (p := ⟨w.heap.size + 1, 1, none⟩) (by simp; omega)).trans (hcx 1).2⟩)
  have C69 := fun (m : E) (hm : railIn p m.rail = true) (wx : World) (hx : Below wr.heap.size wr wx) => rReached_row A A2 c c2 p m wx ((hP.below (hbw.trans (hx.mono (by omega)))).more (by have := hx.size; omega)) hv hm
  rw [hM] at C69
  have C69a := Lib.hid (fun wx hx => C69 ⟨(k : Int), false⟩ hin wx hx)
  have C69b := Lib.hid (fun wx hx => C69 ⟨(k : Int), true⟩ hin wx hx)
  rw [hka] at C69a
  rw [hkb] at C69b
  have C70 := fun wx : World => Opposite_any (k : Int) false wx
  have C34a := fun wx : World => rNumber_any (k : Int) true wx (by omega) (by omega)
  have C34b := fun wx : World => rNumber_any (k : Int) false wx (by omega) (by omega)
  rw [hnb] at C34a
  rw [hna] at C34b
  simp only [Bool.not_false] at C70
  obtain ⟨X1, hX1⟩ : ∃ z, rB p a b = z := ⟨_, rfl⟩
  obtain ⟨X2, hX2⟩ : ∃ z, rB p b a = z := ⟨_, rfl⟩
  have HROW1 := Lib.hid (show ∀ (wx : World) (rb : Nat), BRow wx rb (rRow p a) → wx.cell? ⟨rb, b, none⟩ = some (.bool X1) from fun wx rb h => by
    have := h.cell (i := b) (by rw [hrl]; exact hbm)
    rwa [hrg, hX1] at this)
  have HROW2 := Lib.hid (show ∀ (wx : World) (rb : Nat), BRow wx rb (rRow p b) → wx.cell? ⟨rb, a, none⟩ = some (.bool X2) from fun wx rb h => by
    have := h.cell (i := a) (by rw [hrl]; exact ham)
    rwa [hrg, hX2] at this)
  rw [hX1, hX2] at hT
  have HT := Lib.hid hT
  have HBW := Lib.hid hbw
  have hkp := HK.out wr (Below.refl _ _)
  obtain ⟨k0, k1, k2, k3⟩ := hkp
  clear hP hv hsz hM ha hb hka hkb hna hnb hT hrl hrg hbw hcx C69 hX1 hX2
  have HWR := Lib.hid hwr
  clear hwr
  go_enter Tryz.func39, Tryz.ntmps39
  go_upto_region 2 with (fail)
  rw [HWR.out]
  have hbq : Below wr.heap.size wr wr.drew := (Below.refl _ _).drew
  cases X1
  case true =>
    have HS := Lib.hid (show (fun w' => w'.cell? ⟨w.heap.size, 0, none⟩ = some (.slice A p.nodes.length c) ∧ w'.cell? ⟨w.heap.size, 1, none⟩ = some (.slice A2 p.rails.length c2) ∧ w'.cell? ⟨w.heap.size + 1, 0, none⟩ = some (.int .i64 (k : Int)) ∧ w'.cell? ⟨w.heap.size + 1, 1, none⟩ = some (.bool false)) wr.drew from HK.out _ hbq)
    refine wp_region_held_drew (S := (fun w' => w'.cell? ⟨w.heap.size, 0, none⟩ = some (.slice A p.nodes.length c) ∧ w'.cell? ⟨w.heap.size, 1, none⟩ = some (.slice A2 p.rails.length c2) ∧ w'.cell? ⟨w.heap.size + 1, 0, none⟩ = some (.int .i64 (k : Int)) ∧ w'.cell? ⟨w.heap.size + 1, 1, none⟩ = some (.bool false))) (by kernel_rfl) HS.out (fun _ => ?_)
    refine hTake (i := 0) (d := 8) (v := .agg #[.slice A p.nodes.length c, .slice A2 p.rails.length c2]) rfl rfl (by kernel_rfl) (by kernel_rfl) (by kernel_rfl) (fun _ _ _ h => h) (Or.inl ⟨rfl, ?gr⟩) HS.out ?_
    case gr =>
      rintro W' ⟨s0, s1, s2, s3⟩
      go_simp
    simp only [Act.put, List.setIfInBounds_toArray, List.set_cons_zero, List.set_cons_succ]
    refine hTake (i := 1) (d := 9) (v := .agg #[.int .i64 (k : Int), .bool false]) rfl rfl (by kernel_rfl) (by kernel_rfl) (by kernel_rfl) (fun _ _ _ h => h) (Or.inl ⟨rfl, ?gr⟩) HS.out ?_
    case gr =>
      rintro W' ⟨s0, s1, s2, s3⟩
      go_simp
    simp only [Act.put, List.setIfInBounds_toArray, List.set_cons_zero, List.set_cons_succ]
    refine hTake (i := 3) (d := 11) (v := .agg #[.int .i64 (k : Int), .bool false]) rfl rfl (by kernel_rfl) (by kernel_rfl) (by kernel_rfl) (fun _ _ _ h => h) (Or.inl ⟨rfl, ?gr⟩) HS.out ?_
    case gr =>
      rintro W' ⟨s0, s1, s2, s3⟩
      go_simp
    simp only [Act.put, List.setIfInBounds_toArray, List.set_cons_zero, List.set_cons_succ]
    refine wpAnyH_ready (rs := [2]) (by kernel_rfl) (by simp) ?_
    refine AllReadyH.cons rfl (fun K hK => ?_) AllReadyH.nil
    · rw [if_pos (by rfl)]
      go_simp
      go_at_call 69
      refine (C69a.out _ hbq).mono ?_
      rintro e v1 ⟨⟨rb1, rfl, hrow, hrs⟩, hb5⟩
      replace hbq := hbq.trans (hb5.mono hbq.size)
      have HS := Lib.hid (show (fun w' => w'.cell? ⟨w.heap.size, 0, none⟩ = some (.slice A p.nodes.length c) ∧ w'.cell? ⟨w.heap.size, 1, none⟩ = some (.slice A2 p.rails.length c2) ∧ w'.cell? ⟨w.heap.size + 1, 0, none⟩ = some (.int .i64 (k : Int)) ∧ w'.cell? ⟨w.heap.size + 1, 1, none⟩ = some (.bool false)) v1 from ⟨(HK.out _ hbq).1, (HK.out _ hbq).2.1, (HK.out _ hbq).2.2.1, (HK.out _ hbq).2.2.2⟩)
      refine hK.out _ _ HS.out (fun _ => ?_)
      clear hK K hb5
      have hr1 := HROW1.out _ _ hrow
      clear hrow hrs
      refine wpAnyH_strong (S' := (fun w' => w'.cell? ⟨w.heap.size, 0, none⟩ = some (.slice A p.nodes.length c) ∧ w'.cell? ⟨w.heap.size, 1, none⟩ = some (.slice A2 p.rails.length c2) ∧ w'.cell? ⟨w.heap.size + 1, 0, none⟩ = some (.int .i64 (k : Int)) ∧ w'.cell? ⟨w.heap.size + 1, 1, none⟩ = some (.bool false) ∧ w'.cell? ⟨rb1, b, none⟩ = some (.bool true))) (fun _ h => ⟨h.1, h.2.1, h.2.2.1, h.2.2.2.1⟩) _ _ _ _ ?_
      have HS := Lib.hid (show (fun w' => w'.cell? ⟨w.heap.size, 0, none⟩ = some (.slice A p.nodes.length c) ∧ w'.cell? ⟨w.heap.size, 1, none⟩ = some (.slice A2 p.rails.length c2) ∧ w'.cell? ⟨w.heap.size + 1, 0, none⟩ = some (.int .i64 (k : Int)) ∧ w'.cell? ⟨w.heap.size + 1, 1, none⟩ = some (.bool false) ∧ w'.cell? ⟨rb1, b, none⟩ = some (.bool true)) v1 from ⟨(HK.out _ hbq).1, (HK.out _ hbq).2.1, (HK.out _ hbq).2.2.1, (HK.out _ hbq).2.2.2, hr1⟩)
      try simp only [Act.put, List.setIfInBounds_toArray, List.set_cons_zero, List.set_cons_succ]
      refine wpAnyH_ready (rs := [4]) (by kernel_rfl) (by simp) ?_
      refine AllReadyH.cons rfl (fun K hK => ?_) AllReadyH.nil
      · rw [if_pos (by rfl)]
        go_simp
        go_at_call 70
        refine (C70 _).mono ?_
        rintro e v2 ⟨rfl, hb5⟩
        replace hbq := hbq.trans (hb5.mono hbq.size)
        replace hr1 := (hb5.cell (p := ⟨rb1, b, none⟩) (World.block_lt_of_cell? _ _ hr1)).trans hr1
        have HS := Lib.hid (show (fun w' => w'.cell? ⟨w.heap.size, 0, none⟩ = some (.slice A p.nodes.length c) ∧ w'.cell? ⟨w.heap.size, 1, none⟩ = some (.slice A2 p.rails.length c2) ∧ w'.cell? ⟨w.heap.size + 1, 0, none⟩ = some (.int .i64 (k : Int)) ∧ w'.cell? ⟨w.heap.size + 1, 1, none⟩ = some (.bool false) ∧ w'.cell? ⟨rb1, b, none⟩ = some (.bool true)) v2 from ⟨(HK.out _ hbq).1, (HK.out _ hbq).2.1, (HK.out _ hbq).2.2.1, (HK.out _ hbq).2.2.2, hr1⟩)
        refine hK.out _ _ HS.out (fun _ => ?_)
        clear hK K hb5
        try simp only [Act.put, List.setIfInBounds_toArray, List.set_cons_zero, List.set_cons_succ]
        refine wpAnyH_ready (rs := [5]) (by kernel_rfl) (by simp) ?_
        refine AllReadyH.cons rfl (fun K hK => ?_) AllReadyH.nil
        · rw [if_pos (by rfl)]
          go_simp
          go_at_call 34
          refine (C34a _).mono ?_
          rintro e v3 ⟨rfl, hb5⟩
          replace hbq := hbq.trans (hb5.mono hbq.size)
          replace hr1 := (hb5.cell (p := ⟨rb1, b, none⟩) (World.block_lt_of_cell? _ _ hr1)).trans hr1
          have HS := Lib.hid (show (fun w' => w'.cell? ⟨w.heap.size, 0, none⟩ = some (.slice A p.nodes.length c) ∧ w'.cell? ⟨w.heap.size, 1, none⟩ = some (.slice A2 p.rails.length c2) ∧ w'.cell? ⟨w.heap.size + 1, 0, none⟩ = some (.int .i64 (k : Int)) ∧ w'.cell? ⟨w.heap.size + 1, 1, none⟩ = some (.bool false) ∧ w'.cell? ⟨rb1, b, none⟩ = some (.bool true)) v3 from ⟨(HK.out _ hbq).1, (HK.out _ hbq).2.1, (HK.out _ hbq).2.2.1, (HK.out _ hbq).2.2.2, hr1⟩)
          refine hK.out _ _ HS.out (fun _ => ?_)
          clear hK K hb5
          try simp only [Act.put, List.setIfInBounds_toArray, List.set_cons_zero, List.set_cons_succ]
          refine hTake (i := 6) (d := 14) (v := .pointer (some ⟨rb1, b, none⟩)) rfl rfl (by kernel_rfl) (by kernel_rfl) (by kernel_rfl) (fun _ _ _ h => h) (Or.inl ⟨rfl, ?gr⟩) HS.out ?_
          case gr =>
            rintro W' ⟨s0, s1, s2, s3, s4⟩
            go_simp
          simp only [Act.put, List.setIfInBounds_toArray, List.set_cons_zero, List.set_cons_succ]
          refine hTake (i := 7) (d := 15) (v := .bool true) rfl rfl (by kernel_rfl) (by kernel_rfl) (by kernel_rfl) (fun _ _ _ h => h) (Or.inl ⟨rfl, ?gr⟩) HS.out ?_
          case gr =>
            rintro W' ⟨s0, s1, s2, s3, s4⟩
            go_simp
          simp only [Act.put, List.setIfInBounds_toArray, List.set_cons_zero, List.set_cons_succ]
          refine hTake (i := 8) (d := 16) (v := .bool true) rfl rfl (by kernel_rfl) (by kernel_rfl) (by kernel_rfl) (fun _ _ _ h => h) (Or.inl ⟨rfl, ?gr⟩) HS.out ?_
          case gr =>
            rintro W' ⟨s0, s1, s2, s3, s4⟩
            go_simp
          simp only [Act.put, List.setIfInBounds_toArray, List.set_cons_zero, List.set_cons_succ]
          refine hTake (i := 9) (d := 17) (v := undef) rfl rfl (by kernel_rfl) (by kernel_rfl) (by kernel_rfl) (fun _ _ _ h => h) (Or.inr ⟨rfl, rfl⟩) HS.out ?_
          simp only [Act.put, List.setIfInBounds_toArray, List.set_cons_zero, List.set_cons_succ]
          refine hTake (i := 10) (d := 18) (v := undef) rfl rfl (by kernel_rfl) (by kernel_rfl) (by kernel_rfl) (fun _ _ _ h => h) (Or.inr ⟨rfl, rfl⟩) HS.out ?_
          simp only [Act.put, List.setIfInBounds_toArray, List.set_cons_zero, List.set_cons_succ]
          refine hTake (i := 11) (d := 19) (v := undef) rfl rfl (by kernel_rfl) (by kernel_rfl) (by kernel_rfl) (fun _ _ _ h => h) (Or.inr ⟨rfl, rfl⟩) HS.out ?_
          simp only [Act.put, List.setIfInBounds_toArray, List.set_cons_zero, List.set_cons_succ]
          refine hTake (i := 12) (d := 20) (v := undef) rfl rfl (by kernel_rfl) (by kernel_rfl) (by kernel_rfl) (fun _ _ _ h => h) (Or.inr ⟨rfl, rfl⟩) HS.out ?_
          simp only [Act.put, List.setIfInBounds_toArray, List.set_cons_zero, List.set_cons_succ]
          refine hTake (i := 13) (d := 21) (v := undef) rfl rfl (by kernel_rfl) (by kernel_rfl) (by kernel_rfl) (fun _ _ _ h => h) (Or.inr ⟨rfl, rfl⟩) HS.out ?_
          simp only [Act.put, List.setIfInBounds_toArray, List.set_cons_zero, List.set_cons_succ]
          refine hTake (i := 14) (d := 22) (v := undef) rfl rfl (by kernel_rfl) (by kernel_rfl) (by kernel_rfl) (fun _ _ _ h => h) (Or.inr ⟨rfl, rfl⟩) HS.out ?_
          simp only [Act.put, List.setIfInBounds_toArray, List.set_cons_zero, List.set_cons_succ]
          refine hTake (i := 15) (d := 23) (v := undef) rfl rfl (by kernel_rfl) (by kernel_rfl) (by kernel_rfl) (fun _ _ _ h => h) (Or.inr ⟨rfl, rfl⟩) HS.out ?_
          simp only [Act.put, List.setIfInBounds_toArray, List.set_cons_zero, List.set_cons_succ]
          refine hTake (i := 16) (d := 24) (v := undef) rfl rfl (by kernel_rfl) (by kernel_rfl) (by kernel_rfl) (fun _ _ _ h => h) (Or.inr ⟨rfl, rfl⟩) HS.out ?_
          simp only [Act.put, List.setIfInBounds_toArray, List.set_cons_zero, List.set_cons_succ]
          refine hTake (i := 17) (d := 25) (v := .bool true) rfl rfl (by kernel_rfl) (by kernel_rfl) (by kernel_rfl) (fun _ _ _ h => h) (Or.inl ⟨rfl, ?gr⟩) HS.out ?_
          case gr =>
            rintro W' ⟨s0, s1, s2, s3, s4⟩
            go_simp
          simp only [Act.put, List.setIfInBounds_toArray, List.set_cons_zero, List.set_cons_succ]
          refine hTake (i := 18) (d := 4) (v := .bool true) rfl rfl (by kernel_rfl) (by kernel_rfl) (by kernel_rfl) (fun _ _ _ h => h) (Or.inl ⟨rfl, ?gr⟩) HS.out ?_
          case gr =>
            rintro W' ⟨s0, s1, s2, s3, s4⟩
            go_simp
          simp only [Act.put, List.setIfInBounds_toArray, List.set_cons_zero, List.set_cons_succ]
          refine wpAnyH_done (by kernel_rfl) ?_ _
          go_wp2_with fail
          go_ret
          exact ⟨by rw [HT.out]; rfl, HBW.out.trans (hbq.mono (by omega))⟩
  case false =>
    have HS := Lib.hid (show (fun w' => w'.cell? ⟨w.heap.size, 0, none⟩ = some (.slice A p.nodes.length c) ∧ w'.cell? ⟨w.heap.size, 1, none⟩ = some (.slice A2 p.rails.length c2) ∧ w'.cell? ⟨w.heap.size + 1, 0, none⟩ = some (.int .i64 (k : Int)) ∧ w'.cell? ⟨w.heap.size + 1, 1, none⟩ = some (.bool false)) wr.drew from HK.out _ hbq)
    refine wp_region_held_drew (S := (fun w' => w'.cell? ⟨w.heap.size, 0, none⟩ = some (.slice A p.nodes.length c) ∧ w'.cell? ⟨w.heap.size, 1, none⟩ = some (.slice A2 p.rails.length c2) ∧ w'.cell? ⟨w.heap.size + 1, 0, none⟩ = some (.int .i64 (k : Int)) ∧ w'.cell? ⟨w.heap.size + 1, 1, none⟩ = some (.bool false))) (by kernel_rfl) HS.out (fun _ => ?_)
    refine hTake (i := 0) (d := 8) (v := .agg #[.slice A p.nodes.length c, .slice A2 p.rails.length c2]) rfl rfl (by kernel_rfl) (by kernel_rfl) (by kernel_rfl) (fun _ _ _ h => h) (Or.inl ⟨rfl, ?gr⟩) HS.out ?_
    case gr =>
      rintro W' ⟨s0, s1, s2, s3⟩
      go_simp
    simp only [Act.put, List.setIfInBounds_toArray, List.set_cons_zero, List.set_cons_succ]
    refine hTake (i := 1) (d := 9) (v := .agg #[.int .i64 (k : Int), .bool false]) rfl rfl (by kernel_rfl) (by kernel_rfl) (by kernel_rfl) (fun _ _ _ h => h) (Or.inl ⟨rfl, ?gr⟩) HS.out ?_
    case gr =>
      rintro W' ⟨s0, s1, s2, s3⟩
      go_simp
    simp only [Act.put, List.setIfInBounds_toArray, List.set_cons_zero, List.set_cons_succ]
    refine hTake (i := 3) (d := 11) (v := .agg #[.int .i64 (k : Int), .bool false]) rfl rfl (by kernel_rfl) (by kernel_rfl) (by kernel_rfl) (fun _ _ _ h => h) (Or.inl ⟨rfl, ?gr⟩) HS.out ?_
    case gr =>
      rintro W' ⟨s0, s1, s2, s3⟩
      go_simp
    simp only [Act.put, List.setIfInBounds_toArray, List.set_cons_zero, List.set_cons_succ]
    refine wpAnyH_ready (rs := [2]) (by kernel_rfl) (by simp) ?_
    refine AllReadyH.cons rfl (fun K hK => ?_) AllReadyH.nil
    · rw [if_pos (by rfl)]
      go_simp
      go_at_call 69
      refine (C69a.out _ hbq).mono ?_
      rintro e v1 ⟨⟨rb1, rfl, hrow, hrs⟩, hb5⟩
      replace hbq := hbq.trans (hb5.mono hbq.size)
      have HS := Lib.hid (show (fun w' => w'.cell? ⟨w.heap.size, 0, none⟩ = some (.slice A p.nodes.length c) ∧ w'.cell? ⟨w.heap.size, 1, none⟩ = some (.slice A2 p.rails.length c2) ∧ w'.cell? ⟨w.heap.size + 1, 0, none⟩ = some (.int .i64 (k : Int)) ∧ w'.cell? ⟨w.heap.size + 1, 1, none⟩ = some (.bool false)) v1 from ⟨(HK.out _ hbq).1, (HK.out _ hbq).2.1, (HK.out _ hbq).2.2.1, (HK.out _ hbq).2.2.2⟩)
      refine hK.out _ _ HS.out (fun _ => ?_)
      clear hK K hb5
      have hr1 := HROW1.out _ _ hrow
      clear hrow hrs
      refine wpAnyH_strong (S' := (fun w' => w'.cell? ⟨w.heap.size, 0, none⟩ = some (.slice A p.nodes.length c) ∧ w'.cell? ⟨w.heap.size, 1, none⟩ = some (.slice A2 p.rails.length c2) ∧ w'.cell? ⟨w.heap.size + 1, 0, none⟩ = some (.int .i64 (k : Int)) ∧ w'.cell? ⟨w.heap.size + 1, 1, none⟩ = some (.bool false) ∧ w'.cell? ⟨rb1, b, none⟩ = some (.bool false))) (fun _ h => ⟨h.1, h.2.1, h.2.2.1, h.2.2.2.1⟩) _ _ _ _ ?_
      have HS := Lib.hid (show (fun w' => w'.cell? ⟨w.heap.size, 0, none⟩ = some (.slice A p.nodes.length c) ∧ w'.cell? ⟨w.heap.size, 1, none⟩ = some (.slice A2 p.rails.length c2) ∧ w'.cell? ⟨w.heap.size + 1, 0, none⟩ = some (.int .i64 (k : Int)) ∧ w'.cell? ⟨w.heap.size + 1, 1, none⟩ = some (.bool false) ∧ w'.cell? ⟨rb1, b, none⟩ = some (.bool false)) v1 from ⟨(HK.out _ hbq).1, (HK.out _ hbq).2.1, (HK.out _ hbq).2.2.1, (HK.out _ hbq).2.2.2, hr1⟩)
      try simp only [Act.put, List.setIfInBounds_toArray, List.set_cons_zero, List.set_cons_succ]
      refine wpAnyH_ready (rs := [4]) (by kernel_rfl) (by simp) ?_
      refine AllReadyH.cons rfl (fun K hK => ?_) AllReadyH.nil
      · rw [if_pos (by rfl)]
        go_simp
        go_at_call 70
        refine (C70 _).mono ?_
        rintro e v2 ⟨rfl, hb5⟩
        replace hbq := hbq.trans (hb5.mono hbq.size)
        replace hr1 := (hb5.cell (p := ⟨rb1, b, none⟩) (World.block_lt_of_cell? _ _ hr1)).trans hr1
        have HS := Lib.hid (show (fun w' => w'.cell? ⟨w.heap.size, 0, none⟩ = some (.slice A p.nodes.length c) ∧ w'.cell? ⟨w.heap.size, 1, none⟩ = some (.slice A2 p.rails.length c2) ∧ w'.cell? ⟨w.heap.size + 1, 0, none⟩ = some (.int .i64 (k : Int)) ∧ w'.cell? ⟨w.heap.size + 1, 1, none⟩ = some (.bool false) ∧ w'.cell? ⟨rb1, b, none⟩ = some (.bool false)) v2 from ⟨(HK.out _ hbq).1, (HK.out _ hbq).2.1, (HK.out _ hbq).2.2.1, (HK.out _ hbq).2.2.2, hr1⟩)
        refine hK.out _ _ HS.out (fun _ => ?_)
        clear hK K hb5
        try simp only [Act.put, List.setIfInBounds_toArray, List.set_cons_zero, List.set_cons_succ]
        refine wpAnyH_ready (rs := [5]) (by kernel_rfl) (by simp) ?_
        refine AllReadyH.cons rfl (fun K hK => ?_) AllReadyH.nil
        · rw [if_pos (by rfl)]
          go_simp
          go_at_call 34
          refine (C34a _).mono ?_
          rintro e v3 ⟨rfl, hb5⟩
          replace hbq := hbq.trans (hb5.mono hbq.size)
          replace hr1 := (hb5.cell (p := ⟨rb1, b, none⟩) (World.block_lt_of_cell? _ _ hr1)).trans hr1
          have HS := Lib.hid (show (fun w' => w'.cell? ⟨w.heap.size, 0, none⟩ = some (.slice A p.nodes.length c) ∧ w'.cell? ⟨w.heap.size, 1, none⟩ = some (.slice A2 p.rails.length c2) ∧ w'.cell? ⟨w.heap.size + 1, 0, none⟩ = some (.int .i64 (k : Int)) ∧ w'.cell? ⟨w.heap.size + 1, 1, none⟩ = some (.bool false) ∧ w'.cell? ⟨rb1, b, none⟩ = some (.bool false)) v3 from ⟨(HK.out _ hbq).1, (HK.out _ hbq).2.1, (HK.out _ hbq).2.2.1, (HK.out _ hbq).2.2.2, hr1⟩)
          refine hK.out _ _ HS.out (fun _ => ?_)
          clear hK K hb5
          try simp only [Act.put, List.setIfInBounds_toArray, List.set_cons_zero, List.set_cons_succ]
          refine hTake (i := 6) (d := 14) (v := .pointer (some ⟨rb1, b, none⟩)) rfl rfl (by kernel_rfl) (by kernel_rfl) (by kernel_rfl) (fun _ _ _ h => h) (Or.inl ⟨rfl, ?gr⟩) HS.out ?_
          case gr =>
            rintro W' ⟨s0, s1, s2, s3, s4⟩
            go_simp
          simp only [Act.put, List.setIfInBounds_toArray, List.set_cons_zero, List.set_cons_succ]
          refine hTake (i := 7) (d := 15) (v := .bool false) rfl rfl (by kernel_rfl) (by kernel_rfl) (by kernel_rfl) (fun _ _ _ h => h) (Or.inl ⟨rfl, ?gr⟩) HS.out ?_
          case gr =>
            rintro W' ⟨s0, s1, s2, s3, s4⟩
            go_simp
          simp only [Act.put, List.setIfInBounds_toArray, List.set_cons_zero, List.set_cons_succ]
          refine hTake (i := 8) (d := 16) (v := .bool false) rfl rfl (by kernel_rfl) (by kernel_rfl) (by kernel_rfl) (fun _ _ _ h => h) (Or.inl ⟨rfl, ?gr⟩) HS.out ?_
          case gr =>
            rintro W' ⟨s0, s1, s2, s3, s4⟩
            go_simp
          simp only [Act.put, List.setIfInBounds_toArray, List.set_cons_zero, List.set_cons_succ]
          refine hTake (i := 9) (d := 17) (v := .agg #[.slice A p.nodes.length c, .slice A2 p.rails.length c2]) rfl rfl (by kernel_rfl) (by kernel_rfl) (by kernel_rfl) (fun _ _ _ h => h) (Or.inl ⟨rfl, ?gr⟩) HS.out ?_
          case gr =>
            rintro W' ⟨s0, s1, s2, s3, s4⟩
            go_simp
          simp only [Act.put, List.setIfInBounds_toArray, List.set_cons_zero, List.set_cons_succ]
          refine hTake (i := 10) (d := 18) (v := .agg #[.int .i64 (k : Int), .bool false]) rfl rfl (by kernel_rfl) (by kernel_rfl) (by kernel_rfl) (fun _ _ _ h => h) (Or.inl ⟨rfl, ?gr⟩) HS.out ?_
          case gr =>
            rintro W' ⟨s0, s1, s2, s3, s4⟩
            go_simp
          simp only [Act.put, List.setIfInBounds_toArray, List.set_cons_zero, List.set_cons_succ]
          refine hTake (i := 13) (d := 21) (v := .agg #[.int .i64 (k : Int), .bool false]) rfl rfl (by kernel_rfl) (by kernel_rfl) (by kernel_rfl) (fun _ _ _ h => h) (Or.inl ⟨rfl, ?gr⟩) HS.out ?_
          case gr =>
            rintro W' ⟨s0, s1, s2, s3, s4⟩
            go_simp
          simp only [Act.put, List.setIfInBounds_toArray, List.set_cons_zero, List.set_cons_succ]
          refine wpAnyH_ready (rs := [11]) (by kernel_rfl) (by simp) ?_
          refine AllReadyH.cons rfl (fun K hK => ?_) AllReadyH.nil
          · rw [if_pos (by rfl)]
            go_simp
            go_at_call 70
            refine (C70 _).mono ?_
            rintro e v4 ⟨rfl, hb5⟩
            replace hbq := hbq.trans (hb5.mono hbq.size)
            replace hr1 := (hb5.cell (p := ⟨rb1, b, none⟩) (World.block_lt_of_cell? _ _ hr1)).trans hr1
            have HS := Lib.hid (show (fun w' => w'.cell? ⟨w.heap.size, 0, none⟩ = some (.slice A p.nodes.length c) ∧ w'.cell? ⟨w.heap.size, 1, none⟩ = some (.slice A2 p.rails.length c2) ∧ w'.cell? ⟨w.heap.size + 1, 0, none⟩ = some (.int .i64 (k : Int)) ∧ w'.cell? ⟨w.heap.size + 1, 1, none⟩ = some (.bool false) ∧ w'.cell? ⟨rb1, b, none⟩ = some (.bool false)) v4 from ⟨(HK.out _ hbq).1, (HK.out _ hbq).2.1, (HK.out _ hbq).2.2.1, (HK.out _ hbq).2.2.2, hr1⟩)
            refine hK.out _ _ HS.out (fun _ => ?_)
            clear hK K hb5
            try simp only [Act.put, List.setIfInBounds_toArray, List.set_cons_zero, List.set_cons_succ]
            refine wpAnyH_ready (rs := [12]) (by kernel_rfl) (by simp) ?_
            refine AllReadyH.cons rfl (fun K hK => ?_) AllReadyH.nil
            · rw [if_pos (by rfl)]
              go_simp
              go_at_call 69
              refine (C69b.out _ hbq).mono ?_
              rintro e v5 ⟨⟨rb2, rfl, hrow, hrs⟩, hb5⟩
              replace hbq := hbq.trans (hb5.mono hbq.size)
              replace hr1 := (hb5.cell (p := ⟨rb1, b, none⟩) (World.block_lt_of_cell? _ _ hr1)).trans hr1
              have HS := Lib.hid (show (fun w' => w'.cell? ⟨w.heap.size, 0, none⟩ = some (.slice A p.nodes.length c) ∧ w'.cell? ⟨w.heap.size, 1, none⟩ = some (.slice A2 p.rails.length c2) ∧ w'.cell? ⟨w.heap.size + 1, 0, none⟩ = some (.int .i64 (k : Int)) ∧ w'.cell? ⟨w.heap.size + 1, 1, none⟩ = some (.bool false) ∧ w'.cell? ⟨rb1, b, none⟩ = some (.bool false)) v5 from ⟨(HK.out _ hbq).1, (HK.out _ hbq).2.1, (HK.out _ hbq).2.2.1, (HK.out _ hbq).2.2.2, hr1⟩)
              refine hK.out _ _ HS.out (fun _ => ?_)
              clear hK K hb5
              have hr2 := HROW2.out _ _ hrow
              clear hrow hrs
              refine wpAnyH_strong (S' := (fun w' => w'.cell? ⟨w.heap.size, 0, none⟩ = some (.slice A p.nodes.length c) ∧ w'.cell? ⟨w.heap.size, 1, none⟩ = some (.slice A2 p.rails.length c2) ∧ w'.cell? ⟨w.heap.size + 1, 0, none⟩ = some (.int .i64 (k : Int)) ∧ w'.cell? ⟨w.heap.size + 1, 1, none⟩ = some (.bool false) ∧ w'.cell? ⟨rb1, b, none⟩ = some (.bool false) ∧ w'.cell? ⟨rb2, a, none⟩ = some (.bool X2))) (fun _ h => ⟨h.1, h.2.1, h.2.2.1, h.2.2.2.1, h.2.2.2.2.1⟩) _ _ _ _ ?_
              have HS := Lib.hid (show (fun w' => w'.cell? ⟨w.heap.size, 0, none⟩ = some (.slice A p.nodes.length c) ∧ w'.cell? ⟨w.heap.size, 1, none⟩ = some (.slice A2 p.rails.length c2) ∧ w'.cell? ⟨w.heap.size + 1, 0, none⟩ = some (.int .i64 (k : Int)) ∧ w'.cell? ⟨w.heap.size + 1, 1, none⟩ = some (.bool false) ∧ w'.cell? ⟨rb1, b, none⟩ = some (.bool false) ∧ w'.cell? ⟨rb2, a, none⟩ = some (.bool X2)) v5 from ⟨(HK.out _ hbq).1, (HK.out _ hbq).2.1, (HK.out _ hbq).2.2.1, (HK.out _ hbq).2.2.2, hr1, hr2⟩)
              try simp only [Act.put, List.setIfInBounds_toArray, List.set_cons_zero, List.set_cons_succ]
              refine wpAnyH_ready (rs := [14]) (by kernel_rfl) (by simp) ?_
              refine AllReadyH.cons rfl (fun K hK => ?_) AllReadyH.nil
              · rw [if_pos (by rfl)]
                go_simp
                go_at_call 34
                refine (C34b _).mono ?_
                rintro e v6 ⟨rfl, hb5⟩
                replace hbq := hbq.trans (hb5.mono hbq.size)
                replace hr1 := (hb5.cell (p := ⟨rb1, b, none⟩) (World.block_lt_of_cell? _ _ hr1)).trans hr1
                replace hr2 := (hb5.cell (p := ⟨rb2, a, none⟩) (World.block_lt_of_cell? _ _ hr2)).trans hr2
                have HS := Lib.hid (show (fun w' => w'.cell? ⟨w.heap.size, 0, none⟩ = some (.slice A p.nodes.length c) ∧ w'.cell? ⟨w.heap.size, 1, none⟩ = some (.slice A2 p.rails.length c2) ∧ w'.cell? ⟨w.heap.size + 1, 0, none⟩ = some (.int .i64 (k : Int)) ∧ w'.cell? ⟨w.heap.size + 1, 1, none⟩ = some (.bool false) ∧ w'.cell? ⟨rb1, b, none⟩ = some (.bool false) ∧ w'.cell? ⟨rb2, a, none⟩ = some (.bool X2)) v6 from ⟨(HK.out _ hbq).1, (HK.out _ hbq).2.1, (HK.out _ hbq).2.2.1, (HK.out _ hbq).2.2.2, hr1, hr2⟩)
                refine hK.out _ _ HS.out (fun _ => ?_)
                clear hK K hb5
                try simp only [Act.put, List.setIfInBounds_toArray, List.set_cons_zero, List.set_cons_succ]
                refine hTake (i := 15) (d := 23) (v := .pointer (some ⟨rb2, a, none⟩)) rfl rfl (by kernel_rfl) (by kernel_rfl) (by kernel_rfl) (fun _ _ _ h => h) (Or.inl ⟨rfl, ?gr⟩) HS.out ?_
                case gr =>
                  rintro W' ⟨s0, s1, s2, s3, s4, s5⟩
                  go_simp
                simp only [Act.put, List.setIfInBounds_toArray, List.set_cons_zero, List.set_cons_succ]
                refine hTake (i := 16) (d := 24) (v := .bool X2) rfl rfl (by kernel_rfl) (by kernel_rfl) (by kernel_rfl) (fun _ _ _ h => h) (Or.inl ⟨rfl, ?gr⟩) HS.out ?_
                case gr =>
                  rintro W' ⟨s0, s1, s2, s3, s4, s5⟩
                  go_simp
                simp only [Act.put, List.setIfInBounds_toArray, List.set_cons_zero, List.set_cons_succ]
                refine hTake (i := 17) (d := 25) (v := .bool X2) rfl rfl (by kernel_rfl) (by kernel_rfl) (by kernel_rfl) (fun _ _ _ h => h) (Or.inl ⟨rfl, ?gr⟩) HS.out ?_
                case gr =>
                  rintro W' ⟨s0, s1, s2, s3, s4, s5⟩
                  go_simp
                simp only [Act.put, List.setIfInBounds_toArray, List.set_cons_zero, List.set_cons_succ]
                refine hTake (i := 18) (d := 4) (v := .bool X2) rfl rfl (by kernel_rfl) (by kernel_rfl) (by kernel_rfl) (fun _ _ _ h => h) (Or.inl ⟨rfl, ?gr⟩) HS.out ?_
                case gr =>
                  rintro W' ⟨s0, s1, s2, s3, s4, s5⟩
                  go_simp
                simp only [Act.put, List.setIfInBounds_toArray, List.set_cons_zero, List.set_cons_succ]
                refine wpAnyH_done (by kernel_rfl) ?_ _
                go_wp2_with fail
                go_ret
                exact ⟨by rw [HT.out]; rfl, HBW.out.trans (hbq.mono (by omega))⟩

/-! partK3 -/
set_option linter.unusedVariables false
set_option linter.unusedSimpArgs false
open Go.RowKit

theorem endless_is {p : Pl} (hv : Vld p) {res : List Bool} (h : Fin2 (2 * p.rails.length) (nextL p) res) : res = (List.range (2 * p.rails.length)).map (oB p) := by
  refine List.ext_getElem (by rw [h.len]; simp) fun i h4 h5 => ?_
  have hi : i < 2 * p.rails.length := by have := h.len; omega
  have h6 : gB res i = res[i] := by unfold gB; rw [List.getD_eq_getElem?_getD, List.getElem?_eq_getElem h4]; rfl
  rw [← h6, Bool.eq_iff_iff, fin2_iff h (next_nat hv) hi]
  simp only [List.getElem_map, List.getElem_range, oB, anyTo, Bool.or_eq_true, rB_iff, List.any_eq_true, Bool.and_eq_true, List.mem_range]
theorem Endless_oB (A0 A20 : Option Addr) (c0 c20 : Nat) (p : Pl) (w : World) (hP : PlAt w w.heap.size A0 c0 A20 c20 p) (hv : Vld p) :
    Calls Tryz.prog 22 #[.agg #[.slice A0 p.nodes.length c0, .slice A20 p.rails.length c20]] w fun e w' => (∃ rb, e = .returned (.tuple #[.slice (some ⟨rb, 0, none⟩) (2 * p.rails.length) (2 * p.rails.length), .int .i64 0]) ∧ BRow w' rb ((List.range (2 * p.rails.length)).map (oB p))) ∧ Below w.heap.size w w' := by
  obtain ⟨n, res, h1, h2⟩ := endless_some hv
  refine (Endless_any A0 A20 c0 c20 n res p w hP (fun _ => h1)).mono fun e w' h => ?_
  obtain ⟨⟨_, rb, h3, h4⟩ | ⟨h3, _⟩, h5⟩ := h
  · exact ⟨⟨rb, h3, by rw [← endless_is hv h2]; exact h4⟩, h5⟩
  · exact absurd hv h3
section
variable (A A2 : Option Addr) (c c2 : Nat) (p : Pl) (w : World) (r : Int)
def EndC : Prop := Calls Tryz.prog 7 #[.agg #[.slice A p.nodes.length c, .slice A2 p.rails.length c2], .int .i64 r] w fun e w' => e = .returned (.bool true) ∧ Below w.heap.size w w'
set_option maxRecDepth 100000 in
set_option maxHeartbeats 4000000 in
theorem End_big (hP : PlAt w w.heap.size A c A2 c2 p) (hs : smallB p = false) : EndC A A2 c c2 p w r := by
  have H1 := Lib.hid (Pst.start hP (show Sl w w.heap.size 2 CE none [] from fun h => absurd rfl h))
  have HS := Lib.hid hs
  clear hP hs
  unfold EndC
  go_enter Tryz.func7, Tryz.ntmps7
  go_wp2_with fail
  refine (small_any A A2 c c2 p _ H1.out.pl).mono ?_
  rintro e w2 ⟨rfl, hb2⟩
  rw [HS.out]
  have H2 := Lib.hid (H1.out.next hb2)
  clear hb2
  go_wp2_with fail
  refine (known_any _).mono ?_
  rintro e w3 ⟨rfl, hb3⟩
  have H3 := Lib.hid (H2.out.next hb3)
  clear hb3
  go_wp2
  go_ret
  exact ⟨rfl, H3.out.be⟩
set_option maxRecDepth 100000 in
set_option maxHeartbeats 4000000 in
theorem End_not (hP : PlAt w w.heap.size A c A2 c2 p) (hs : smallB p = true) (hv : ¬ Vld p) : EndC A A2 c c2 p w r := by
  have H1 := Lib.hid (Pst.start hP (show Sl w w.heap.size 2 CE none [] from fun h => absurd rfl h))
  have HS := Lib.hid hs; have HV := Lib.hid (valB_no hv)
  clear hP hs hv
  unfold EndC
  go_enter Tryz.func7, Tryz.ntmps7
  go_wp2_with fail
  refine (small_any A A2 c c2 p _ H1.out.pl).mono ?_
  rintro e w2 ⟨rfl, hb2⟩
  rw [HS.out]
  have H2 := Lib.hid (H1.out.next hb2)
  clear hb2 H1
  obtain ⟨k0, k1, _, _, _, _⟩ := H2.out
  go_wp2_with fail
  refine (HV.out A A2 c c2 _ H2.out.pl).mono ?_
  rintro e w3 ⟨rfl, hb3⟩
  have H3 := Lib.hid (H2.out.next hb3)
  clear hb3 H2 k0 k1
  go_wp2_with fail
  refine (known_any _).mono ?_
  rintro e w4 ⟨rfl, hb4⟩
  have H4 := Lib.hid (H3.out.next hb4)
  clear hb4 H3
  go_wp2
  go_ret
  exact ⟨rfl, H4.out.be⟩
set_option maxRecDepth 100000 in
set_option maxHeartbeats 4000000 in
theorem End_in (hP : PlAt w w.heap.size A c A2 c2 p) (hs : smallB p = true) (hv : Vld p) : EndC A A2 c c2 p w r := by
  have H1 := Lib.hid (Pst.start hP (show Sl w w.heap.size 2 CE none [] from fun h => absurd rfl h))
  have HS := Lib.hid hs; have HV := Lib.hid (valB_yes hv)
  have hsz := of_decide_eq_true hv.sizes
  obtain ⟨M, hM⟩ : ∃ z, 2 * p.rails.length = z := ⟨_, rfl⟩
  have hM8 : M ≤ 800 := by omega
  obtain ⟨tb, te, hte⟩ : ∃ (tb : Bool) (te : Int), (railIn p r = true ∧ tb = turnB p r.toNat ∧ te = 0) ∨ (railIn p r = false ∧ tb = false ∧ te = 2) := by
    cases h : railIn p r
    · exact ⟨false, 2, .inr ⟨rfl, rfl, rfl⟩⟩
    · exact ⟨_, 0, .inl ⟨rfl, rfl, rfl⟩⟩
  have C21 := Lib.hid (show ∀ w : World, PlAt w w.heap.size A c A2 c2 p → Calls Tryz.prog 21 #[.agg #[.slice A p.nodes.length c, .slice A2 p.rails.length c2], .int .i64 r] w fun e w' => e = .returned (.tuple #[.bool tb, .int .i64 te]) ∧ Below w.heap.size w w' from fun w hP => by
    refine (Turns_any A A2 c c2 p r w hP).mono fun e w' h => ?_
    obtain ⟨⟨_, h1, h2⟩ | ⟨h1, h2⟩, h3⟩ := h
    · rcases hte with ⟨_, e1, e2⟩ | ⟨e0, _, _⟩
      · subst e1; subst e2; exact ⟨h2, h3⟩
      · rw [h1] at e0; cases e0
    · rcases hte with ⟨e0, _, _⟩ | ⟨_, e1, e2⟩
      · rcases h1 with h1 | h1
        · exact absurd hv h1
        · rw [h1] at e0; cases e0
      · subst e1; subst e2; exact ⟨h2, h3⟩)
  have C22 := Lib.hid (fun (w : World) (hP : PlAt w w.heap.size A c A2 c2 p) => Endless_oB A A2 c c2 p w hP hv)
  have C38 := Lib.hid (fun (w : World) (hP : PlAt w w.heap.size A c A2 c2 p) => rEndless_any A A2 c c2 M p w hM hP hv)
  rw [hM] at C22
  have C39 := Lib.hid (fun (w : World) (k : Nat) (hk : k < p.rails.length) (hP : PlAt w w.heap.size A c A2 c2 p) => rTurns_any A A2 c c2 k p w hP hv hk)
  have HTE := Lib.hid hte
  clear hP hs hv hte hM
  unfold EndC
  go_enter Tryz.func7, Tryz.ntmps7
  go_wp2_with fail
  refine (small_any A A2 c c2 p _ H1.out.pl).mono ?_
  rintro e w2 ⟨rfl, hb2⟩
  rw [HS.out]
  have H2 := Lib.hid (H1.out.next hb2)
  clear hb2 H1
  obtain ⟨k0, k1, _, _, _, _⟩ := H2.out
  go_wp2_with fail
  refine (HV.out A A2 c c2 _ H2.out.pl).mono ?_
  rintro e w3 ⟨rfl, hb3⟩
  have H3 := Lib.hid (H2.out.next hb3)
  clear hb3 H2 k0 k1
  obtain ⟨k0, k1, _, _, _, _⟩ := H3.out
  go_wp2_with fail
  refine (C22.out _ H3.out.pl).mono ?_
  rintro e w4 ⟨⟨rb1, rfl, hrow1⟩, hb4⟩
  have H4 := Lib.hid (H3.out.next hb4)
  clear hb4 H3 k0 k1
  obtain ⟨k0, k1, _, _, _, _⟩ := H4.out
  go_wp2_with fail
  refine (C21.out _ H4.out.pl).mono ?_
  rintro e w5 ⟨rfl, hb5⟩
  have H5 := Lib.hid (H4.out.next hb5)
  have hrow1' := hrow1.below hb5 hrow1.lt
  clear hb5 H4 k0 k1 hrow1
  obtain ⟨k0, k1, _, _, _, _⟩ := H5.out
  go_wp2_with fail
  refine (C38.out _ H5.out.pl).mono ?_
  rintro e w6 ⟨⟨rb2, rfl, hrow2⟩, hb6⟩
  have H6 := Lib.hid (H5.out.next hb6)
  have HR1 := Lib.hid (hrow1'.below hb6 hrow1'.lt)
  have HR2 := Lib.hid hrow2
  clear hb6 H5 k0 k1 hrow1' hrow2
  go_wp2
  go_loopw [10] (fun i wr => ∃ k : Nat, k ≤ M ∧ i = .int .i64 (k : Int) ∧ Below w6.heap.size w6 wr) (fun i _ => M - (intOf i).toNat)
  case atStart => exact ⟨0, Nat.zero_le _, rfl, Below.refl _ _⟩
  case round =>
    obtain ⟨k, hk, rfl, hb⟩ := hrel
    have HB := Lib.hid hb
    clear hb
    by_cases hlt : k < M
    · have hk0 : (0 : Int) ≤ (k : Int) := by omega
      have hk1 : (k : Int) < (M : Int) := by omega
      have q1 := (HR1.out.below HB.out HR1.out.lt).cell (i := k) (by simpa using hlt)
      have q2 := (HR2.out.below HB.out HR2.out.lt).cell (i := k) (by simpa using hlt)
      simp only [List.getElem_map, List.getElem_range] at q1 q2
      obtain ⟨X, hX⟩ : ∃ z, oB p k = z := ⟨_, rfl⟩
      rw [hX] at q1 q2
      clear hX
      have l1 := HR1.out.lt
      have l2 := HR2.out.lt
      have hs1 := HB.out.size
      go_upto_region 11 with (fail)
      have hbq : Below wr.heap.size wr wr.drew := (Below.refl _ _).drew
      go_region_held3 (fun w' => w'.cell? ⟨rb1, k, none⟩ = some (.bool X) ∧ w'.cell? ⟨rb2, k, none⟩ = some (.bool X))
        (exact ⟨(hbq.cell (p := ⟨rb1, k, none⟩) (by simp; omega)).trans q1, (hbq.cell (p := ⟨rb2, k, none⟩) (by simp; omega)).trans q2⟩)
        (fail)
      go_wp2
      go_roundw
      case rel => exact ⟨k + 1, by omega, by go_num, by exact HB.out.trans (hbq.mono hs1)⟩
      case measure => simp [intOf]; omega
    · obtain rfl : M = k := by omega
      have H7 := Lib.hid (H6.out.next HB.out)
      have HTE2 := HTE.out
      clear HR1 HR2 HB H6 HTE
      obtain ⟨k0, k1, _, _, _, _⟩ := H7.out
      rcases HTE2 with ⟨e0, rfl, rfl⟩ | ⟨e0, rfl, rfl⟩
      · have e1 := of_decide_eq_true e0
        obtain ⟨j, rfl⟩ := Int.eq_ofNat_of_zero_le e1.1
        have hj : j < p.rails.length := by omega
        have hj2 : ¬ (j : Int) < 0 := by omega
        have hj3 : ¬ (p.rails.length : Int) ≤ (j : Int) := by omega
        have hj4 : p.rails.length ≤ 400 := by omega
        have HT := Lib.hid (show turnB p ((j : Int).toNat) = turnB p j by rw [Int.toNat_natCast])
        rw [HT.out]
        obtain ⟨X, hX⟩ : ∃ z, turnB p j = z := ⟨_, rfl⟩
        have C39' := Lib.hid (fun w hP => C39.out w j hj hP)
        rw [hX] at C39' ⊢
        clear hX e0 e1 hj C39
        go_wp2_with fail
        refine (C39'.out _ H7.out.pl).mono ?_
        rintro e w8 ⟨rfl, hb8⟩
        have H8 := Lib.hid (H7.out.next hb8)
        clear hb8 k0 k1 H7
        go_wp2_with fail
        refine (known_any _).mono ?_
        rintro e w9 ⟨rfl, hb9⟩
        have H9 := Lib.hid (H8.out.next hb9)
        clear hb9 H8
        go_wp2
        go_ret
        exact ⟨rfl, H9.out.be⟩
      · have hr : r < 0 ∨ (0 ≤ r ∧ (p.rails.length : Int) ≤ r) := by
          have := of_decide_eq_false e0
          omega
        have hj4 : p.rails.length ≤ 400 := by omega
        clear e0
        rcases hr with hr | ⟨hr, hr2⟩
        · go_wp2_with fail
          refine (known_any _).mono ?_
          rintro e w9 ⟨rfl, hb9⟩
          have H9 := Lib.hid (H7.out.next hb9)
          clear hb9 k0 k1 H7
          go_wp2
          go_ret
          exact ⟨rfl, H9.out.be⟩
        · have hr3 : ¬ r < 0 := by omega
          go_wp2_with fail
          refine (known_any _).mono ?_
          rintro e w9 ⟨rfl, hb9⟩
          have H9 := Lib.hid (H7.out.next hb9)
          clear hb9 k0 k1 H7
          go_wp2
          go_ret
          exact ⟨rfl, H9.out.be⟩
theorem End_any (hP : PlAt w w.heap.size A c A2 c2 p) : EndC A A2 c c2 p w r := by
  cases hs : smallB p
  · exact End_big A A2 c c2 p w r hP hs
  by_cases hv : Vld p
  · exact End_in A A2 c c2 p w r hP hs hv
  · exact End_not A A2 c c2 p w r hP hs hv
end
section row
open Go.ChangeShapes Go.WideShapes Go.ChangeAt Go.Deep

set_option maxRecDepth 100000 in
set_option maxHeartbeats 1600000 in
theorem trackEndless_lifted (os : Os) (started : os.Started) (H : Type) (enc : TypeId × Value → H) :
    ReturnsInHanded {} Tryz.checked os 7 .any (Rows.trackEndlessSpec.pre6 enc Tryz.prog Tryz.f7 Rows.trackEndlessRow.domain false) (Rows.trackEndlessSpec.post enc Tryz.prog Tryz.f7 false true false false) := by
  refine returnsInHanded_of_change_sized (C := Tryz.checked) (by kernel_rfl : ownKnob Tryz.prog.godebug = none) started (by kernel_rfl) Tryz.func7
    (ChangeSpec.witness6 (enc := enc) (C := Tryz.checked) false ⟨#[], #[.agg #[.slice none 0 0, .slice none 0 0], .int .i64 0], []⟩ 8 (by kernel_rfl) (by kernel_rfl) (by kernel_rfl) (by kernel_rfl)) ?_
  intro W base args ds gs before hval0 hW _ hsz0 _
  have hsz : (DataW.weightsEach Tryz.prog (Tryz.f7.params.toList ++ Rows.trackEndlessSpec.plain.varTypes Tryz.prog) (ds ++ gs)).all (· ≤ reachBytes) = true := hsz0
  clear hsz0
  have hval : ∀ (j : Nat) t v, Tryz.f7.params[j]? = some t → args[j]? = some v → Value.okWide Tryz.prog W .any base t v := hval0
  have hW' := hW
  obtain ⟨p, q, hA0, hV, rfl, hfz, _⟩ := hW
  have hA : DataW.TrodAll enc Tryz.prog W 0 (fun _ => true) true Tryz.f7.params.toList args.toList ds p := hA0
  rw [Tryz.params7] at hA hval hsz
  obtain ⟨v0, v1, d0, d1, p0, p1, rfl, rfl, rfl, h0, h1⟩ := trodAll_two hA
  obtain ⟨rfl, rfl⟩ := trodVars_none hV
  obtain ⟨cs0, rfl, hcs0⟩ := okWide_struct Tryz.underlying25 (hval 0 25 v0 rfl rfl)
  obtain ⟨r1, rfl, rfl, rfl, wr1⟩ := open_int Tryz.underlying3 (hval 1 3 v1 rfl rfl) h1
  have h0k := h0
  obtain ⟨fuel0, hf0⟩ := h0
  clear hA0 hval0 hA
  simp only [List.append_nil] at hW' hsz
  have hlt : ∀ x ∈ p0, x.block < W.heap.size := fun x hx => hW'.lt x (by simpa using hx)
  obtain ⟨pl, A, c, A2, c2, hq0, hP⟩ := read_Pl (enc := enc) (w := W) (x := (d0, p0)) hf0 (fun n hn => by
    have := List.all_eq_true.1 hsz n (DataW.weights_mem_each (j := 0) (t := 25) (d := d0) rfl rfl n hn)
    simpa using this)
  obtain rfl : cs0 = #[.slice A pl.nodes.length c, .slice A2 pl.rails.length c2] := by
    apply Array.toList_inj.1
    simpa [Value.cells] using hq0
  refine (End_any A A2 c c2 pl W r1 hP).mono fun e W' ⟨he, hb⟩ => ?_
  subst he
  have hs : W.Since W.heap.size W' := ⟨hb.os, hb.tape, hb.output, hb.size, hb.block⟩
  have laid : laidOutB Tryz.prog = true := by kernel_rfl
  have ha0 : DataW.Trod enc Tryz.prog W' 0 (fun b => decide (b < W.heap.size)) true 25 (.agg #[.slice A pl.nodes.length c, .slice A2 pl.rails.length c2]) d0 p0 :=
    WideElems.Trod_stays laid (by kernel_rfl) (of_decide_eq_true (by kernel_rfl)) h0k (fun x hx => hs.sameAt (hlt x (by simp [hx]))) (fun x hx => by simpa using hlt x (by simp [hx]))
  exact ⟨_, rfl, _, _, _, [], p0, [], hW', trodAll_mk1 (shut_bool Tryz.underlying4 true), by have := trodAll_mk2 ha0 (shut_int (enc := enc) (P := Tryz.prog) (w := W') (base := 0) (spare := fun b => decide (b < W.heap.size)) (held := true) Tryz.underlying3 wr1); (try simp only [List.append_nil, List.nil_append, ← List.append_assoc] at this); exact this, rfl, hs.frame _, fun h => by cases h⟩

theorem trackEndless_holds : Rows.TrackEndlessSaid :=
  OpenClaim.holds_of_wide 7 Tryz.f7 rfl rfl rfl rfl rfl rfl rfl ⟨rfl, rfl, rfl, rfl, rfl⟩ rfl rfl rfl rfl rfl (by kernel_rfl) Tryz.func7 (by kernel_rfl)
    (of_decide_eq_true (by kernel_rfl)) (by unfold Func.isWrapper; rw [if_neg (of_decide_eq_false (by kernel_rfl))]; exact ⟨rfl, rfl⟩)
    (fun os started H enc _ => trackEndless_lifted os started H enc)
end row
end Go.Proofs.YtcpanfpijljeaaaGreat
