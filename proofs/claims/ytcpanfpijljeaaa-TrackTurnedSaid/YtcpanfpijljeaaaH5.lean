/- TrackTurned returns true for every plan and every two moves; its arguments read afterwards as they read before. No condition. -/
import Derived.Test.YtcpanfpijljeaaaT2
import Derived.Test.YtcpanfpijljeaaaW3
import Derived.Test.YtcpanfpijljeaaaY3
import Derived.Test.YtcpanfpijljeaaaT4
import Derived.Deep.RegionHeld3
import Derived.Deep.RegionLaw
import Derived.BigRegion
import Derived.Test.YtcpanfpijljeaaaZ3
import Derived.WalkKit
import Derived.Test.YtcpanfpijljeaaaRows
import Derived.Test.YtcpanfpijljeaaaX2
import Derived.ProofKit
import Derived.Deep.OwnRows
import Derived.Deep.CondSized
import Derived.WideKeyArgs
import Derived.ReadAgain
/-! part U2: Plain: which moves are endless. Contract: endless. -/
namespace Go.Proofs.Ytcpanfpijljeaaa
set_option linter.unusedVariables false
set_option linter.unusedSimpArgs false

/-- one that comes before: one move less that follows it; at the last one it is put on the stack -/
def decE (s : List Int × List Int) (b : Int) : List Int × List Int := (s.1.set b.toNat (s.1.getD b.toNat 0 - 1), if s.1.getD b.toNat 0 - 1 = 0 then b :: s.2 else s.2)
/-- moves that nothing follows are taken away, as long as there are any -/
def endl (bef : Nat → List Int) : Nat → List Bool → List Int → List Int → Option (List Bool)
  | 0, _, _, _ => none
  | _ + 1, en, _, [] => some en
  | k + 1, en, lf, m :: st =>
    if en.getD m.toNat false = false ∨ 1000000 < st.length ∨ lf.all (fun x => decide (-1000000 ≤ x ∧ x ≤ 1000000)) = false then none
    else endl bef k (en.set m.toNat false) ((bef m.toNat).foldl decE (lf, st)).1 ((bef m.toNat).foldl decE (lf, st)).2

theorem decE_len (s : List Int × List Int) (b : Int) : (decE s b).1.length = s.1.length ∧ (decE s b).2.length ≤ s.2.length + 1 := by
  unfold decE
  refine ⟨by simp, ?_⟩
  simp only
  split
  · simp
  · omega
theorem decEs_len : ∀ (L : List Int) (s : List Int × List Int), (L.foldl decE s).1.length = s.1.length ∧ (L.foldl decE s).2.length ≤ s.2.length + L.length := by
  intro L
  induction L with
  | nil => exact fun s => ⟨rfl, by simp⟩
  | cons b L ih =>
    intro s
    obtain ⟨a1, a2⟩ := ih (decE s b)
    obtain ⟨b1, b2⟩ := decE_len s b
    rw [List.foldl_cons]
    exact ⟨a1.trans b1, by simp only [List.length_cons]; omega⟩
theorem decEs_bd {u : Int} : ∀ (L : List Int) (s : List Int × List Int) (d : Int), 0 ≤ u → d ≤ 0 → (∀ x ∈ s.1, d ≤ x ∧ x ≤ u) → ∀ x ∈ (L.foldl decE s).1, d - L.length - 1 ≤ x ∧ x ≤ u := by
  intro L
  induction L with
  | nil => exact fun s d _ _ h x hx => by have := h x hx; simp at *; omega
  | cons b L ih =>
    intro s d hu hd h x hx
    rw [List.foldl_cons] at hx
    have := ih (decE s b) (d - 1) hu (by omega) (fun y hy => by
      unfold decE at hy
      simp only at hy
      rcases List.mem_or_eq_of_mem_set hy with hy | rfl
      · have := h y hy; omega
      · by_cases hl : b.toNat < s.1.length
        · have := h _ (List.getElem_mem hl)
          rw [List.getD_eq_getElem?_getD, List.getElem?_eq_getElem hl]
          simp only [Option.getD_some]; omega
        · rw [List.getD_eq_getElem?_getD, List.getElem?_eq_none (by omega)]; simp; omega) x hx
    simp only [List.length_cons]
    push_cast
    omega
theorem decEs_ok {M : Nat} : ∀ (L : List Int) (s : List Int × List Int), (∀ x ∈ s.2, ∃ t : Nat, x = t ∧ t < M) → (∀ x ∈ L, ∃ t : Nat, x = t ∧ t < M) → ∀ x ∈ (L.foldl decE s).2, ∃ t : Nat, x = t ∧ t < M := by
  intro L
  induction L with
  | nil => exact fun s h _ => h
  | cons b L ih =>
    intro s h hL
    rw [List.foldl_cons]
    refine ih _ (fun x hx => ?_) (fun x hx => hL x (by simp [hx]))
    unfold decE at hx
    simp only at hx
    split at hx
    · rcases List.mem_cons.1 hx with rfl | hx
      · exact hL _ (by simp)
      · exact h x hx
    · exact h x hx

def gI (l : List Int) (t : Nat) : Int := l.getD t 0
def gB (l : List Bool) (t : Nat) : Bool := l.getD t false
theorem gI_set {l : List Int} {k t : Nat} {x : Int} (hk : k < l.length) : gI (l.set k x) t = if t = k then x else gI l t := by
  unfold gI
  simp only [List.getD_eq_getElem?_getD]
  by_cases h : t = k
  · subst h; simp [hk]
  · rw [if_neg h, List.getElem?_set_ne (Ne.symm h)]
theorem gB_set {l : List Bool} {k t : Nat} {x : Bool} (hk : k < l.length) : gB (l.set k x) t = if t = k then x else gB l t := by
  unfold gB
  simp only [List.getD_eq_getElem?_getD]
  by_cases h : t = k
  · subst h; simp [hk]
  · rw [if_neg h, List.getElem?_set_ne (Ne.symm h)]

/-- the fold over those that come before -/
theorem decEs_is {M : Nat} (lf0 : List Int) (st0 : List Int) (hl : lf0.length = M) (hn : st0.Nodup) (hs0 : ∀ t : Nat, (t : Int) ∈ st0 → gI lf0 t = 0) :
    ∀ (L : List Int), (∀ x ∈ L, ∃ t : Nat, x = t ∧ t < M) → (∀ t : Nat, t < M → (L.count (t : Int) : Int) ≤ gI lf0 t) →
    (∀ t : Nat, t < M → gI (L.foldl decE (lf0, st0)).1 t = gI lf0 t - (L.count (t : Int) : Int)) ∧ (L.foldl decE (lf0, st0)).2.Nodup ∧
    (∀ t : Nat, t < M → ((t : Int) ∈ (L.foldl decE (lf0, st0)).2 ↔ (t : Int) ∈ st0 ∨ (0 < gI lf0 t ∧ gI lf0 t = (L.count (t : Int) : Int)))) := by
  intro L
  rcases List.eq_nil_or_concat L with rfl | ⟨r, b, rfl⟩
  · intro _ _
    exact ⟨fun t _ => by simp, hn, fun t _ => by simp; intro h1 h2; omega⟩
  · rw [List.concat_eq_append]
    intro hL hc
    have hc' : ∀ t : Nat, t < M → (r.count (t : Int) : Int) ≤ gI lf0 t := fun t ht => by
      have := hc t ht
      rw [List.count_append] at this
      omega
    obtain ⟨a1, a2, a3⟩ := decEs_is lf0 st0 hl hn hs0 r (fun x hx => hL x (by simp [hx])) hc'
    obtain ⟨k, rfl, hk⟩ := hL b (by simp)
    have hlr : (r.foldl decE (lf0, st0)).1.length = M := (decEs_len r _).1.trans hl
    have hck := hc k hk
    rw [List.count_append] at hck
    have hone : List.count (k : Int) [(k : Int)] = 1 := by simp
    rw [hone] at hck
    have hg : (r.foldl decE (lf0, st0)).1.getD k 0 = gI lf0 k - (r.count (k : Int) : Int) := a1 k hk
    rw [List.foldl_append, List.foldl_cons, List.foldl_nil]
    have hd : decE (r.foldl decE (lf0, st0)) (k : Int) = ((r.foldl decE (lf0, st0)).1.set k (gI lf0 k - (r.count (k : Int) : Int) - 1), if gI lf0 k - (r.count (k : Int) : Int) - 1 = 0 then (k : Int) :: (r.foldl decE (lf0, st0)).2 else (r.foldl decE (lf0, st0)).2) := by
      generalize r.foldl decE (lf0, st0) = s at hg
      unfold decE
      rw [Int.toNat_natCast, hg]
    rw [hd]
    simp only
    have hkn : (k : Int) ∉ (r.foldl decE (lf0, st0)).2 := fun hm => by
      rcases (a3 k hk).1 hm with h | h
      · have := hs0 k h; omega
      · omega
    refine ⟨fun t ht => ?_, ?_, fun t ht => ?_⟩
    · rw [gI_set (by omega), List.count_append]
      by_cases e : t = k
      · subst e; rw [if_pos rfl, hone]; push_cast; omega
      · rw [if_neg e, a1 t ht]
        have : List.count (t : Int) [(k : Int)] = 0 := by
          rw [List.count_eq_zero]; simp; omega
        rw [this]; simp
    · split
      · exact List.nodup_cons.2 ⟨hkn, a2⟩
      · exact a2
    · rw [List.count_append]
      by_cases e : t = k
      · subst e
        rw [hone]
        split
        · rename_i hz
          constructor
          · intro _; right; push_cast; omega
          · intro _; simp
        · rename_i hz
          rw [a3 t ht]
          constructor
          · rintro (h | h)
            · exact .inl h
            · omega
          · rintro (h | h)
            · exact .inl h
            · push_cast at h; omega
      · have h0 : List.count (t : Int) [(k : Int)] = 0 := by
          rw [List.count_eq_zero]; simp; omega
        rw [h0, Nat.add_zero, ← a3 t ht]
        split
        · rw [List.mem_cons]
          constructor
          · rintro (h | h)
            · omega
            · exact h
          · exact .inr
        · rfl
  termination_by L => L.length

/-- taken away one after the other, each when all that follow it are gone -/
def Ord (nx : Nat → List Int) : List Nat → Prop
  | [] => True
  | m :: D => (∀ z ∈ nx m, ∃ t : Nat, z = t ∧ t ∈ D) ∧ Ord nx D
theorem Ord.next {nx : Nat → List Int} : ∀ {D : List Nat}, Ord nx D → ∀ m ∈ D, ∀ z ∈ nx m, ∃ t : Nat, z = t ∧ t ∈ D := by
  intro D
  induction D with
  | nil => exact fun _ m hm => by cases hm
  | cons d D ih =>
    intro h m hm z hz
    rcases List.mem_cons.1 hm with rfl | hm
    · obtain ⟨t, e, ht⟩ := h.1 z hz
      exact ⟨t, e, by simp [ht]⟩
    · obtain ⟨t, e, ht⟩ := ih h.2 m hm z hz
      exact ⟨t, e, by simp [ht]⟩
/-- a way that begins with one of them is not longer than they are many -/
theorem Ord.way {nx : Nat → List Int} : ∀ {D : List Nat}, Ord nx D → ∀ (l : List Nat) (m : Nat), m ∈ D → (∀ i (hi : i < l.length), ((l[i] : Nat) : Int) ∈ nx ((m :: l)[i]'(by simp; omega))) → l.length + 1 ≤ D.length := by
  intro D
  induction D with
  | nil => exact fun _ l m hm => by cases hm
  | cons d D ih =>
    intro h l m hm hl
    rcases List.mem_cons.1 hm with rfl | hm
    · cases l with
      | nil => simp
      | cons n l =>
        obtain ⟨t, e, ht⟩ := h.1 n (hl 0 (by simp))
        obtain rfl : n = t := by omega
        have := ih h.2 l n ht (fun i hi => by
          have := hl (i + 1) (by simp; omega)
          simpa using this)
        simp only [List.length_cons]; omega
    · have := ih h.2 l m hm hl
      simp only [List.length_cons]; omega

structure EI (M : Nat) (nx : Nat → List Int) (en : List Bool) (lf st : List Int) (D : List Nat) : Prop where
  le : en.length = M
  ll : lf.length = M
  sn : st.Nodup
  so : ∀ x ∈ st, ∃ t : Nat, x = t ∧ t < M ∧ gB en t = true ∧ gI lf t = 0
  dn : D.Nodup
  dd : ∀ t, t < M → (gB en t = false ↔ t ∈ D)
  dm : ∀ t ∈ D, t < M
  od : Ord nx D
  cn : ∀ t, t < M → gI lf t = (((nx t).filter fun z => gB en z.toNat).length : Int)
  ze : ∀ t, t < M → gB en t = true → gI lf t = 0 → (t : Int) ∈ st
theorem filter_less {en : List Bool} {m : Nat} (hm : m < en.length) (ht : gB en m = true) (l : List Int) (hl : ∀ z ∈ l, ∃ t : Nat, z = t) :
    (l.filter fun z => gB (en.set m false) z.toNat).length + l.count (m : Int) = (l.filter fun z => gB en z.toNat).length := by
  induction l with
  | nil => simp
  | cons z l ih =>
    have ih := ih fun y hy => hl y (by simp [hy])
    obtain ⟨t, rfl⟩ := hl z (by simp)
    obtain ⟨P', hP'⟩ : ∃ P' : Int → Bool, (fun z : Int => gB (en.set m false) z.toNat) = P' := ⟨_, rfl⟩
    obtain ⟨P, hP⟩ : ∃ P : Int → Bool, (fun z : Int => gB en z.toNat) = P := ⟨_, rfl⟩
    have h1 : P' (t : Int) = if t = m then false else gB en t := by rw [← hP', ← gB_set hm]; simp
    have h2 : P (t : Int) = gB en t := by rw [← hP]; simp
    rw [hP', hP] at ih
    rw [hP', hP, List.filter_cons, List.filter_cons, h1, h2, List.count_cons]
    by_cases e : t = m
    · subst e
      rw [if_pos rfl, if_neg (by simp), if_pos ht, if_pos (by simp)]
      simp only [List.length_cons]; omega
    · have h3 : ((t : Int) == (m : Int)) = false := by simp; omega
      rw [if_neg e, h3]
      simp only [Bool.false_eq_true, if_false, Nat.add_zero]
      split
      · simp only [List.length_cons]; omega
      · exact ih
theorem EI.step {M m : Nat} {nx bf : Nat → List Int} {en : List Bool} {lf st : List Int} {D : List Nat} (hnx : ∀ t, t < M → ∀ z ∈ nx t, ∃ u : Nat, z = u ∧ u < M) (hbf : ∀ t, t < M → ∀ z ∈ bf t, ∃ u : Nat, z = u ∧ u < M)
    (hct : ∀ b t, b < M → t < M → (bf t).count (b : Int) = (nx b).count (t : Int)) (h : EI M nx en lf ((m : Int) :: st) D) :
    EI M nx (en.set m false) ((bf m).foldl decE (lf, st)).1 ((bf m).foldl decE (lf, st)).2 (m :: D) ∧ gB en m = true ∧ m < M ∧ m ∉ D := by
  obtain ⟨u, e, hm, hen, hlm⟩ := h.so m (by simp)
  obtain rfl : m = u := by omega
  have hml : m < en.length := by rw [h.le]; exact hm
  have hnd := List.nodup_cons.1 h.sn
  have hmD : m ∉ D := fun hd => by rw [(h.dd m hm).2 hd] at hen; cases hen
  have hle : ∀ t, t < M → ((bf m).count (t : Int) : Int) ≤ gI lf t := fun t ht => by
    have := filter_less hml hen (nx t) fun z hz => by obtain ⟨u, e, _⟩ := hnx t ht z hz; exact ⟨u, e⟩
    rw [h.cn t ht, hct t m ht hm]
    omega
  obtain ⟨a1, a2, a3⟩ := decEs_is lf st h.ll hnd.2 (fun t ht => by
    obtain ⟨u, e, _, _, h0⟩ := h.so t (by simp [ht])
    obtain rfl : t = u := by omega
    exact h0) (bf m) (hbf m hm) hle
  have hcn : ∀ t, t < M → gI ((bf m).foldl decE (lf, st)).1 t = (((nx t).filter fun z => gB (en.set m false) z.toNat).length : Int) := fun t ht => by
    have := filter_less hml hen (nx t) fun z hz => by obtain ⟨u, e, _⟩ := hnx t ht z hz; exact ⟨u, e⟩
    rw [a1 t ht, h.cn t ht, hct t m ht hm]
    omega
  have hm0 : (nx m).filter (fun z => gB en z.toNat) = [] := by
    have := h.cn m hm
    rw [hlm] at this
    exact List.eq_nil_of_length_eq_zero (by omega)
  have hz : ∀ z ∈ nx m, ∃ t : Nat, z = t ∧ t ∈ D := fun z hz => by
    obtain ⟨u, rfl, hu⟩ := hnx m hm z hz
    refine ⟨u, rfl, (h.dd u hu).1 ?_⟩
    have := List.filter_eq_nil_iff.1 hm0 _ hz
    simpa using this
  have hst : ∀ x ∈ ((bf m).foldl decE (lf, st)).2, ∃ t : Nat, x = t ∧ t < M := decEs_ok (M := M) (bf m) (lf, st) (fun x hx => by
    obtain ⟨u, e, hu, _⟩ := h.so x (by simp [hx])
    exact ⟨u, e, hu⟩) (hbf m hm)
  refine ⟨⟨by simp [h.le], (decEs_len (bf m) _).1.trans h.ll, a2, fun x hx => ?_, List.nodup_cons.2 ⟨hmD, h.dn⟩, fun t ht => ?_, fun t ht => ?_, ⟨hz, h.od⟩, hcn, fun t ht he h0 => ?_⟩, hen, hm, hmD⟩
  · obtain ⟨t, rfl, ht⟩ := hst x hx
    refine ⟨t, rfl, ht, ?_, ?_⟩
    · rw [gB_set hml]
      rcases (a3 t ht).1 hx with h1 | h1
      · have htm : t ≠ m := fun e => hnd.1 (e ▸ h1)
        rw [if_neg htm]
        obtain ⟨u, e, _, h2, _⟩ := h.so t (by simp [h1])
        obtain rfl : t = u := by omega
        exact h2
      · have htm : t ≠ m := fun e => by rw [e, hlm] at h1; omega
        rw [if_neg htm]
        cases hb : gB en t
        · have hd := (h.dd t ht).1 hb
          exfalso
          have hf : (nx t).filter (fun z => gB en z.toNat) = [] := by
            rw [List.filter_eq_nil_iff]
            intro z hz
            obtain ⟨u, rfl, hu⟩ := h.od.next t hd z hz
            rw [Int.toNat_natCast, (h.dd u (h.dm u hu)).2 hu]
            simp
          have := h.cn t ht
          rw [hf] at this
          simp at this
          omega
        · rfl
    · rcases (a3 t ht).1 hx with h1 | h1
      · obtain ⟨u, e, _, _, h2⟩ := h.so t (by simp [h1])
        obtain rfl : t = u := by omega
        have := hle t ht
        rw [a1 t ht]; omega
      · rw [a1 t ht]; omega
  · rw [gB_set hml, List.mem_cons]
    by_cases e : t = m
    · subst e; simp
    · rw [if_neg e, h.dd t ht]; simp [e]
  · rcases List.mem_cons.1 ht with rfl | ht
    · exact hm
    · exact h.dm t ht
  · rw [gB_set hml] at he
    by_cases e : t = m
    · subst e; simp at he
    · rw [if_neg e] at he
      rw [a3 t ht]
      rw [a1 t ht] at h0
      by_cases h1 : gI lf t = 0
      · have := h.ze t ht he h1
        rcases List.mem_cons.1 this with h2 | h2
        · omega
        · exact .inl h2
      · have := hle t ht
        exact .inr ⟨by omega, by omega⟩
/-- what is left -/
structure Fin2 (M : Nat) (nx : Nat → List Int) (res : List Bool) : Prop where
  len : res.length = M
  yes : ∀ t, t < M → gB res t = true → ∃ u : Nat, (u : Int) ∈ nx t ∧ gB res u = true
  no : ∀ t, t < M → gB res t = false → ∀ z ∈ nx t, gB res z.toNat = false
  way : ∀ (l : List Nat) (m : Nat), m < M → gB res m = false → (∀ i (hi : i < l.length), ((l[i] : Nat) : Int) ∈ nx ((m :: l)[i]'(by simp; omega))) → l.length + 1 ≤ M
theorem nodup_le' {M : Nat} : ∀ {Q : List Nat}, Q.Nodup → (∀ u ∈ Q, u < M) → Q.length ≤ M := by
  intro Q h1 h2
  have := h1.length_le_of_subset (l₂ := List.range M) fun u hu => List.mem_range.2 (h2 u hu)
  simpa using this
theorem endl_ends {M : Nat} {nx bf : Nat → List Int} (hnx : ∀ t, t < M → (nx t).length ≤ 1000000 ∧ ∀ z ∈ nx t, ∃ u : Nat, z = u ∧ u < M) (hbf : ∀ t, t < M → ∀ z ∈ bf t, ∃ u : Nat, z = u ∧ u < M)
    (hct : ∀ b t, b < M → t < M → (bf t).count (b : Int) = (nx b).count (t : Int)) (hM : M ≤ 1000000) :
    ∀ (n : Nat) (en : List Bool) (lf st : List Int) (D : List Nat), M - D.length ≤ n → EI M nx en lf st D → ∃ res, endl bf (n + 1) en lf st = some res ∧ Fin2 M nx res := by
  intro n
  have fin : ∀ (en : List Bool) (lf : List Int) (D : List Nat), EI M nx en lf [] D → Fin2 M nx en := fun en lf D h => by
    refine ⟨h.le, fun t ht he => ?_, fun t ht he z hz => ?_, fun l m hm he hl => ?_⟩
    · have h1 : gI lf t ≠ 0 := fun h0 => by have := h.ze t ht he h0; cases this
      rw [h.cn t ht] at h1
      cases hf : (nx t).filter (fun z => gB en z.toNat) with
      | nil => rw [hf] at h1; simp at h1
      | cons z r =>
        have hz : z ∈ (nx t).filter (fun z => gB en z.toNat) := by rw [hf]; simp
        obtain ⟨h2, h3⟩ := List.mem_filter.1 hz
        obtain ⟨u, rfl, _⟩ := (hnx t ht).2 z h2
        exact ⟨u, h2, by simpa using h3⟩
    · obtain ⟨u, rfl, hu⟩ := h.od.next t ((h.dd t ht).1 he) z hz
      rw [Int.toNat_natCast]
      exact (h.dd u (h.dm u hu)).2 hu
    · exact Nat.le_trans (h.od.way l m ((h.dd m hm).1 he) hl) (nodup_le' h.dn h.dm)
  induction n with
  | zero =>
    intro en lf st D hD h
    cases st with
    | nil => exact ⟨en, by simp [endl], fin en lf D h⟩
    | cons x st =>
      obtain ⟨m, rfl, _⟩ := h.so x (by simp)
      obtain ⟨h1, _, hm, hmD⟩ := h.step (fun t ht => (hnx t ht).2) hbf hct
      have := nodup_le' h1.dn h1.dm
      simp only [List.length_cons] at this
      omega
  | succ n ih =>
    intro en lf st D hD h
    cases st with
    | nil => exact ⟨en, by simp [endl], fin en lf D h⟩
    | cons x st =>
      obtain ⟨m, rfl, _⟩ := h.so x (by simp)
      obtain ⟨h1, hen, hm, hmD⟩ := h.step (fun t ht => (hnx t ht).2) hbf hct
      have hdl := nodup_le' h1.dn h1.dm
      simp only [List.length_cons] at hdl
      have hsl : st.length ≤ 1000000 := by
        have h2 := (List.nodup_cons.1 h.sn).2
        have h3 : (st.map Int.toNat).Nodup := by
          unfold List.Nodup at h2 ⊢
          rw [List.pairwise_map]
          refine h2.imp_of_mem fun {a b} ha hb hab e => hab ?_
          obtain ⟨t, rfl, _⟩ := h.so a (by simp [ha])
          obtain ⟨u, rfl, _⟩ := h.so b (by simp [hb])
          have e' : t = u := by simpa using e
          rw [e']
        have h4 := nodup_le' (M := M) h3 fun u hu => by
          obtain ⟨y, hy, rfl⟩ := List.mem_map.1 hu
          obtain ⟨t, rfl, ht, _⟩ := h.so y (by simp [hy])
          simpa using ht
        simp at h4
        omega
      have hlf : lf.all (fun x => decide (-1000000 ≤ x ∧ x ≤ 1000000)) = true := by
        rw [List.all_eq_true]
        intro y hy
        obtain ⟨t, ht, rfl⟩ := List.getElem_of_mem hy
        have h5 := h.cn t (by rw [← h.ll]; exact ht)
        unfold gI at h5
        rw [List.getD_eq_getElem?_getD, List.getElem?_eq_getElem ht, Option.getD_some] at h5
        have h6 := List.length_filter_le (fun z => gB en z.toNat) (nx t)
        have h7 := (hnx t (by rw [← h.ll]; exact ht)).1
        rw [decide_eq_true_iff]; omega
      rw [endl, if_neg]
      · simp only [Int.toNat_natCast]
        exact ih _ _ _ (m :: D) (by simp only [List.length_cons]; omega) h1
      · rintro (h8 | h8 | h8)
        · rw [Int.toNat_natCast] at h8
          have : gB en m = false := h8
          rw [hen] at this; cases this
        · omega
        · rw [hlf] at h8; cases h8
end Go.Proofs.Ytcpanfpijljeaaa
namespace Go.Proofs.Ytcpanfpijljeaaa
set_option linter.unusedVariables false
set_option linter.unusedSimpArgs false
open Go.RowKit

section
variable {w w' wr : World} {b B S g c : Nat} {v : Value} {en : List Bool} {lf q : List Int}
theorem BRow.setB (h : BRow w b en) (i : Nat) (x : Bool) : BRow (w.setCell ⟨b, i, none⟩ (.bool x)) b (en.set i x) := by
  unfold BRow
  rw [heap_set_same _ h]
  simp [List.map_set]
theorem BRow.of (h : BRow w b en) (e : w'.heap[b]? = w.heap[b]?) : BRow w' b en := e.trans h
theorem BRow.fro (h : BRow w b en) (j : Nat) : w.frozen? ⟨b, j, none⟩ = false := by
  unfold BRow at h
  simp [World.frozen?, h]
/-- the two rows of 'endless', and the slice of ends -/
structure ER (w wr : World) (S : Nat) (v : Value) (en : List Bool) (lf q : List Int) : Prop where
  b : BRow wr S en
  i : IRow wr (S + 1) lf
  o : Own wr (S + 2) 3 1 fI v q
  be : Below S w wr
theorem ER.sz (h : ER w wr S v en lf q) : S + 2 ≤ wr.heap.size := h.i.lt
theorem ER.setB (h : ER w wr S v en lf q) (k : Nat) (x : Bool) : ER w (wr.setCell ⟨S, k, none⟩ (.bool x)) S v (en.set k x) lf q :=
  ⟨h.b.setB k x, h.i.other _ (by simp), h.o.of_blocks fun m hm => Below.heap_setCell _ _ _ _ (by have := (h.o.lt m hm).1; simp; omega), h.be.setCell (p := ⟨S, k, none⟩) (Nat.le_refl _) _⟩
theorem ER.setI (h : ER w wr S v en lf q) (k : Nat) (x : Int) : ER w (wr.setCell ⟨S + 1, k, none⟩ (.int .i64 x)) S v en (lf.set k x) q :=
  ⟨h.b.of (Below.heap_setCell _ _ _ _ (by simp)), h.i.set k x, h.o.of_blocks fun m hm => Below.heap_setCell _ _ _ _ (by have := (h.o.lt m hm).1; simp; omega), h.be.setCell (p := ⟨S + 1, k, none⟩) (by simp) _⟩
theorem ER.alloc (h : ER w wr S v en lf q) (o : Obj) : ER w (wr.alloc o) S v en lf q :=
  ⟨h.b.of (Below.heap_alloc wr o S h.b.lt), h.i.alloc o, h.o.alloc o, h.be.alloc (by have := h.sz; omega) o⟩
theorem ER.app {v2 : Value} {w2 : World} {q2 : List Int} (h : ER w wr S v en lf q) (ho : Own w2 (S + 2) 3 1 fI v2 q2) (hg : wr.grownBy w2 v.ownBlock) : ER w w2 S v2 en lf q2 := by
  have hb : Below (S + 2) wr w2 := (Below.refl _ _).grown hg h.sz fun k hk => (h.o.lt k hk).1
  exact ⟨h.b.below hb (by omega), h.i.below hb (by omega), ho, h.be.trans (hb.mono (by omega))⟩
theorem Own.last {base : Nat} {r : List Int} {x : Int} (h : Own w base 3 1 fI v (r ++ [x])) :
    ∃ g c, v = .slice (some ⟨g, 0, none⟩) (r.length + 1) c ∧ base ≤ g ∧ w.cell? ⟨g, r.length, none⟩ = some (.int .i64 x) ∧ Own w base 3 1 fI (.slice (some ⟨g, 0, none⟩) r.length c) r ∧ r.length + 1 ≤ c ∧ c ≤ maxLen ∧ g < w.heap.size := by
  have hl : (r ++ [x]).length = r.length + 1 := by simp
  rcases h.2 with ⟨_, h0⟩ | ⟨g, cap, cur, rfl, hb, hg, hn, hm, hs, ht⟩
  · omega
  · refine ⟨g, cap, by rw [hl], hb, ?_, ⟨flat_len fI_len r, .inr ⟨g, cap, cur, rfl, hb, hg, by omega, hm, hs, ?_⟩⟩, by omega, hm, (Array.getElem?_eq_some_iff.1 hg).1⟩
    · have hsl := (fI_CI (h.sl fI_len rfl))
      obtain ⟨b2, o2, e2, _, hc⟩ := int_at hsl (i := r.length) (by simp)
      obtain ⟨rfl, rfl⟩ : g = b2 ∧ 0 = o2 := by simpa using e2
      simpa using hc
    · rw [List.flatMap_append] at ht
      have h2 : (r.flatMap fI).length = r.length * 1 := flat_len fI_len r
      have h3 := congrArg (List.take (r.length * 1)) ht
      rw [List.take_take, Nat.min_eq_left (by omega), List.take_left' h2] at h3
      exact h3
end
/-- how many bools in a block are true -/
def tru (w : World) (S : Nat) : Nat := match w.heap[S]? with
  | some (.cells cs _ _) => (cs.toList.filter fun v => match v with | .bool true => true | _ => false).length
  | _ => 0
theorem tru_is {w : World} {S : Nat} {en : List Bool} (h : BRow w S en) : tru w S = (en.filter id).length := by
  unfold tru
  unfold BRow at h
  rw [h]
  simp only
  clear h
  induction en with
  | nil => rfl
  | cons b l ih =>
    simp only [List.map_cons, List.filter_cons] at ih ⊢
    cases b
    · simpa using ih
    · simpa using ih
theorem tru_less {en : List Bool} {m : Nat} (hm : en.getD m false = true) : ((en.set m false).filter id).length < (en.filter id).length := by
  induction en generalizing m with
  | nil => simp at hm
  | cons b l ih =>
    cases m with
    | zero =>
      obtain rfl : b = true := by simpa using hm
      simp
    | succ m =>
      have := ih (m := m) (by simpa using hm)
      simp only [List.set_cons_succ, List.filter_cons]
      split
      · simp only [List.length_cons]; omega
      · exact this

def trL (M k : Nat) : List Bool := List.replicate k true ++ List.replicate (M - k) false
def lfL (p : Pl) (M k : Nat) : List Int := ((List.range k).map fun t => ((nextL p t).length : Int)) ++ List.replicate (M - k) 0
def endsL (p : Pl) (k : Nat) : List Int := ((List.range k).filter fun t => decide ((nextL p t).length = 0)).map fun t : Nat => (t : Int)
theorem trL_len {M k : Nat} (h : k ≤ M) : (trL M k).length = M := by simp [trL]; omega
theorem lfL_len {p : Pl} {M k : Nat} (h : k ≤ M) : (lfL p M k).length = M := by simp [lfL]; omega
theorem trL_set {M k : Nat} (h : k < M) : (trL M k).set k true = trL M (k + 1) := by
  unfold trL
  rw [List.set_append_right _ _ (by simp), List.length_replicate, Nat.sub_self, show M - k = (M - (k + 1)) + 1 by omega, List.replicate_succ, List.set_cons_zero, List.replicate_succ', List.append_assoc]
  rfl
theorem lfL_set {p : Pl} {M k : Nat} (h : k < M) : (lfL p M k).set k ((nextL p k).length : Int) = lfL p M (k + 1) := by
  unfold lfL
  rw [List.set_append_right _ _ (by simp)]
  simp only [List.length_map, List.length_range, Nat.sub_self]
  rw [show M - k = (M - (k + 1)) + 1 by omega, List.replicate_succ, List.set_cons_zero, List.range_succ, List.map_append, List.append_assoc]
  rfl
theorem endsL_len (p : Pl) (k : Nat) : (endsL p k).length ≤ k := by
  unfold endsL
  rw [List.length_map]
  have := List.length_filter_le (fun t => decide ((nextL p t).length = 0)) (List.range k)
  simpa using this
theorem endsL_yes {p : Pl} {k : Nat} (h : (nextL p k).length = 0) : endsL p (k + 1) = endsL p k ++ [(k : Int)] := by
  unfold endsL
  rw [List.range_succ, List.filter_append, List.map_append, List.filter_cons, if_pos (by rw [h]; rfl)]
  rfl
theorem endsL_no {p : Pl} {k : Nat} (h : ¬ (nextL p k).length = 0) : endsL p (k + 1) = endsL p k := by
  unfold endsL
  rw [List.range_succ, List.filter_append, List.map_append, List.filter_cons, if_neg (by simpa using h)]
  simp
def EndPost (M : Nat) (res : List Bool) (w : World) (e : Ending) (w' : World) : Prop :=
  (∃ rb, e = .returned (.slice (some ⟨rb, 0, none⟩) M M) ∧ BRow w' rb res ∧ w.heap.size ≤ rb) ∧ Below w.heap.size w w'

set_option maxRecDepth 100000 in
set_option maxHeartbeats 4000000 in
theorem endless_any (B g n M : Nat) (res : List Bool) (p : Pl) (w : World) (hM : 2 * p.rails.length = M) (h : Nw w B g p) (hB : B ≤ w.heap.size)
    (hs : endl (befL p M) n (List.replicate M true) (lfL p M M) (endsL p M).reverse = some res) :
    Calls Try.prog 59 #[.pointer (some ⟨g, 0, none⟩)] w (EndPost M res w) := by
  have hsz := h.sizes
  have hgB := h.gB
  obtain ⟨A1, c1, A2, c2, lb, sb, nb, bb, hN, x1, x2, x3, x4, x5, x6⟩ := h.net
  obtain ⟨_, _, k2, _, k4, k5⟩ := hN.cell
  rw [hM] at k4 k5 x5 x6
  have hM8 : M ≤ 800 := by omega
  have hM8' : (M : Int) ≤ 800 := by omega
  obtain ⟨i0, hi, hz0, hz1, hz2⟩ := info_parts inf3
  have hmk : ∀ W : World, (Instr.makeSlice 65 (.int .i64 (M : Int)) (.int .i64 (M : Int))).run Try.prog W = .ok (.slice (some ⟨W.heap.size, 0, none⟩) M M) (W.alloc (.cells (madeCells #[.int .i64 0] M) 3)) := fun W => by
    have := run_mk (P := Try.prog) 65 3 i0 _ 1 Try.underlying65 hi hz0 hz1 (M : Int) (M : Int) M M rfl rfl (by omega) (by rw [hz2]; omega) (by omega) W
    rw [this, Nat.mul_one]; rfl
  obtain ⟨i1, hi1, hy0, hy1, hy2⟩ := info_parts inf4
  have hmb : ∀ W : World, (Instr.makeSlice 70 (.int .i64 (M : Int)) (.int .i64 (M : Int))).run Try.prog W = .ok (.slice (some ⟨W.heap.size, 0, none⟩) M M) (W.alloc (.cells (madeCells #[.bool false] M) 4)) := fun W => by
    have := run_mk (P := Try.prog) 70 4 i1 _ 1 Try.underlying70 hi1 hy0 hy1 (M : Int) (M : Int) M M rfl rfl (by omega) (by rw [hy2]; omega) (by omega) W
    rw [this, Nat.mul_one]; rfl
  have HN5 := Lib.hid x5; have HN6 := Lib.hid x6
  have HS := Lib.hid hs
  have hgl : g < w.heap.size := by omega
  have c0 := fun i => cell_keep1 (w := w) (b := g) (i := i) (o := .cells (madeCells #[.bool false] M) 4) rfl hgl
  have HE0 := Lib.hid (show ER w ((w.alloc (.cells (madeCells #[.bool false] M) 4)).alloc (.cells (madeCells #[.int .i64 0] M) 3)) w.heap.size (.slice none 0 0) (trL M 0) (lfL p M 0) (endsL p 0) from by
    have hb1 := BRow.made w M
    have hi1 := IRow.made (w.alloc (.cells (madeCells #[.bool false] M) 4)) M
    rw [show (w.alloc (.cells (madeCells #[.bool false] M) 4)).heap.size = w.heap.size + 1 by simp] at hi1
    refine ⟨?_, ?_, Own.nil _ _ _ _ _, ((Below.refl _ w).alloc (Nat.le_refl _) _).alloc (by simp) _⟩
    · have := hb1.of (Below.heap_alloc _ (.cells (madeCells #[.int .i64 0] M) 3) _ hb1.lt)
      simpa [trL] using this
    · simpa [lfL] using hi1)
  have HK4 := Lib.hid k4; have HK5 := Lib.hid k5
  clear h hN x3 x4 x5 x6 hs
  go_enter Try.func59, Try.ntmps59
  go_wp2
  clear hmk hmb
  generalize ((w.alloc (.cells (madeCells #[.bool false] M) 4)).alloc (.cells (madeCells #[.int .i64 0] M) 3)) = W2 at *
  go_loopw [5, 28] (fun v i wr => ∃ k : Nat, k ≤ M ∧ i = .int .i64 (k : Int) ∧ ER w wr w.heap.size v (trL M k) (lfL p M k) (endsL p k)) (fun _ i _ => M - (intOf i).toNat)
  case atStart => exact ⟨0, by omega, rfl, HE0.out⟩
  case round =>
    obtain ⟨k, hk, rfl, her⟩ := hrel
    have HER := Lib.hid her
    have hszr := her.sz
    have hk4 := (HER.out.be.cell (p := ⟨g, 4, none⟩) hgl).trans HK4.out
    clear her
    by_cases hlt : k < M
    · obtain ⟨An, cn, n1, n2, n3, n4⟩ := HN5.out.2 k hlt
      have hnl := nextL_len p k
      have e1 := (HER.out.be.cell (p := ⟨nb, k, none⟩) (by have := HN5.out.1; simp; omega)).trans n1
      obtain ⟨f1, hf1⟩ : ∃ x, (nextL p k).length = x := ⟨_, rfl⟩
      have HL1 := Lib.hid (show (lfL p M k).set k (f1 : Int) = lfL p M (k + 1) by rw [← hf1]; exact lfL_set hlt)
      have HL2 := Lib.hid (show (trL M k).set k true = trL M (k + 1) from trL_set hlt)
      rw [hf1] at e1 hnl n2
      have r0 := HER.out.b.cell (i := k) (by rw [trL_len hk]; exact hlt)
      have r1 := HER.out.b.fro k
      have r2 := HER.out.i.cell (i := k) (by rw [lfL_len hk]; exact hlt)
      have r3 := HER.out.i.frozen k
      obtain ⟨u0, hu0⟩ : ∃ x, (trL M k)[k]'(by rw [trL_len hk]; exact hlt) = x := ⟨_, rfl⟩
      obtain ⟨u1, hu1⟩ : ∃ x, (lfL p M k)[k]'(by rw [lfL_len hk]; exact hlt) = x := ⟨_, rfl⟩
      rw [hu0] at r0
      rw [hu1] at r2
      have hk0 : (0 : Int) ≤ (k : Int) := by omega
      have hk1 : (k : Int) < (M : Int) := by omega
      have HEB := Lib.hid ((HER.out.setB k true).setI k (f1 : Int))
      have HF1 := Lib.hid hf1
      clear n1 n4 hu0 hu1 hf1
      by_cases hz : f1 = 0
      · subst hz
        have HEL := Lib.hid (endsL_yes HF1.out)
        have hel := endsL_len p k
        have hszr2 : w.heap.size + 2 ≤ wr.heap.size := hszr
        go_upto_region 9 with (fail)
        obtain ⟨W3, hW3⟩ : ∃ W3, (wr.setCell ⟨w.heap.size, k, none⟩ (.bool true)).setCell ⟨w.heap.size + 1, k, none⟩ (.int .i64 ((0 : Nat) : Int)) = W3 := ⟨_, rfl⟩
        rw [hW3] at HEB
        simp only [Int.natCast_zero, Int.cast_ofNat_Int] at hW3
        rw [hW3]
        have hsz3 := HEB.out.sz
        clear hW3 r0 r1 r2 r3 e1
        go_wp2_with (at_builtin; go_must (refine wpList_app _ rfl (.tmp 44) (.tmp 46) _ rfl (w.heap.size + 2) 3 i0 _ 1 8 Try.underlying65 hi hz0 hz1 hz2 rfl (by omega) fI_len fI_one u5 _ rfl (HEB.out.o.alloc _) _ _ [(k : Int)] 1 rfl (Sl.new _ _ (k : Int) _ rfl) (by unfold maxLen; simp only [List.length_cons, List.length_nil]; omega) (by simp only [List.length_cons, List.length_nil]; omega) (by simp; omega) (fun _ => .inr ⟨_, rfl⟩) ?_); intro v2 w2 o2 gr2 at2 ne2)
        go_roundw
        case rel => exact ⟨k + 1, by omega, by go_num, by rw [← HL1.out, ← HL2.out, HEL.out]; exact (HEB.out.alloc _).app o2 gr2⟩
        case measure => simp [intOf]; omega
      · have HEL := Lib.hid (endsL_no (p := p) (k := k) (by rw [HF1.out]; exact hz))
        have d1 : ((f1 : Int) == 0) = false := by simp; omega
        have d2 : ¬ (f1 : Int) = 0 := by omega
        go_wp2
        go_roundw
        case rel => exact ⟨k + 1, by omega, by go_num, by rw [← HL1.out, ← HL2.out, HEL.out]; exact HEB.out⟩
        case measure => simp [intOf]; omega
    · obtain rfl : M = k := by omega
      have HE1 := Lib.hid (show ER w wr w.heap.size u5 (List.replicate M true) (lfL p M M) (endsL p M) by have := HER.out; rwa [show trL M M = List.replicate M true by simp [trL]] at this)
      clear HER HE0 hk4
      go_wp2
      obtain ⟨wa, hwa⟩ : ∃ x, wr = x := ⟨_, rfl⟩
      subst hwa
      go_loopw [5] (fun v wr2 => ∃ (en : List Bool) (lf q : List Int) (n' : Nat), ER w wr2 w.heap.size v en lf q ∧ en.length = M ∧ lf.length = M ∧ (∀ x ∈ q, ∃ t : Nat, x = t ∧ t < M) ∧ endl (befL p M) n' en lf q.reverse = some res) (fun _ wr2 => tru wr2 w.heap.size)
      case atStart => exact ⟨_, _, _, n, HE1.out, by simp, lfL_len (Nat.le_refl _), (fun x hx => by
        unfold endsL at hx
        obtain ⟨t, ht, rfl⟩ := List.mem_map.1 hx
        exact ⟨t, rfl, by have := (List.mem_filter.1 ht).1; simpa using this⟩), HS.out⟩
      case round =>
        obtain ⟨en, lf, q, n', her2, hen, hlf, hq, hend⟩ := hrel
        rcases List.eq_nil_or_concat q with rfl | ⟨r, x, rfl⟩
        · obtain ⟨Av, cv, rfl, _, _, _⟩ := her2.o.form
          have HQ := Lib.hid (show en = res by
            cases n' with
            | zero => simp [endl] at hend
            | succ n' => simpa [endl] using hend)
          have HER2 := Lib.hid her2
          clear her2 hend hq HE1 hen hlf
          go_wp2
          go_ret
          exact ⟨⟨w.heap.size, rfl, by rw [← HQ.out]; exact HER2.out.b, Nat.le_refl _⟩, HER2.out.be⟩
        · rw [List.concat_eq_append] at her2 hq hend
          obtain ⟨m, rfl, hm⟩ := hq x (by simp)
          have hend' : endl (befL p M) n' en lf ((m : Int) :: r.reverse) = some res := by simpa using hend
          cases n' with
          | zero => simp [endl] at hend'
          | succ n' =>
          rw [endl] at hend'
          split at hend'
          · cases hend'
          rename_i hbad
          simp only [not_or] at hbad
          obtain ⟨hb1, hb2, hb3⟩ := hbad
          rw [Int.toNat_natCast] at hb1 hend'
          have hem : en.getD m false = true := by simpa using hb1
          have hrl : r.length ≤ 1000000 := by simp at hb2; omega
          have HLB := Lib.hid (show ∀ y ∈ lf, -1000000 ≤ y ∧ y ≤ 1000000 by
            have h1 : lf.all (fun x => decide (-1000000 ≤ x ∧ x ≤ 1000000)) = true := by simpa using hb3
            intro y hy
            exact of_decide_eq_true (List.all_eq_true.1 h1 y hy))
          obtain ⟨gq, cq, rfl, hgq, hcell, hown, hqc, hqm, hgl2⟩ := her2.o.last
          obtain ⟨Ab, cb, m0, m1, m2, m3⟩ := HN6.out.2 m hm
          have hLl : (befL p M m).length ≤ 1600 := by have := befL_len p m M; omega
          have HLO := Lib.hid (show ∀ y ∈ befL p M m, ∃ t : Nat, y = t ∧ t < M from befL_bd)
          obtain ⟨L, hL⟩ : ∃ L, befL p M m = L := ⟨_, rfl⟩
          rw [hL] at m0 m1 m3 hLl HLO hend'
          have HM3 := Lib.hid m3
          have HRO := Lib.hid (show ∀ y ∈ r, ∃ t : Nat, y = t ∧ t < M from fun y hy => hq y (by simp [hy]))
          have HER2 := Lib.hid (show ER w wr w.heap.size (.slice (some ⟨gq, 0, none⟩) r.length cq) en lf r from ⟨her2.b, her2.i, hown, her2.be⟩)
          have HER3 := Lib.hid (HER2.out.setB m false)
          have HTR := Lib.hid (show ∀ wx : World, BRow wx w.heap.size (en.set m false) → tru wx w.heap.size < tru wr w.heap.size from fun wx hx => by
            rw [tru_is hx, tru_is HER2.out.b]; exact tru_less hem)
          have HEN := Lib.hid hend'; have HLE := Lib.hid hen; have HLF := Lib.hid hlf
          have r0 := HER2.out.b.cell (i := m) (by omega)
          have r1 := HER2.out.b.fro m
          obtain ⟨u0, hu0⟩ : ∃ x, en[m]'(by omega) = x := ⟨_, rfl⟩
          rw [hu0] at r0
          obtain ⟨N, hN⟩ : ∃ x, r.length = x := ⟨_, rfl⟩
          have HNN := Lib.hid hN
          rw [hN] at hcell hqc hrl HER2 HER3 ⊢
          have hN0 : (0 : Int) ≤ (N : Int) := by omega
          have hN1 : (N : Int) < (N : Int) + 1 := by omega
          have hN2 : (0 : Int) < (N : Int) + 1 := by omega
          have hNc : (N : Int) ≤ (cq : Int) := by omega
          have hcm : (cq : Int) ≤ 9223372036854775807 := by unfold maxLen at hqm; omega
          have hwr1 : IntKind.i64.wrap ((N : Int) + 1 - 1) = (N : Int) := by rw [IntKind.wrap_i64]; omega
          have hwr2 : IntKind.i64.wrap (N : Int) = (N : Int) := by rw [IntKind.wrap_i64]; omega
          have hm0 : (0 : Int) ≤ (m : Int) := by omega
          have hm1 : (m : Int) < (M : Int) := by omega
          have hmb0 : bb < w.heap.size := by have := HN6.out.1; omega
          clear her2 hend hend' hb1 hb2 hb3 hem hown hq hu0 hL m3 hN hqm HE1 hen hlf
          go_upto_region 15 with (fail)
          obtain ⟨W3, hW3⟩ : ∃ W3, wr.setCell ⟨w.heap.size, m, none⟩ (.bool false) = W3 := ⟨_, rfl⟩
          rw [hW3] at HER3 ⊢
          have q0 := (HER3.out.be.cell (p := ⟨g, 5, none⟩) hgl).trans HK5.out
          have q1 := (HER3.out.be.cell (p := ⟨bb, m, none⟩) hmb0).trans m0
          clear hW3 r0 r1 hcell hwr1 hwr2 HER2 m0 hN1 hN2 hNc hcm
          go_wp2
          obtain ⟨wb, hwb⟩ : ∃ x, wr = x := ⟨_, rfl⟩
          rw [hwb] at HTR
          go_loopw [5, 74] (fun v j wr3 => ∃ k2 : Nat, k2 ≤ L.length ∧ j = .int .i64 (k2 : Int) ∧ ER w wr3 w.heap.size v (en.set m false) ((L.take k2).foldl decE (lf, r.reverse)).1 ((L.take k2).foldl decE (lf, r.reverse)).2.reverse) (fun _ j _ => L.length - (intOf j).toNat)
          case atStart => exact ⟨0, Nat.zero_le _, rfl, by have := HER3.out; simpa using this⟩
          case round =>
            obtain ⟨k2, hk2, rfl, her4⟩ := hrel
            have HER4 := Lib.hid her4
            have hsz4 := her4.sz
            clear her4
            by_cases hlt2 : k2 < L.length
            · obtain ⟨t, hLt, htM⟩ := HLO.out L[k2] (List.getElem_mem hlt2)
              obtain ⟨b3, o3, rfl, g3, q3⟩ := int_at HM3.out hlt2
              have q4 := (HER4.out.be.cell (p := ⟨b3, o3 + k2, none⟩) (by simp; omega)).trans q3
              rw [hLt] at q4
              have hstep := foldl_take decE (lf, r.reverse) L hlt2
              rw [hLt] at hstep
              have hbd := decEs_bd (u := 1000000) (L.take k2) (lf, r.reverse) (-1000000) (by omega) (by omega) HLB.out
              have hsl := decEs_len (L.take k2) (lf, r.reverse)
              simp only [List.length_take, List.length_reverse] at hbd hsl
              obtain ⟨s, hs⟩ : ∃ s, (L.take k2).foldl decE (lf, r.reverse) = s := ⟨_, rfl⟩
              rw [hs] at hstep hbd hsl HER4
              have hlfl := HLF.out
              have htl : t < s.1.length := by rw [hsl.1, hlfl]; exact htM
              obtain ⟨X, hX⟩ : ∃ x, s.1[t] = x := ⟨_, rfl⟩
              have hXb := hbd X (by rw [← hX]; exact List.getElem_mem htl)
              have hgd : s.1.getD t 0 = X := by rw [List.getD_eq_getElem?_getD, List.getElem?_eq_getElem htl, Option.getD_some, hX]
              have HST := Lib.hid (show (L.take (k2 + 1)).foldl decE (lf, r.reverse) = (s.1.set t (X - 1), if X - 1 = 0 then (t : Int) :: s.2 else s.2) by rw [hstep]; unfold decE; simp only [Int.toNat_natCast, hgd])
              have r2 := HER4.out.i.cell htl
              have r3 := HER4.out.i.frozen t
              rw [hX] at r2
              have hs2 : s.2.length ≤ 1002000 := by have := hsl.2; have := HNN.out; omega
              have hX0 : -1002000 ≤ X := by omega
              have hX1 : X ≤ 1000000 := hXb.2
              have ht0 : (0 : Int) ≤ (t : Int) := by omega
              have ht1 : (t : Int) < (M : Int) := by omega
              have hj0 : (0 : Int) ≤ (k2 : Int) := by omega
              have hj1 : (k2 : Int) < (L.length : Int) := by omega
              have HER5 := Lib.hid (HER4.out.setI t (X - 1))
              clear hstep hbd hsl hs hX hgd hlfl htl q3 hXb hLt q0 q1
              by_cases hz : X = 1
              · subst hz
                have HST1 := Lib.hid (show (L.take (k2 + 1)).foldl decE (lf, r.reverse) = (s.1.set t 0, (t : Int) :: s.2) by rw [HST.out]; simp)
                simp only [Int.sub_self] at HER5
                have hs3 : s.2.reverse.length ≤ 1002000 := by simpa using hs2
                clear HST hX0 hX1
                go_upto_region 20 with (fail)
                obtain ⟨W4, hW4⟩ : ∃ W4, wr.setCell ⟨w.heap.size + 1, t, none⟩ (.int .i64 0) = W4 := ⟨_, rfl⟩
                rw [hW4] at HER5 ⊢
                have hsz5 := HER5.out.sz
                clear hW4 r2 r3 q4
                go_wp2_with (at_builtin; go_must (refine wpList_app _ rfl (.tmp 89) (.tmp 91) _ rfl (w.heap.size + 2) 3 i0 _ 1 8 Try.underlying65 hi hz0 hz1 hz2 rfl (by omega) fI_len fI_one u5 _ rfl (HER5.out.o.alloc _) _ _ [(t : Int)] 1 rfl (Sl.new _ _ (t : Int) _ rfl) (by unfold maxLen; simp only [List.length_cons, List.length_nil]; omega) (by simp only [List.length_cons, List.length_nil]; omega) (by simp; omega) (fun _ => .inr ⟨_, rfl⟩) ?_); intro v2 w2 o2 gr2 at2 ne2)
                go_roundw
                case rel => exact ⟨k2 + 1, by omega, by go_num, by rw [HST1.out]; simp only [List.reverse_cons]; exact (HER5.out.alloc _).app o2 gr2⟩
                case measure => simp [intOf]; omega
              · have HST1 := Lib.hid (show (L.take (k2 + 1)).foldl decE (lf, r.reverse) = (s.1.set t (X - 1), s.2) by rw [HST.out, if_neg (by omega)])
                have d1 : (X - 1 == 0) = false := by simp; omega
                have d2 : ¬ X - 1 = 0 := by omega
                clear HST
                go_wp2
                go_roundw
                case rel => exact ⟨k2 + 1, by omega, by go_num, by rw [HST1.out]; exact HER5.out⟩
                case measure => simp [intOf]; omega
            · obtain rfl : k2 = L.length := by omega
              have hend2 := HEN.out
              have her5 := HER4.out
              rw [List.take_length] at her5
              have hsl := decEs_len L (lf, r.reverse)
              have hok := decEs_ok (M := M) L (lf, r.reverse) (fun x hx => HRO.out x (by simpa using hx)) HLO.out
              have HER6 := Lib.hid her5
              have HE2 := Lib.hid hend2; have HOK := Lib.hid hok; have HSL := Lib.hid hsl
              have hM2 := HTR.out wr her5.b
              clear her5 hend2 hok hsl HER4
              go_wp2
              go_roundw
              case rel => exact ⟨_, _, _, n', HER6.out, by rw [List.length_set]; exact HLE.out, by rw [HSL.out.1]; exact HLF.out, (fun x hx => HOK.out x (by simpa using hx)), by rw [List.reverse_reverse]; exact HE2.out⟩
              case measure => rw [hwb]; exact hM2
end Go.Proofs.Ytcpanfpijljeaaa
/-! part U4: What can be reached, and how a search finds it. Contracts: reaches, Turns. -/
namespace Go.Proofs.Ytcpanfpijljeaaa
set_option linter.unusedVariables false
set_option linter.unusedSimpArgs false

/-- a way of one step or more -/
inductive Rch (nx : Nat → List Int) : Nat → Nat → Prop
  | one {a b : Nat} : (b : Int) ∈ nx a → Rch nx a b
  | more {a b c : Nat} : (b : Int) ∈ nx a → Rch nx b c → Rch nx a c
theorem Rch.trans {nx : Nat → List Int} {a b c : Nat} (h : Rch nx a b) (h2 : Rch nx b c) : Rch nx a c := by
  induction h with
  | one h => exact .more h h2
  | more h _ ih => exact .more h (ih h2)
theorem Rch.snoc {nx : Nat → List Int} {a b c : Nat} (h : Rch nx a b) (h2 : (c : Int) ∈ nx b) : Rch nx a c := h.trans (.one h2)
def gT (l : List Bool) (t : Nat) : Bool := l.getD t false
theorem gT_set {l : List Bool} {k t : Nat} {x : Bool} (hk : k < l.length) : gT (l.set k x) t = if t = k then x else gT l t := by
  unfold gT
  rw [List.getD_eq_getElem?_getD, List.getD_eq_getElem?_getD, List.getElem?_set]
  by_cases h : t = k
  · subst h; simp [hk]
  · rw [if_neg (fun e => h e.symm), if_neg h]
theorem gT_lt {l : List Bool} {k : Nat} (h : gT l k = true) : k < l.length := by
  unfold gT at h
  by_cases hk : k < l.length
  · exact hk
  · rw [List.getD_eq_getElem?_getD, List.getElem?_eq_none (by omega)] at h; simp at h
/-- how many are false -/
def fls (l : List Bool) : Nat := (l.filter fun b => !b).length
theorem fls_set {l : List Bool} {k : Nat} (hk : k < l.length) (h : gT l k = false) : fls (l.set k true) + 1 = fls l := by
  induction l generalizing k with
  | nil => simp at hk
  | cons b l ih =>
    cases k with
    | zero =>
      have : b = false := by simpa [gT] using h
      subst this
      simp [fls]
    | succ k =>
      have := ih (k := k) (by simpa using hk) (by simpa [gT] using h)
      unfold fls at this ⊢
      simp only [List.set_cons_succ, List.filter_cons]
      split
      · simp only [List.length_cons]; omega
      · exact this

/-! The specification's search: in the order of a queue. -/
def bfs (nx : Nat → List Int) : Nat → List Bool → List Int → Option (List Bool)
  | 0, _, _ => none
  | _ + 1, out, [] => some out
  | n + 1, out, x :: l => if gT out x.toNat then bfs nx n out l else bfs nx n (out.set x.toNat true) (l ++ nx x.toNat)
structure BIr (M : Nat) (nx : Nat → List Int) (a : Nat) (out : List Bool) (l : List Int) : Prop where
  len : out.length = M
  q : ∀ x ∈ l, ∃ t : Nat, x = t ∧ t < M ∧ Rch nx a t
  o : ∀ b, gT out b = true → Rch nx a b
  cl : ∀ b, gT out b = true → ∀ c : Nat, (c : Int) ∈ nx b → gT out c = true ∨ (c : Int) ∈ l
  st : ∀ c : Nat, (c : Int) ∈ nx a → gT out c = true ∨ (c : Int) ∈ l
theorem bfs_ends {M a : Nat} {nx : Nat → List Int} (hnx : ∀ t, t < M → ∀ z ∈ nx t, ∃ u : Nat, z = u ∧ u < M) :
    ∀ (f k : Nat) (out : List Bool) (l : List Int), fls out ≤ f → l.length ≤ k → BIr M nx a out l → ∃ n res, bfs nx n out l = some res ∧ res.length = M ∧ ∀ b, gT res b = true ↔ Rch nx a b := by
  intro f
  induction f with
  | zero =>
    intro k
    induction k with
    | zero =>
      intro out l hf hk h
      obtain rfl : l = [] := by cases l; rfl; simp at hk
      refine ⟨1, out, rfl, h.len, fun b => ⟨h.o b, fun hb => ?_⟩⟩
      suffices hh : ∀ x y, Rch nx x y → (x = a ∨ gT out x = true) → gT out y = true from hh a b hb (.inl rfl)
      intro x y hxy
      induction hxy with
      | one hm => rintro (rfl | hx)
                  · simpa using h.st _ hm
                  · simpa using h.cl _ hx _ hm
      | more hm _ ih => rintro (rfl | hx)
                        · exact ih (.inr (by simpa using h.st _ hm))
                        · exact ih (.inr (by simpa using h.cl _ hx _ hm))
    | succ k ih =>
      intro out l hf hk h
      cases l with
      | nil => exact ih out [] hf (by simp) h
      | cons x l =>
        obtain ⟨t, rfl, ht, hr⟩ := h.q x (by simp)
        have hT : gT out t = true := by
          cases e : gT out t with
          | true => rfl
          | false => have := fls_set (by rw [h.len]; exact ht) e; omega
        obtain ⟨n, res, h1, h2⟩ := ih out l hf (by simp at hk; omega) ⟨h.len, fun x hx => h.q x (by simp [hx]), h.o, fun b hb c hc => by
            rcases h.cl b hb c hc with h3 | h3
            · exact .inl h3
            · rcases List.mem_cons.1 h3 with h4 | h4
              · obtain rfl : c = t := by omega
                exact .inl hT
              · exact .inr h4, fun c hc => by
            rcases h.st c hc with h3 | h3
            · exact .inl h3
            · rcases List.mem_cons.1 h3 with h4 | h4
              · obtain rfl : c = t := by omega
                exact .inl hT
              · exact .inr h4⟩
        exact ⟨n + 1, res, by rw [bfs, Int.toNat_natCast, if_pos hT]; exact h1, h2⟩
  | succ f ihf =>
    intro k
    induction k with
    | zero =>
      intro out l hf hk h
      obtain rfl : l = [] := by cases l; rfl; simp at hk
      refine ⟨1, out, rfl, h.len, fun b => ⟨h.o b, fun hb => ?_⟩⟩
      suffices hh : ∀ x y, Rch nx x y → (x = a ∨ gT out x = true) → gT out y = true from hh a b hb (.inl rfl)
      intro x y hxy
      induction hxy with
      | one hm => rintro (rfl | hx)
                  · simpa using h.st _ hm
                  · simpa using h.cl _ hx _ hm
      | more hm _ ih => rintro (rfl | hx)
                        · exact ih (.inr (by simpa using h.st _ hm))
                        · exact ih (.inr (by simpa using h.cl _ hx _ hm))
    | succ k ih =>
      intro out l hf hk h
      cases l with
      | nil => exact ih out [] hf (by simp) h
      | cons x l =>
        obtain ⟨t, rfl, ht, hr⟩ := h.q x (by simp)
        cases hT : gT out t with
        | true =>
          obtain ⟨n, res, h1, h2⟩ := ih out l hf (by simp at hk; omega) ⟨h.len, fun x hx => h.q x (by simp [hx]), h.o, fun b hb c hc => by
              rcases h.cl b hb c hc with h3 | h3
              · exact .inl h3
              · rcases List.mem_cons.1 h3 with h4 | h4
                · obtain rfl : c = t := by omega
                  exact .inl hT
                · exact .inr h4, fun c hc => by
              rcases h.st c hc with h3 | h3
              · exact .inl h3
              · rcases List.mem_cons.1 h3 with h4 | h4
                · obtain rfl : c = t := by omega
                  exact .inl hT
                · exact .inr h4⟩
          exact ⟨n + 1, res, by rw [bfs, Int.toNat_natCast, if_pos hT]; exact h1, h2⟩
        | false =>
          have htl : t < out.length := by rw [h.len]; exact ht
          have hfs := fls_set htl hT
          obtain ⟨n, res, h1, h2⟩ := ihf (l ++ nx t).length (out.set t true) (l ++ nx t) (by omega) (Nat.le_refl _) ⟨by rw [List.length_set]; exact h.len, fun x hx => by
              rcases List.mem_append.1 hx with hx | hx
              · exact h.q x (by simp [hx])
              · obtain ⟨u, rfl, hu⟩ := hnx t ht x hx
                exact ⟨u, rfl, hu, hr.snoc hx⟩, fun b hb => by
              rw [gT_set htl] at hb
              by_cases e : b = t
              · subst e; exact hr
              · rw [if_neg e] at hb; exact h.o b hb, fun b hb c hc => by
              rw [gT_set htl] at hb ⊢
              by_cases e2 : c = t
              · subst e2; exact .inl (by simp)
              rw [if_neg e2]
              by_cases e : b = t
              · subst e; exact .inr (by simp [hc])
              · rw [if_neg e] at hb
                rcases h.cl b hb c hc with h3 | h3
                · exact .inl h3
                · rcases List.mem_cons.1 h3 with h4 | h4
                  · omega
                  · exact .inr (by simp [h4]), fun c hc => by
              rw [gT_set htl]
              by_cases e2 : c = t
              · subst e2; exact .inl (by simp)
              rw [if_neg e2]
              rcases h.st c hc with h3 | h3
              · exact .inl h3
              · rcases List.mem_cons.1 h3 with h4 | h4
                · omega
                · exact .inr (by simp [h4])⟩
          exact ⟨n + 1, res, by rw [bfs, Int.toNat_natCast, hT]; exact h1, h2⟩
theorem bfs_start {M a : Nat} {nx : Nat → List Int} (ha : a < M) (hnx : ∀ t, t < M → ∀ z ∈ nx t, ∃ u : Nat, z = u ∧ u < M) :
    ∃ n res, bfs nx n (List.replicate M false) (nx a) = some res ∧ res.length = M ∧ ∀ b, gT res b = true ↔ Rch nx a b := by
  refine bfs_ends hnx _ _ _ _ (Nat.le_refl _) (Nat.le_refl _) ⟨by simp, fun x hx => ?_, fun b hb => ?_, fun b hb => ?_, fun c hc => .inr hc⟩
  · obtain ⟨u, rfl, hu⟩ := hnx a ha x hx
    exact ⟨u, rfl, hu, .one hx⟩
  · exfalso
    have := gT_lt hb
    unfold gT at hb
    rw [List.getD_eq_getElem?_getD, List.getElem?_replicate] at hb
    split at hb <;> simp at hb
  · exfalso
    unfold gT at hb
    rw [List.getD_eq_getElem?_getD, List.getElem?_replicate] at hb
    split at hb <;> simp at hb

/-! The program's search: with a stack; it ends at the wanted one. -/
def visE (s : List Bool × List Int) (z : Int) : List Bool × List Int := if gT s.1 z.toNat then s else (s.1.set z.toNat true, z :: s.2)
def dfs (nx : Nat → List Int) (g : Nat) : Nat → List Bool → List Int → Option Bool
  | 0, _, _ => none
  | n + 1, sn, st => match st with
    | [] => some (gT sn g)
    | x :: l => if gT sn g then some true else dfs nx g n ((nx x.toNat).foldl visE (sn, l)).1 ((nx x.toNat).foldl visE (sn, l)).2
theorem vis_is {M : Nat} : ∀ (L : List Int) (s : List Bool × List Int), s.1.length = M → (∀ z ∈ L, ∃ u : Nat, z = u ∧ u < M) →
    (L.foldl visE s).1.length = M ∧ fls (L.foldl visE s).1 + (L.foldl visE s).2.length = fls s.1 + s.2.length ∧
    (∀ b, gT (L.foldl visE s).1 b = true ↔ gT s.1 b = true ∨ (b : Int) ∈ L) ∧ (∀ x ∈ s.2, x ∈ (L.foldl visE s).2) ∧
    (∀ x ∈ (L.foldl visE s).2, x ∈ s.2 ∨ x ∈ L) ∧ (∀ b : Nat, gT (L.foldl visE s).1 b = true → gT s.1 b = true ∨ (b : Int) ∈ (L.foldl visE s).2) := by
  intro L
  induction L with
  | nil => intro s hs _; exact ⟨hs, rfl, fun b => by simp, fun x hx => hx, fun x hx => .inl hx, fun b hb => .inl hb⟩
  | cons z L ih =>
    intro s hs hL
    obtain ⟨u, rfl, hu⟩ := hL z (by simp)
    have hL2 : ∀ z ∈ L, ∃ u : Nat, z = u ∧ u < M := fun z hz => hL z (by simp [hz])
    rw [List.foldl_cons]
    cases hg : gT s.1 u with
    | true =>
      have e : visE s (u : Int) = s := by unfold visE; rw [Int.toNat_natCast, if_pos hg]
      rw [e]
      obtain ⟨h1, h2, h3, h4, h5, h6⟩ := ih s hs hL2
      refine ⟨h1, h2, fun b => ?_, h4, fun x hx => ?_, h6⟩
      · rw [h3 b, List.mem_cons]
        constructor
        · rintro (h | h)
          · exact .inl h
          · exact .inr (.inr h)
        · rintro (h | h | h)
          · exact .inl h
          · obtain rfl : b = u := by omega
            exact .inl hg
          · exact .inr h
      · rcases h5 x hx with h | h
        · exact .inl h
        · exact .inr (by simp [h])
    | false =>
      have e : visE s (u : Int) = (s.1.set u true, (u : Int) :: s.2) := by unfold visE; rw [Int.toNat_natCast, hg]; rfl
      rw [e]
      have hul : u < s.1.length := by omega
      obtain ⟨h1, h2, h3, h4, h5, h6⟩ := ih (s.1.set u true, (u : Int) :: s.2) (by simp [hs]) hL2
      have hf := fls_set hul hg
      refine ⟨h1, by rw [h2]; simp only [List.length_cons]; omega, fun b => ?_, fun x hx => h4 x (by simp [hx]), fun x hx => ?_, fun b hb => ?_⟩
      · rw [h3 b, gT_set hul, List.mem_cons]
        by_cases e : b = u
        · subst e; simp
        · rw [if_neg e]
          constructor
          · rintro (h | h)
            · exact .inl h
            · exact .inr (.inr h)
          · rintro (h | h | h)
            · exact .inl h
            · omega
            · exact .inr h
      · rcases h5 x hx with h | h
        · rcases List.mem_cons.1 h with rfl | h
          · exact .inr (by simp)
          · exact .inl h
        · exact .inr (by simp [h])
      · rcases h6 b hb with h | h
        · rw [gT_set hul] at h
          by_cases e : b = u
          · subst e; exact .inr (h4 _ (by simp))
          · rw [if_neg e] at h; exact .inl h
        · exact .inr h
structure DIr (M : Nat) (nx : Nat → List Int) (a : Nat) (sn : List Bool) (st : List Int) : Prop where
  len : sn.length = M
  fa : gT sn a = true
  q : ∀ x ∈ st, ∃ t : Nat, x = t ∧ t < M ∧ gT sn t = true
  o : ∀ b, gT sn b = true → b = a ∨ Rch nx a b
  cl : ∀ b : Nat, gT sn b = true → (b : Int) ∈ st ∨ ∀ c : Nat, (c : Int) ∈ nx b → gT sn c = true
theorem dfs_ends {M a g : Nat} {nx : Nat → List Int} (hnx : ∀ t, t < M → ∀ z ∈ nx t, ∃ u : Nat, z = u ∧ u < M) :
    ∀ (n : Nat) (sn : List Bool) (st : List Int), fls sn + st.length ≤ n → DIr M nx a sn st → ∃ r, dfs nx g (n + 1) sn st = some r ∧ (r = true ↔ g = a ∨ Rch nx a g) := by
  intro n
  have fin : ∀ sn, DIr M nx a sn [] → (gT sn g = true ↔ g = a ∨ Rch nx a g) := fun sn h => by
    refine ⟨h.o g, ?_⟩
    rintro (rfl | hr)
    · exact h.fa
    · suffices hh : ∀ x y, Rch nx x y → gT sn x = true → gT sn y = true from hh a g hr h.fa
      intro x y hxy
      induction hxy with
      | one hm => intro hx
                  rcases h.cl _ hx with h1 | h1
                  · cases h1
                  · exact h1 _ hm
      | more hm _ ih => intro hx
                        rcases h.cl _ hx with h1 | h1
                        · cases h1
                        · exact ih (h1 _ hm)
  induction n with
  | zero =>
    intro sn st hn h
    obtain rfl : st = [] := by cases st; rfl; simp at hn
    exact ⟨_, rfl, fin sn h⟩
  | succ n ih =>
    intro sn st hn h
    cases st with
    | nil => exact ⟨_, rfl, fin sn h⟩
    | cons x l =>
      rw [dfs]
      by_cases hg : gT sn g = true
      · simp only [if_pos hg]
        exact ⟨true, rfl, fun _ => h.o g hg, fun _ => rfl⟩
      · simp only [if_neg hg]
        obtain ⟨t, rfl, ht, hgt⟩ := h.q x (by simp)
        rw [Int.toNat_natCast]
        have hR : ∀ c : Nat, (c : Int) ∈ nx t → Rch nx a c := fun c hc => by
          rcases h.o t hgt with rfl | h1
          · exact .one hc
          · exact h1.snoc hc
        obtain ⟨h1, h2, h3, h4, h5, h6⟩ := vis_is (nx t) (sn, l) h.len (hnx t ht)
        refine ih _ _ (by rw [h2]; simp only [List.length_cons] at hn ⊢; omega) ⟨h1, (h3 a).2 (.inl h.fa), fun x hx => ?_, fun b hb => ?_, fun b hb => ?_⟩
        · rcases h5 x hx with h7 | h7
          · obtain ⟨u, rfl, hu, hgu⟩ := h.q x (by simp [h7])
            exact ⟨u, rfl, hu, (h3 u).2 (.inl hgu)⟩
          · obtain ⟨u, rfl, hu⟩ := hnx t ht x h7
            exact ⟨u, rfl, hu, (h3 u).2 (.inr h7)⟩
        · rcases (h3 b).1 hb with h7 | h7
          · exact h.o b h7
          · exact .inr (hR b h7)
        · rcases h6 b hb with h7 | h7
          · rcases h.cl b h7 with h8 | h8
            · rcases List.mem_cons.1 h8 with h9 | h9
              · obtain rfl : b = t := by omega
                exact .inr fun c hc => (h3 c).2 (.inr hc)
              · exact .inl (h4 _ h9)
            · exact .inr fun c hc => (h3 c).2 (.inl (h8 c hc))
          · exact .inl h7
theorem gT_rep {M b : Nat} : gT (List.replicate M false) b = false := by
  unfold gT
  rw [List.getD_eq_getElem?_getD, List.getElem?_replicate]
  split <;> simp
theorem dfs_start {M a g : Nat} {nx : Nat → List Int} (ha : a < M) (hnx : ∀ t, t < M → ∀ z ∈ nx t, ∃ u : Nat, z = u ∧ u < M) :
    ∃ n r, dfs nx g n ((List.replicate M false).set a true) [(a : Int)] = some r ∧ (r = true ↔ g = a ∨ Rch nx a g) := by
  have hl : a < (List.replicate M false).length := by simpa using ha
  have hT : ∀ b, gT ((List.replicate M false).set a true) b = true → b = a := fun b hb => by
    rw [gT_set hl, gT_rep] at hb
    by_cases e : b = a
    · exact e
    · rw [if_neg e] at hb; cases hb
  have h0 : DIr M nx a ((List.replicate M false).set a true) [(a : Int)] := ⟨by simp, by rw [gT_set hl]; simp, fun x hx => by
      obtain rfl : x = (a : Int) := by simpa using hx
      exact ⟨a, rfl, ha, by rw [gT_set hl]; simp⟩, fun b hb => .inl (hT b hb), fun b hb => .inl (by rw [hT b hb]; simp)⟩
  obtain ⟨r, h⟩ := dfs_ends (g := g) hnx _ _ _ (Nat.le_refl _) h0
  exact ⟨_, r, h⟩
set_option linter.unusedVariables false
set_option linter.unusedSimpArgs false
open Go.RowKit

section
variable {w w' wr : World} {S : Nat} {v : Value} {sn : List Bool} {q : List Int}
/-- the row of 'reaches', and its stack -/
structure RR (w wr : World) (S : Nat) (v : Value) (sn : List Bool) (q : List Int) : Prop where
  b : BRow wr S sn
  o : Own wr (S + 1) 3 1 fI v q
  be : Below S w wr
theorem RR.sz (h : RR w wr S v sn q) : S + 1 ≤ wr.heap.size := h.b.lt
theorem RR.setB (h : RR w wr S v sn q) (k : Nat) (x : Bool) : RR w (wr.setCell ⟨S, k, none⟩ (.bool x)) S v (sn.set k x) q :=
  ⟨h.b.setB k x, h.o.of_blocks fun m hm => Below.heap_setCell _ _ _ _ (by have := (h.o.lt m hm).1; simp; omega), h.be.setCell (p := ⟨S, k, none⟩) (Nat.le_refl _) _⟩
theorem RR.alloc (h : RR w wr S v sn q) (o : Obj) : RR w (wr.alloc o) S v sn q :=
  ⟨h.b.of (Below.heap_alloc wr o S h.b.lt), h.o.alloc o, h.be.alloc (by have := h.sz; omega) o⟩
theorem RR.app {v2 : Value} {w2 : World} {q2 : List Int} (h : RR w wr S v sn q) (ho : Own w2 (S + 1) 3 1 fI v2 q2) (hg : wr.grownBy w2 v.ownBlock) : RR w w2 S v2 sn q2 := by
  have hb : Below (S + 1) wr w2 := (Below.refl _ _).grown hg h.sz fun k hk => (h.o.lt k hk).1
  exact ⟨h.b.below hb (by omega), ho, h.be.trans (hb.mono (by omega))⟩
end
/-- how many bools in a block are false -/
def fal (w : World) (S : Nat) : Nat := match w.heap[S]? with
  | some (.cells cs _ _) => (cs.toList.filter fun v => match v with | .bool true => false | _ => true).length
  | _ => 0
theorem fal_is {w : World} {S : Nat} {sn : List Bool} (h : BRow w S sn) : fal w S = fls sn := by
  unfold fal fls
  unfold BRow at h
  rw [h]
  simp only
  clear h
  induction sn with
  | nil => rfl
  | cons b l ih =>
    simp only [List.map_cons, List.filter_cons] at ih ⊢
    cases b
    · simpa using ih
    · simpa using ih
def lenV : Value → Nat
  | .slice _ n _ => n
  | _ => 0

set_option maxRecDepth 100000 in
set_option maxHeartbeats 4000000 in
theorem reaches_any (B g n M a t : Nat) (r : Bool) (p : Pl) (w : World) (hM : 2 * p.rails.length = M) (h : Nw w B g p) (hB : B ≤ w.heap.size) (ha : a < M) (ht : t < M)
    (hs : dfs (nextL p) t n ((List.replicate M false).set a true) [(a : Int)] = some r) :
    Calls Try.prog 60 #[.pointer (some ⟨g, 0, none⟩), .int .i64 (a : Int), .int .i64 (t : Int)] w fun e w' => e = .returned (.bool r) ∧ Below w.heap.size w w' := by
  have hsz := h.sizes
  have hgB := h.gB
  have hv := h.v
  obtain ⟨A1, c1, A2, c2, lb, sb, nb, bb, hN, x1, x2, x3, x4, x5, x6⟩ := h.net
  obtain ⟨_, _, k2, _, k4, k5⟩ := hN.cell
  rw [hM] at k4 k5 x5 x6
  have hM8 : M ≤ 800 := by omega
  have hM8' : (M : Int) ≤ 800 := by omega
  have hnb : ∀ u, u < M → ∀ z ∈ nextL p u, ∃ x : Nat, z = x ∧ x < M := fun u hu z hz => by
    have := nextL_bd hv (by omega) z hz
    exact ⟨z.toNat, by omega, by omega⟩
  obtain ⟨i0, hi, hz0, hz1, hz2⟩ := info_parts inf3
  obtain ⟨i1, hi1, hy0, hy1, hy2⟩ := info_parts inf4
  have hmb : ∀ W : World, (Instr.makeSlice 70 (.int .i64 (M : Int)) (.int .i64 (M : Int))).run Try.prog W = .ok (.slice (some ⟨W.heap.size, 0, none⟩) M M) (W.alloc (.cells (madeCells #[.bool false] M) 4)) := fun W => by
    have := run_mk (P := Try.prog) 70 4 i1 _ 1 Try.underlying70 hi1 hy0 hy1 (M : Int) (M : Int) M M rfl rfl (by omega) (by rw [hy2]; omega) (by omega) W
    rw [this, Nat.mul_one]; rfl
  have HN5 := Lib.hid x5
  have HNB := Lib.hid hnb
  have HS := Lib.hid hs
  have hgl : g < w.heap.size := by omega
  have hb1 := BRow.made w M
  have r0 := hb1.cell (i := a) (by simpa using ha)
  have r1 := hb1.fro a
  rw [List.getElem_replicate] at r0
  have HK4 := Lib.hid k4
  have hWW : (w.alloc (.cells (madeCells #[.bool false] M) 4)).setCell ⟨w.heap.size, a, none⟩ (.bool true) = w.alloc (.cells ((madeCells #[.bool false] M).setIfInBounds a (.bool true)) 4) := World.setCell_alloc_at _ _ _ _ _ rfl
  have HE0 := Lib.hid (show RR w (((w.alloc (.cells (madeCells #[.bool false] M) 4)).setCell ⟨w.heap.size, a, none⟩ (.bool true)).alloc (.cells #[.int .i64 (a : Int)] 3)) w.heap.size (.slice (some ⟨w.heap.size + 1, 0, none⟩) 1 1) ((List.replicate M false).set a true) [(a : Int)] from by
    have h2 := hb1.setB a true
    have h3 := Own.built (f := fI) (size := 1) ((w.alloc (.cells (madeCells #[.bool false] M) 4)).setCell ⟨w.heap.size, a, none⟩ (.bool true)) (w.heap.size + 1) 3 (a : Int) #[.int .i64 (a : Int)] rfl fI_len (by simp)
    rw [show ((w.alloc (.cells (madeCells #[.bool false] M) 4)).setCell ⟨w.heap.size, a, none⟩ (.bool true)).heap.size = w.heap.size + 1 by simp] at h3
    exact ⟨h2.of (Below.heap_alloc _ _ _ h2.lt), h3, (((Below.refl _ w).alloc (Nat.le_refl _) _).setCell (p := ⟨w.heap.size, a, none⟩) (Nat.le_refl _) _).alloc (by simp) _⟩)
  rw [hWW] at HE0
  clear hWW
  have ha0 : (0 : Int) ≤ (a : Int) := by omega
  have ha1 : (a : Int) < (M : Int) := by omega
  have ht0 : (0 : Int) ≤ (t : Int) := by omega
  have ht1 : (t : Int) < (M : Int) := by omega
  have c0 := fun i => cell_keep1 (w := w) (b := g) (i := i) (o := .cells (madeCells #[.bool false] M) 4) rfl hgl
  clear h hN x3 x4 x5 x6 hs hb1
  go_enter Try.func60, Try.ntmps60
  go_wp2
  clear hmb r0 r1
  generalize ((w.alloc (.cells ((madeCells #[.bool false] M).setIfInBounds a (.bool true)) 4)).alloc (.cells #[.int .i64 (a : Int)] 3)) = W2 at *
  go_loopw [8] (fun v wr => ∃ (sn : List Bool) (q : List Int) (n' : Nat), RR w wr w.heap.size v sn q ∧ sn.length = M ∧ fls sn + q.length ≤ M ∧ (∀ x ∈ q, ∃ u : Nat, x = u ∧ u < M) ∧ dfs (nextL p) t n' sn q.reverse = some r) (fun v wr => fal wr w.heap.size + lenV v)
  case atStart => exact ⟨_, _, n, HE0.out, by simp, by
    have := fls_set (l := List.replicate M false) (k := a) (by simpa using ha) gT_rep
    have h2 : fls (List.replicate M false) ≤ M := by unfold fls; have := List.length_filter_le (fun b : Bool => !b) (List.replicate M false); rwa [List.length_replicate] at this
    simp; omega, (fun x hx => ⟨a, by simpa using hx, ha⟩), HS.out⟩
  case round =>
    obtain ⟨sn, q, n', her2, hsn, hfl, hq, hend⟩ := hrel
    have htl : t < sn.length := by omega
    have r2 := her2.b.cell htl
    have HG := Lib.hid (show gT sn t = sn[t] by unfold gT; rw [List.getD_eq_getElem?_getD, List.getElem?_eq_getElem htl]; rfl)
    obtain ⟨u0, hu0⟩ : ∃ x, sn[t] = x := ⟨_, rfl⟩
    rw [hu0] at r2 HG
    clear hu0
    cases n' with
    | zero => simp [dfs] at hend
    | succ n' =>
    rcases List.eq_nil_or_concat q with rfl | ⟨l, x, rfl⟩
    · obtain ⟨Av, cv, hv8, _, _, _⟩ := her2.o.form
      have hv9 : u8 = .slice Av 0 cv := hv8
      subst hv9
      clear hv8
      have HQ := Lib.hid (show u0 = r by simpa [dfs, HG.out] using hend)
      have HER2 := Lib.hid her2
      clear her2 hend hq hsn hfl
      go_wp2
      go_ret
      exact ⟨by rw [HQ.out]; rfl, HER2.out.be⟩
    · rw [List.concat_eq_append] at her2 hq hend hfl
      obtain ⟨m, rfl, hm⟩ := hq x (by simp)
      obtain ⟨gq, cq, rfl, hgq, hcell, hown, hqc, hqm, hgl2⟩ := her2.o.last
      have hend' : dfs (nextL p) t (n' + 1) sn ((m : Int) :: l.reverse) = some r := by simpa using hend
      rw [dfs] at hend'
      cases u0
      case true =>
        have HQ := Lib.hid (show r = true by simpa [HG.out] using hend'.symm)
        have HER2 := Lib.hid her2
        have hlv : (0 : Int) < (l.length : Int) + 1 := by omega
        clear her2 hend hend' hq hown hcell hgq hfl hsn
        go_wp2
        go_ret
        exact ⟨by rw [HQ.out]; rfl, HER2.out.be⟩
      case false =>
      have hend2 : dfs (nextL p) t n' ((nextL p m).foldl visE (sn, l.reverse)).1 ((nextL p m).foldl visE (sn, l.reverse)).2 = some r := by
        simpa [HG.out] using hend'
      have hfl2 : fls sn + l.length + 1 ≤ M := by simp at hfl; omega
      obtain ⟨Ab, cb, m0, m1, m2, m3⟩ := HN5.out.2 m hm
      have hLl : (nextL p m).length ≤ 1600 := by have := nextL_len p m; omega
      have HLO := Lib.hid (HNB.out m hm)
      have HVI := Lib.hid (fun k => vis_is (M := M) ((nextL p m).take k) (sn, l.reverse) hsn (fun z hz => HLO.out z (List.mem_of_mem_take hz)))
      have HVE := Lib.hid (vis_is (M := M) (nextL p m) (sn, l.reverse) hsn HLO.out)
      have HQL := Lib.hid (show ∀ x ∈ l, ∃ u : Nat, x = u ∧ u < M from fun x hx => hq x (by simp [hx]))
      obtain ⟨L, hL⟩ : ∃ L, nextL p m = L := ⟨_, rfl⟩
      rw [hL] at m0 m1 m3 hLl HLO HVI HVE hend2
      have HM3 := Lib.hid m3
      have HER2 := Lib.hid (show RR w wr w.heap.size (.slice (some ⟨gq, 0, none⟩) l.length cq) sn l from ⟨her2.b, hown, her2.be⟩)
      have HEN := Lib.hid hend2
      have HFA := Lib.hid (fal_is her2.b)
      obtain ⟨N, hN⟩ : ∃ x, l.length = x := ⟨_, rfl⟩
      have HNN := Lib.hid hN
      rw [hN] at hcell hqc hfl2 HER2 ⊢
      have hN0 : (0 : Int) ≤ (N : Int) := by omega
      have hN1 : (N : Int) < (N : Int) + 1 := by omega
      have hN2 : (0 : Int) < (N : Int) + 1 := by omega
      have hNc : (N : Int) ≤ (cq : Int) := by omega
      have hN8 : N ≤ 800 := by omega
      have hcm : (cq : Int) ≤ 9223372036854775807 := by unfold maxLen at hqm; omega
      have hwr1 : IntKind.i64.wrap ((N : Int) + 1 - 1) = (N : Int) := by rw [IntKind.wrap_i64]; omega
      have hwr2 : IntKind.i64.wrap (N : Int) = (N : Int) := by rw [IntKind.wrap_i64]; omega
      have hm0 : (0 : Int) ≤ (m : Int) := by omega
      have hm1 : (m : Int) < (M : Int) := by omega
      have hmb0 : nb < w.heap.size := by have := HN5.out.1; omega
      have q0 := (HER2.out.be.cell (p := ⟨g, 4, none⟩) hgl).trans HK4.out
      have q1 := (HER2.out.be.cell (p := ⟨nb, m, none⟩) hmb0).trans m0
      have HFL := Lib.hid hfl2
      clear her2 hend hend' hend2 hown hq hL m3 hN hqm hfl hfl2 m0
      go_wp2
      obtain ⟨wb, hwb⟩ : ∃ x, wr = x := ⟨_, rfl⟩
      rw [hwb] at HFA
      go_loopw [8, 52] (fun v j wr3 => ∃ k2 : Nat, k2 ≤ L.length ∧ j = .int .i64 (k2 : Int) ∧ RR w wr3 w.heap.size v ((L.take k2).foldl visE (sn, l.reverse)).1 ((L.take k2).foldl visE (sn, l.reverse)).2.reverse) (fun _ j _ => L.length - (intOf j).toNat)
      case atStart => exact ⟨0, Nat.zero_le _, rfl, by have := HER2.out; simpa using this⟩
      case round =>
        obtain ⟨k2, hk2, rfl, her4⟩ := hrel
        have HER4 := Lib.hid her4
        have hsz4 := her4.sz
        clear her4
        by_cases hlt2 : k2 < L.length
        · obtain ⟨z, hLz, hzM⟩ := HLO.out L[k2] (List.getElem_mem hlt2)
          obtain ⟨b3, o3, rfl, g3, q3⟩ := int_at HM3.out hlt2
          have q4 := (HER4.out.be.cell (p := ⟨b3, o3 + k2, none⟩) (by simp; omega)).trans q3
          rw [hLz] at q4
          have hstep := foldl_take visE (sn, l.reverse) L hlt2
          rw [hLz] at hstep
          obtain ⟨v1, v2, v3, v4, v5, v6⟩ := HVI.out k2
          obtain ⟨s, hs⟩ : ∃ s, (L.take k2).foldl visE (sn, l.reverse) = s := ⟨_, rfl⟩
          rw [hs] at hstep v1 v2 HER4
          have hs2 : s.2.length ≤ 800 := by have := HFL.out; have := HNN.out; simp at v2; omega
          have hzl : z < s.1.length := by omega
          obtain ⟨X, hX⟩ : ∃ x, s.1[z] = x := ⟨_, rfl⟩
          have hgz : gT s.1 z = X := by unfold gT; rw [List.getD_eq_getElem?_getD, List.getElem?_eq_getElem hzl, ← hX]; rfl
          have r2 := HER4.out.b.cell hzl
          have r3 := HER4.out.b.fro z
          rw [hX] at r2
          have HST := Lib.hid (show (L.take (k2 + 1)).foldl visE (sn, l.reverse) = if X then s else (s.1.set z true, (z : Int) :: s.2) by rw [hstep]; unfold visE; simp only [Int.toNat_natCast, hgz])
          have hz0' : (0 : Int) ≤ (z : Int) := by omega
          have hz1' : (z : Int) < (M : Int) := by omega
          have hj0 : (0 : Int) ≤ (k2 : Int) := by omega
          have hj1 : (k2 : Int) < (L.length : Int) := by omega
          clear hstep hs hX hgz hzl q3 hLz q0 q1 v1 v2 v3 v4 v5 v6 hwb
          cases X
          case true =>
            have HST1 := Lib.hid (show (L.take (k2 + 1)).foldl visE (sn, l.reverse) = s by rw [HST.out, if_pos rfl])
            go_wp2
            go_roundw
            case rel => exact ⟨k2 + 1, by omega, by go_num, by rw [HST1.out]; exact HER4.out⟩
            case measure => simp [intOf]; omega
          case false =>
            have HST1 := Lib.hid (show (L.take (k2 + 1)).foldl visE (sn, l.reverse) = (s.1.set z true, (z : Int) :: s.2) by rw [HST.out]; rfl)
            have HER5 := Lib.hid (HER4.out.setB z true)
            have hs3 : s.2.reverse.length ≤ 800 := by simpa using hs2
            go_upto_region 12 with (fail)
            obtain ⟨W4, hW4⟩ : ∃ W4, wr.setCell ⟨w.heap.size, z, none⟩ (.bool true) = W4 := ⟨_, rfl⟩
            rw [hW4] at HER5 ⊢
            have hsz5 := HER5.out.sz
            clear hW4 r2 r3 q4
            go_wp2_with (at_builtin; go_must (refine wpList_app _ rfl (.tmp 64) (.tmp 66) _ rfl (w.heap.size + 1) 3 i0 _ 1 8 Try.underlying65 hi hz0 hz1 hz2 rfl (by omega) fI_len fI_one u8 _ rfl (HER5.out.o.alloc _) _ _ [(z : Int)] 1 rfl (Sl.new _ _ (z : Int) _ rfl) (by unfold maxLen; simp only [List.length_cons, List.length_nil]; omega) (by simp only [List.length_cons, List.length_nil]; omega) (by simp; omega) (fun _ => .inr ⟨_, rfl⟩) ?_); intro v2 w2 o2 gr2 at2 ne2)
            go_roundw
            case rel => exact ⟨k2 + 1, by omega, by go_num, by rw [HST1.out]; simp only [List.reverse_cons]; exact (HER5.out.alloc _).app o2 gr2⟩
            case measure => simp [intOf]; omega
        · obtain rfl : k2 = L.length := by omega
          have her5 := HER4.out
          rw [List.take_length] at her5
          obtain ⟨v1, v2, v3, v4, v5, v6⟩ := HVE.out
          have hfe := fal_is her5.b
          obtain ⟨A6, c6, hu8, _, _, _⟩ := her5.o.form
          have hfl3 := HFL.out
          have hnn := HNN.out
          have hm2 : fal wr w.heap.size + lenV u8 < fls sn + (N + 1) := by
            rw [hfe, hu8]
            simp only [lenV, List.length_reverse]
            simp only [List.length_reverse] at v2
            omega
          have HM2 := Lib.hid hm2
          have HER6 := Lib.hid her5
          have hf7 : fls ((L.foldl visE (sn, l.reverse)).1) + ((L.foldl visE (sn, l.reverse)).2.reverse).length ≤ M := by
            simp only [List.length_reverse] at v2 ⊢
            omega
          have HF7 := Lib.hid hf7
          have HOK := Lib.hid (show ∀ x ∈ (L.foldl visE (sn, l.reverse)).2.reverse, ∃ u : Nat, x = u ∧ u < M from fun x hx => by
            rcases v5 x (by simpa using hx) with h | h
            · exact HQL.out x (by simpa using h)
            · exact HLO.out x h)
          have HV1 := Lib.hid v1
          clear her5 HER4 v1 v2 v3 v4 v5 v6 hfe hm2 hf7
          go_wp2
          go_roundw
          case rel => exact ⟨_, _, n', HER6.out, HV1.out, HF7.out, HOK.out, by rw [List.reverse_reverse]; exact HEN.out⟩
          case measure =>
            have := HM2.out
            rw [hwb, HFA.out]
            simpa [lenV] using this
set_option linter.unusedVariables false
set_option linter.unusedSimpArgs false
open Go.RowKit

open Classical in
noncomputable def rB (p : Pl) (a b : Nat) : Bool := decide (Rch (nextL p) a b)
theorem rB_iff {p : Pl} {a b : Nat} : rB p a b = true ↔ Rch (nextL p) a b := by simp [rB]
theorem next_nat {p : Pl} (hv : Vld p) : ∀ u, u < 2 * p.rails.length → ∀ z ∈ nextL p u, ∃ x : Nat, z = x ∧ x < 2 * p.rails.length := fun u hu z hz => by
  have := nextL_bd hv hu z hz
  exact ⟨z.toNat, by omega, by omega⟩
theorem reaches_row (B g a t : Nat) (p : Pl) (w : World) (h : Nw w B g p) (hB : B ≤ w.heap.size) (ha : a < 2 * p.rails.length) (ht : t < 2 * p.rails.length) (hne : t ≠ a) :
    Calls Try.prog 60 #[.pointer (some ⟨g, 0, none⟩), .int .i64 (a : Int), .int .i64 (t : Int)] w fun e w' => e = .returned (.bool (rB p a t)) ∧ Below w.heap.size w w' := by
  obtain ⟨n, r, h1, h2⟩ := dfs_start (g := t) ha (next_nat h.v)
  have hr : r = rB p a t := by
    rw [Bool.eq_iff_iff, h2, rB_iff]
    exact ⟨fun h => h.resolve_left hne, .inr⟩
  have := reaches_any B g n _ a t r p w rfl h hB ha ht h1
  rw [hr] at this
  exact this
noncomputable def turnB (p : Pl) (k : Nat) : Bool := rB p (2 * k) (2 * k + 1) || rB p (2 * k + 1) (2 * k)
def TurnsPost (p : Pl) (r : Int) (w : World) (e : Ending) (w' : World) : Prop :=
  ((Vld p ∧ railIn p r = true ∧ e = .returned (.tuple #[.bool (turnB p r.toNat), .int .i64 0])) ∨ ((¬ Vld p ∨ railIn p r = false) ∧ e = .returned (.tuple #[.bool false, .int .i64 2]))) ∧ Below w.heap.size w w'
set_option maxRecDepth 100000 in
set_option maxHeartbeats 1000000 in
theorem Turns_any (A A2 : Option Addr) (c c2 : Nat) (p : Pl) (r : Int) (w : World) (hP : PlAt w w.heap.size A c A2 c2 p) :
    Calls Try.prog 34 #[.agg #[.slice A p.nodes.length c, .slice A2 p.rails.length c2], .int .i64 r] w (TurnsPost p r w) := by
  have HP := Lib.hid (hP.box (.cells #[.slice A p.nodes.length c, .slice A2 p.rails.length c2] 25)); clear hP
  have HB0 := Lib.hid ((Below.refl w.heap.size w).alloc (Nat.le_refl _) (.cells #[.slice A p.nodes.length c, .slice A2 p.rails.length c2] 25))
  go_enter Try.func34, Try.ntmps34
  go_wp2_with fail
  refine (survey_any A A2 c c2 p _ HP.out).mono ?_
  rintro e w1 ⟨hb, ⟨hv, rfl⟩ | ⟨hv, g, rfl, hg, hN⟩⟩
  · have HV := Lib.hid hv; have HB := Lib.hid (HB0.out.trans (hb.mono (by simp))); clear hv hb
    go_wp2
    go_ret2
    exact ⟨.inr ⟨.inl HV.out, rfl⟩, HB.out⟩
  · have HV := Lib.hid hv; have HB := Lib.hid (HB0.out.trans (hb.mono (by simp))); have HN := Lib.hid hN; clear hv hb hN
    go_wp2_with fail
    refine (hasRail_any _ g p r _ HN.out).mono ?_
    rintro e w2 ⟨rfl, rfl⟩
    cases hr : railIn p r
    · have HR := Lib.hid hr; clear hr
      go_wp2
      go_ret2
      exact ⟨.inr ⟨.inr HR.out, rfl⟩, HB.out⟩
    · have HR := Lib.hid hr
      have hsz := HN.out.sizes
      have hr2 := of_decide_eq_true hr
      obtain ⟨k, rfl⟩ := Int.eq_ofNat_of_zero_le hr2.1
      have hk : k < p.rails.length := by omega
      clear hr hr2
      have hC1 := fun w2 hN => reaches_row _ g (2 * k) (2 * k + 1) p w2 hN (Nat.le_refl _) (by omega) (by omega) (by omega)
      have hC2 := fun w2 hN => reaches_row _ g (2 * k + 1) (2 * k) p w2 hN (Nat.le_refl _) (by omega) (by omega) (by omega)
      simp only [Int.natCast_add, Int.natCast_mul, Int.cast_ofNat_Int, Int.natCast_one] at hC1 hC2
      have HC1 := Lib.hid hC1; have HC2 := Lib.hid hC2
      have hk1 : (k : Int) ≤ 1000 := by omega
      have hk0 : (0 : Int) ≤ (k : Int) := by omega
      clear hC1 hC2
      go_wp2_with fail
      refine (HC1.out _ HN.out).mono ?_
      rintro e w3 ⟨rfl, hb3⟩
      have HB3 := Lib.hid (HB.out.trans (hb3.mono HB.out.size))
      have HN3 := Lib.hid ((HN.out.below hb3).more hb3.size)
      clear hb3
      cases h1 : rB p (2 * k) (2 * k + 1)
      · have HT := Lib.hid (show turnB p ((k : Int).toNat) = rB p (2 * k + 1) (2 * k) by unfold turnB; rw [Int.toNat_natCast, h1]; rfl)
        go_wp2_with fail
        refine (HC2.out _ HN3.out).mono ?_
        rintro e w4 ⟨rfl, hb4⟩
        have HB4 := Lib.hid (HB3.out.trans (hb4.mono HB3.out.size))
        clear hb4
        go_wp2
        go_ret2
        exact ⟨.inl ⟨HV.out, HR.out, by rw [HT.out]; rfl⟩, HB4.out⟩
      · have HT := Lib.hid (show turnB p ((k : Int).toNat) = true by unfold turnB; rw [Int.toNat_natCast, h1]; rfl)
        go_wp2
        go_ret2
        exact ⟨.inl ⟨HV.out, HR.out, by rw [HT.out]; rfl⟩, HB3.out⟩
end Go.Proofs.Ytcpanfpijljeaaa
/-! part U6: Plain: a plan turned around. -/
namespace Go.Proofs.Ytcpanfpijljeaaa
set_option linter.unusedVariables false
set_option linter.unusedSimpArgs false

def turnN (n : N) : N := ⟨n.spot, n.kind, n.ends.map opE, n.normal⟩
def turnR (r : R) : R := ⟨r.to, r.frm, r.shape.reverse, r.limit, -r.slope⟩
def turnP (p : Pl) : Pl := ⟨p.nodes.map turnN, p.rails.map turnR⟩
theorem opE_opE (e : E) : opE (opE e) = e := by obtain ⟨r, l⟩ := e; cases l <;> rfl
theorem turn_nl (p : Pl) : (turnP p).nodes.length = p.nodes.length := by simp [turnP]
theorem turn_rl (p : Pl) : (turnP p).rails.length = p.rails.length := by simp [turnP]
theorem turn_sizes (p : Pl) : sizesB (turnP p) = sizesB p := by unfold sizesB; rw [turn_nl, turn_rl]
theorem turn_small (p : Pl) : smallB (turnP p) = smallB p := by unfold smallB smallN; simp [turnP, List.all_map, Function.comp_def, turnN, turnR]
theorem turn_node (n : N) : nodeB (turnN n) = nodeB n := by
  unfold nodeB kindB normB turnN
  simp only [List.length_map]
theorem turn_spot (p : Pl) (i : Int) : spotOf (turnP p) i = spotOf p i := by
  unfold spotOf turnP
  simp only [List.getElem?_map, Option.map_map]
  rfl
theorem turn_line (p : Pl) (r : R) : lineOf (turnP p) (turnR r) = (lineOf p r).reverse := by
  unfold lineOf
  rw [turn_spot, turn_spot]
  simp [turnR]
theorem turn_railN (n : Nat) (r : R) : railN n (turnR r) = railN n r := by
  unfold railN turnR
  simp only [List.length_reverse]
  refine decide_eq_decide.2 ⟨fun h => ?_, fun h => ?_⟩ <;> (refine ⟨?_, ?_, ?_, ?_, ?_, ?_, ?_, ?_, ?_⟩ <;> omega)
theorem turn_railB (n : Nat) (r : R) : railB n (turnR r) = railB n r := by
  unfold railB
  rw [turn_railN]
  simp [turnR]
theorem turn_atZ (p : Pl) (e : E) : atZ (turnP p) (opE e) = atZ p e := by
  unfold atZ turnP opE
  cases e.last <;> simp [List.getElem?_map, Option.map_map, turnR] <;> rfl
theorem turn_flat (p : Pl) : flatE (turnP p) = (flatE p).map opE := by
  unfold flatE turnP
  rw [List.flatMap_map, List.map_flatMap]
  rfl
theorem turn_ends {p : Pl} (h : okEnds p) : okEnds (turnP p) := by
  obtain ⟨h1, h2, h3⟩ := h
  refine ⟨fun i hi e he => ?_, ?_, ?_⟩
  · have hi2 : i < p.nodes.length := by rwa [turn_nl] at hi
    have he2 : e ∈ (p.nodes[i].ends).map opE := by simpa [turnP, turnN] using he
    obtain ⟨e0, he0, rfl⟩ := List.mem_map.1 he2
    obtain ⟨a, b, c⟩ := h1 i hi2 e0 he0
    exact ⟨a, by rw [turn_rl]; exact b, by rw [turn_atZ]; exact c⟩
  · rw [turn_flat]
    unfold List.Nodup at *
    rw [List.pairwise_map]
    exact h2.imp fun {a b} hab e => hab (by rw [← opE_opE a, e, opE_opE])
  · rw [turn_flat, List.length_map, turn_rl]; exact h3
theorem far_comm (a b : S) : far a b = far b a := by unfold far; rw [sqd_comm]
theorem okD_comm (a b : S) : okD a b = okD b a := by unfold okD; rw [sqd_comm]
theorem sAt_rev (l : List S) {k : Nat} (h : k < l.length) : sAt l.reverse k = sAt l (l.length - 1 - k) := by
  unfold sAt
  rw [List.getElem?_reverse h]
theorem lenTo_rev (l : List S) : ∀ k, k ≤ l.length - 1 → lenTo l.reverse k + lenTo l (l.length - 1 - k) = lenTo l (l.length - 1) := by
  intro k
  induction k with
  | zero => intro _; simp [lenTo]
  | succ k ih =>
    intro h
    have h1 := ih (by omega)
    have e : l.length - 1 - k = (l.length - 1 - (k + 1)) + 1 := by omega
    rw [lenTo, sAt_rev l (by omega), sAt_rev l (by omega), far_comm]
    rw [e, lenTo] at h1
    rw [← e] at h1
    omega
theorem lenOf_rev (l : List S) : lenOf l.reverse = lenOf l := by
  unfold lenOf
  have := lenTo_rev l (l.length - 1) (Nat.le_refl _)
  rw [Nat.sub_self] at this
  rw [List.length_reverse]
  simpa [lenTo] using this
theorem okL_rev (l : List S) : okL l.reverse = okL l := by
  suffices h : ∀ l : List S, okL l = true → okL l.reverse = true by
    rw [Bool.eq_iff_iff]
    exact ⟨fun h1 => by have := h _ h1; rwa [List.reverse_reverse] at this, h l⟩
  intro l h
  unfold okL at *
  rw [List.all_eq_true] at *
  intro j hj
  have hj2 : j < l.length - 1 := by simpa using hj
  have := h (l.length - 1 - (j + 1)) (by simp; omega)
  rw [sAt_rev l (by omega), sAt_rev l (by omega), okD_comm]
  rwa [show l.length - 1 - (j + 1) + 1 = l.length - 1 - j by omega] at this
theorem turn_lens (p : Pl) : lensOf (turnP p) = lensOf p := by
  unfold lensOf lenZ
  show (p.rails.map turnR).map _ = _
  rw [List.map_map]
  refine List.map_congr_left fun r _ => ?_
  simp only [Function.comp]
  rw [turn_line, lenOf_rev]
theorem turn_lenAt (p : Pl) (r : Int) : lenAt (turnP p) r = lenAt p r := by unfold lenAt; rw [turn_lens]
theorem turn_vld {p : Pl} (h : Vld p) : Vld (turnP p) := by
  refine ⟨by rw [turn_sizes]; exact h.sizes, ?_, ?_, turn_ends h.ends⟩
  · have := h.nodes
    unfold turnP
    rw [List.all_map]
    rw [List.all_eq_true] at *
    intro n hn
    simp only [Function.comp, turn_node]
    exact this n hn
  · have := h.rails
    unfold railsB at *
    show (p.rails.map turnR).all _ = true
    rw [List.all_map]
    rw [List.all_eq_true] at *
    intro r hr
    have h1 := this r hr
    simp only [Function.comp]
    unfold railOk at *
    rw [turn_nl, turn_railB, turn_line, okL_rev]
    exact h1
theorem turn_allQ (p : Pl) : allQ (turnP p) = (allQ p).map fun q => (opE q.1, q.2) := by
  unfold allQ turnP
  rw [List.flatMap_map, List.map_flatMap]
  congr 1
  funext nd
  simp only [turnN, Function.comp, List.zipIdx_map]
  rfl
theorem key_cast {e : E} (h : 0 ≤ e.rail) : ((keyE e : Nat) : Int) = endNo e := by
  have h2 : 0 ≤ endNo e := by unfold endNo; split <;> omega
  unfold keyE
  omega
theorem turn_place {p : Pl} (h : okEnds p) {x : Nat} (hx : x < 2 * p.rails.length) : slAt (turnP p) (flip x) = slAt p x ∧ nodeAtZ (turnP p) (flip x : Nat) = nodeAtZ p (x : Nat) := by
  obtain ⟨e, he, rfl⟩ := key_all h hx
  have hmem := he
  rw [← allQ_fst] at he
  obtain ⟨q, hq, rfl⟩ := List.mem_map.1 he
  have hr : 0 ≤ q.1.rail := by
    obtain ⟨nd, hnd, h2⟩ := List.mem_flatMap.1 hmem
    obtain ⟨i, hi, rfl⟩ := List.getElem_of_mem hnd
    exact (h.1 i hi q.1 h2).1
  have hr2 : 0 ≤ (opE q.1).rail := hr
  have hk := key_op hr
  have n1 : ((allQ p).map fun x => keyE x.1).Nodup := by
    have := keys_nodup h
    rwa [← allQ_fst, List.map_map] at this
  have n2 : ((allQ (turnP p)).map fun x => keyE x.1).Nodup := by
    have := keys_nodup (turn_ends h)
    rwa [← allQ_fst, List.map_map] at this
  have hl1 : keyE q.1 < (slotsOf p).length := by rw [slots_len]; exact hx
  have hl2 : keyE (opE q.1) < (slotsOf (turnP p)).length := by rw [slots_len, turn_rl, hk]; exact flip_lt hx
  have g1 := fillS_get (2 * p.rails.length) _ (allQ p) rfl n1 q hq hl1
  have g2 := fillS_get (2 * (turnP p).rails.length) _ (allQ (turnP p)) rfl n2 (opE q.1, q.2) (by rw [turn_allQ]; exact List.mem_map.2 ⟨q, hq, rfl⟩) hl2
  refine ⟨?_, ?_⟩
  · have e1 : slAt p (keyE q.1) = (q.2 : Int) := by unfold slAt; rw [List.getElem?_eq_getElem hl1, Option.getD_some]; exact g1
    have e2 : slAt (turnP p) (keyE (opE q.1)) = (q.2 : Int) := by unfold slAt; rw [List.getElem?_eq_getElem hl2, Option.getD_some]; exact g2
    rw [← hk, e1, e2]
  · have e1 := key_cast hr
    have e2 := key_cast hr2
    rw [← hk, e1, e2, nodeAtZ_end _ _ hr, nodeAtZ_end _ _ hr2, turn_atZ]
theorem turn_endAt {nd : N} {s : Int} (h0 : 0 ≤ s) (h : s < nd.ends.length) : endAt (turnN nd) s = opE (endAt nd s) := by
  have hs : s.toNat < nd.ends.length := by omega
  unfold endAt turnN
  simp only [List.getElem?_map, List.getElem?_eq_getElem hs, Option.map_some, Option.getD_some]
theorem turn_leave {p : Pl} (hv : Vld p) {m : Nat} (hm : m < 2 * p.rails.length) : leaveL (turnP p) (flip m) = (leaveL p m).map fun z => ((flip z.toNat : Nat) : Int) := by
  have hx := flip_lt hm
  obtain ⟨i, hi, k, hk, _, hat, hs⟩ := slots_spec hv.ends hx
  have hl : flip m < (slotsOf p).length := by rw [slots_len]; exact hx
  obtain ⟨t1, t2⟩ := turn_place hv.ends hx
  have hl2 : flip (flip m) < (slotsOf (turnP p)).length := by rw [slots_len, turn_rl]; exact flip_lt hx
  have hi2 : i < (turnP p).nodes.length := by rw [turn_nl]; exact hi
  have hs2 : (slotsOf (turnP p))[flip (flip m)] = (k : Int) := by
    unfold slAt at t1
    rw [List.getElem?_eq_getElem hl2, List.getElem?_eq_getElem hl, Option.getD_some, Option.getD_some, hs hl] at t1
    exact t1
  rw [leaveL_eq hat hi rfl hl (hs hl), leaveL_eq (p := turnP p) (m := flip m) (nd := turnN p.nodes[i]) (t2.trans hat) hi2 (by simp [turnP]) hl2 hs2, List.map_map]
  have hnd : nodeB p.nodes[i] = true := List.all_eq_true.1 hv.nodes _ (List.getElem_mem hi)
  refine List.map_congr_left fun s hsm => ?_
  obtain ⟨s0, s1⟩ := thru_lt hnd hk s hsm
  simp only [Function.comp]
  rw [turn_endAt s0 s1]
  have hin : endAt p.nodes[i] s ∈ p.nodes[i].ends := by
    have h5 : s.toNat < p.nodes[i].ends.length := by omega
    unfold endAt
    rw [List.getElem?_eq_getElem h5, Option.getD_some]
    exact List.getElem_mem h5
  have hr := (hv.ends.1 i hi _ hin).1
  have hr2 : 0 ≤ (opE (endAt p.nodes[i] s)).rail := hr
  rw [← key_cast hr2, key_op hr]
  rfl
theorem turn_next {p : Pl} (hv : Vld p) {m : Nat} (hm : m < 2 * p.rails.length) {z : Nat} (hz : z < 2 * p.rails.length) : ((z : Nat) : Int) ∈ nextL p m ↔ ((flip z : Nat) : Int) ∈ nextL (turnP p) (flip m) := by
  unfold nextL
  rw [(List.mergeSort_perm _ _).mem_iff, (List.mergeSort_perm _ _).mem_iff, turn_leave hv hm, List.mem_map]
  constructor
  · intro h
    exact ⟨_, h, by rw [Int.toNat_natCast]⟩
  · rintro ⟨y, hy, e⟩
    have hb := leaveL_bd hv hm y hy
    have e2 : flip y.toNat = flip z := by omega
    have e3 : y.toNat = z := by rw [← flip_flip y.toNat, e2, flip_flip]
    rw [show (z : Int) = y by omega]
    exact hy
theorem turn_rch {p : Pl} (hv : Vld p) {a b : Nat} (h : Rch (nextL p) a b) : a < 2 * p.rails.length → Rch (nextL (turnP p)) (flip a) (flip b) := by
  induction h with
  | @one a b hm =>
    intro ha
    obtain ⟨u, e, hu⟩ := next_nat hv a ha _ hm
    obtain rfl : b = u := by omega
    exact .one ((turn_next hv ha hu).1 hm)
  | @more a b c hm _ ih =>
    intro ha
    obtain ⟨u, e, hu⟩ := next_nat hv a ha _ hm
    obtain rfl : b = u := by omega
    exact .more ((turn_next hv ha hu).1 hm) (ih hu)
theorem turn_rch_back {p : Pl} (hv : Vld p) {x y : Nat} (h : Rch (nextL (turnP p)) x y) : ∀ a, x = flip a → a < 2 * p.rails.length → Rch (nextL p) a (flip y) := by
  induction h with
  | @one x y hm =>
    rintro a rfl ha
    obtain ⟨u, e, hu⟩ := next_nat (turn_vld hv) (flip a) (by rw [turn_rl]; exact flip_lt ha) _ hm
    obtain rfl : y = u := by omega
    rw [turn_rl] at hu
    exact .one ((turn_next hv ha (flip_lt hu)).2 (by rw [flip_flip]; exact hm))
  | @more x y z hm _ ih =>
    rintro a rfl ha
    obtain ⟨u, e, hu⟩ := next_nat (turn_vld hv) (flip a) (by rw [turn_rl]; exact flip_lt ha) _ hm
    obtain rfl : y = u := by omega
    rw [turn_rl] at hu
    exact .more ((turn_next hv ha (flip_lt hu)).2 (by rw [flip_flip]; exact hm)) (ih (flip y) (flip_flip y).symm (flip_lt hu))
theorem turn_rB {p : Pl} (hv : Vld p) {a b : Nat} (ha : a < 2 * p.rails.length) : rB (turnP p) (flip a) (flip b) = rB p a b := by
  rw [Bool.eq_iff_iff, rB_iff, rB_iff]
  refine ⟨fun h => ?_, fun h => turn_rch hv h ha⟩
  have := turn_rch_back hv h a rfl ha
  rwa [flip_flip] at this
/-- a rail turns cars in both plans, or in none -/
theorem turn_turnB {p : Pl} (hv : Vld p) {k : Nat} (hk : k < p.rails.length) : turnB (turnP p) k = turnB p k := by
  have f0 : flip (2 * k) = 2 * k + 1 := by unfold flip; rw [if_pos (by omega)]
  have f1 : flip (2 * k + 1) = 2 * k := by unfold flip; rw [if_neg (by omega)]; omega
  unfold turnB
  rw [← turn_rB hv (show 2 * k < 2 * p.rails.length by omega), ← turn_rB hv (show 2 * k + 1 < 2 * p.rails.length by omega), f0, f1, Bool.or_comm]
end Go.Proofs.Ytcpanfpijljeaaa
/-! part U7: Plain: each label of the search is the cost of a real way. -/
namespace Go.Proofs.Ytcpanfpijljeaaa
set_option linter.unusedVariables false
set_option linter.unusedSimpArgs false

/-- a way from a move to t: its length behind the first move, and its number of moves -/
inductive Wy (ln : Int → Int) (bef : Nat → List Int) (t : Nat) : Nat → Int → Int → Prop
  | nil : Wy ln bef t t 0 0
  | cons {u w : Nat} {l m : Int} : (w : Int) ∈ bef u → Wy ln bef t u l m → Wy ln bef t w (l + ln ((u : Int) / 2)) (m + 1)
def Real (M : Nat) (ln : Int → Int) (bef : Nat → List Int) (t : Nat) (cs : List C2) : Prop := cs.length = M ∧ ∀ u, u < M → (0 ≤ (gC cs u).1 ∨ (gC cs u).1 = -1) ∧ (0 ≤ (gC cs u).1 → Wy ln bef t u (gC cs u).1 (gC cs u).2)
def Its (M : Nat) (it : List V3) : Prop := ∀ y ∈ it, (∃ v : Nat, y.v = v ∧ v < M) ∧ 0 ≤ y.l
theorem relax_real {M t u : Nat} {ln : Int → Int} {bef : Nat → List Int} {cl : List Bool} {l m : Int} (h0 : 0 ≤ l + ln ((u : Int) / 2)) (hw : Wy ln bef t u l m) :
    ∀ (L : List Int) (s : List C2 × List V3), (∀ b ∈ L, b ∈ bef u ∧ ∃ w : Nat, b = w ∧ w < M) → Real M ln bef t s.1 → Its M s.2 →
      Real M ln bef t (L.foldl (relax cl (l + ln ((u : Int) / 2), m + 1)) s).1 ∧ Its M (L.foldl (relax cl (l + ln ((u : Int) / 2), m + 1)) s).2 := by
  intro L
  induction L with
  | nil => intro s _ h1 h2; exact ⟨h1, h2⟩
  | cons b L ih =>
    intro s hL h1 h2
    rw [List.foldl_cons]
    refine ih _ (fun b hb => hL b (by simp [hb])) ?_ ?_
    · obtain ⟨hb, w, rfl, hwM⟩ := hL b (by simp)
      unfold relax
      split
      · refine ⟨by rw [List.length_set]; exact h1.1, fun x hx => ?_⟩
        rw [Int.toNat_natCast]
        rw [gC_set (by rw [h1.1]; exact hwM)]
        by_cases e : x = w
        · subst e
          rw [if_pos rfl]
          exact ⟨.inl h0, fun _ => .cons hb hw⟩
        · rw [if_neg e]
          exact h1.2 x hx
      · exact h1
    · obtain ⟨hb, w, rfl, hwM⟩ := hL b (by simp)
      unfold relax
      split
      · intro y hy
        rcases mem_putL hy with hy | rfl
        · exact h2 y hy
        · exact ⟨⟨w, rfl, hwM⟩, h0⟩
      · exact h2
theorem search_real {M t : Nat} {ln : Int → Int} {bef : Nat → List Int} {cl : List Bool} (hln : ∀ z, 0 ≤ ln z) (hbf : ∀ u, u < M → ∀ b ∈ bef u, ∃ k : Nat, b = k ∧ k < M) :
    ∀ (n : Nat) (cs : List C2) (it : List V3) (res : List C2), Real M ln bef t cs → Its M it → search ln bef cl n cs it = some res → Real M ln bef t res := by
  intro n
  induction n with
  | zero => intro cs it res _ _ h; simp [search] at h
  | succ n ih =>
    intro cs it res h1 h2 h
    cases it with
    | nil =>
      rw [search] at h
      obtain rfl : cs = res := by simpa using h
      exact h1
    | cons x r =>
      rw [search] at h
      have hrest : Its M (restL x r) := fun y hy => h2 y (mem_restL hy)
      split at h
      · cases h
      split at h
      · rename_i he
        split at h
        · cases h
        · obtain ⟨⟨v, hv, hvM⟩, hl⟩ := h2 x (by simp)
          have hx2 : x.v.toNat = v := by rw [hv]; simp
          rw [hv, costAt_nat] at he
          have hw : Wy ln bef t v x.l x.m := by
            have := (h1.2 v hvM).2 (by rw [← he]; exact hl)
            rw [← he] at this
            exact this
          rw [hx2, hv] at h
          have := relax_real (M := M) (cl := cl) (by have := hln ((v : Int) / 2); omega) hw (bef v) (cs, restL x r) (fun b hb => ⟨hb, hbf v hvM b hb⟩) h1 hrest
          exact ih _ _ _ this.1 this.2 h
      · exact ih _ _ _ h1 hrest h
theorem costs_real {M t n : Nat} {ln : Int → Int} {bef : Nat → List Int} {cl : List Bool} {res : List C2} (hcl : ∀ b, shutAt cl b = false) (hln : ∀ z, 0 ≤ ln z) (hbf : ∀ u, u < M → ∀ b ∈ bef u, ∃ k : Nat, b = k ∧ k < M) (ht : t < M)
    (h : costsL ln bef cl M t n = some res) : Real M ln bef t res := by
  unfold costsL at h
  have hc := hcl (t : Int)
  unfold shutAt at hc
  rw [Int.toNat_natCast] at hc
  rw [hc, if_neg (by simp)] at h
  have hl : t < (List.replicate M ((-1, 0) : C2)).length := by simpa using ht
  refine search_real hln hbf n _ _ res ⟨by simp, fun u hu => ?_⟩ ?_ h
  · rw [gC_set hl]
    by_cases e : u = t
    · subst e
      rw [if_pos rfl]
      exact ⟨.inl (Int.le_refl _), fun _ => .nil⟩
    · rw [if_neg e]
      have h2 : gC (List.replicate M ((-1, 0) : C2)) u = (-1, 0) := by unfold gC; rw [List.getElem?_replicate, if_pos hu]; rfl
      rw [h2]
      exact ⟨.inr rfl, fun h => absurd h (by simp)⟩
  · intro y hy
    obtain rfl : y = ⟨0, 0, t⟩ := by simpa using hy
    exact ⟨⟨t, rfl, ht⟩, Int.le_refl _⟩
/-- what is found is at most what any way costs -/
theorem fin_wy {M t : Nat} {ln : Int → Int} {bef : Nat → List Int} {cs : List C2} (h : Fin M t ln bef cs) {w : Nat} {l m : Int} (hw : Wy ln bef t w l m) : w < M → (∀ u, u < M → ∀ b ∈ bef u, ∃ k : Nat, b = k ∧ k < M) → (∀ u (b : Nat), (b : Int) ∈ bef u → b < M → u < M) → 0 ≤ (gC cs w).1 ∧ (gC cs w).1 ≤ l := by
  induction hw with
  | nil =>
    intro _ _ _
    have := h.tgt
    unfold leC at this
    simp only at this
    omega
  | @cons u w l m hb _ ih =>
    intro hwM hbf hsrc
    have huM := hsrc u w hb hwM
    obtain ⟨a1, a2⟩ := ih huM hbf hsrc
    obtain ⟨w', e, _, b1, b2⟩ := h.rel u huM a1 _ hb
    obtain rfl : w = w' := by omega
    unfold leC at b2
    simp only at b2
    exact ⟨b1, by omega⟩
/-- two searches over ways that answer to each other find the same lengths -/
theorem same_len {M t t' : Nat} {ln : Int → Int} {bef bef' : Nat → List Int} {cs cs' : List C2} {f : Nat → Nat} (h : Fin M t ln bef cs) (h' : Fin M t' ln bef' cs') (hr : Real M ln bef t cs) (hr' : Real M ln bef' t' cs')
    (hbf : ∀ u, u < M → ∀ b ∈ bef u, ∃ k : Nat, b = k ∧ k < M) (hbf' : ∀ u, u < M → ∀ b ∈ bef' u, ∃ k : Nat, b = k ∧ k < M) (hsrc : ∀ u (b : Nat), (b : Int) ∈ bef u → b < M → u < M) (hsrc' : ∀ u (b : Nat), (b : Int) ∈ bef' u → b < M → u < M)
    (hf : ∀ u, u < M → f u < M) (hto : ∀ l m u, u < M → Wy ln bef t u l m → Wy ln bef' t' (f u) l m) (hback : ∀ l m u, u < M → Wy ln bef' t' (f u) l m → Wy ln bef t u l m) {u : Nat} (hu : u < M) : (gC cs u).1 = (gC cs' (f u)).1 := by
  have a := hr.2 u hu
  have b := hr'.2 (f u) (hf u hu)
  rcases a.1 with a1 | a1 <;> rcases b.1 with b1 | b1
  · have c1 := fin_wy h' (hto _ _ u hu (a.2 a1)) (hf u hu) hbf' hsrc'
    have c2 := fin_wy h (hback _ _ u hu (b.2 b1)) hu hbf hsrc
    omega
  · have c1 := fin_wy h' (hto _ _ u hu (a.2 a1)) (hf u hu) hbf' hsrc'
    omega
  · have c2 := fin_wy h (hback _ _ u hu (b.2 b1)) hu hbf hsrc
    omega
  · omega
end Go.Proofs.Ytcpanfpijljeaaa
/-! part U8: Plain: the lengths that are found in a plan turned around. -/
namespace Go.Proofs.Ytcpanfpijljeaaa
set_option linter.unusedVariables false
set_option linter.unusedSimpArgs false

theorem in_befL {p : Pl} {k y x : Nat} : (x : Int) ∈ befL p k y ↔ x < k ∧ (y : Int) ∈ nextL p x := by
  rw [mem_nextL]
  refine ⟨fun h => ?_, fun h => mem_befL h.1 h.2⟩
  unfold befL at h
  rw [List.mem_flatMap] at h
  obtain ⟨a, ha, h⟩ := h
  obtain ⟨z, hz, e⟩ := List.mem_map.1 h
  obtain ⟨h1, h2⟩ := List.mem_filter.1 hz
  obtain rfl : a = x := by omega
  obtain rfl : z = (y : Int) := by simpa using h2
  exact ⟨List.mem_range.1 ha, h1⟩
theorem flip_half (u : Nat) : ((flip u : Nat) : Int) / 2 = ((u : Nat) : Int) / 2 := by unfold flip; split <;> omega
theorem turn_wy {p : Pl} (hv : Vld p) {M t : Nat} (hM : 2 * p.rails.length = M) {u : Nat} {l m : Int} (h : Wy (lenAt p) (befL p M) t u l m) : u < M → Wy (lenAt (turnP p)) (befL (turnP p) M) (flip t) (flip u) l m := by
  subst hM
  induction h with
  | nil => intro _; exact .nil
  | @cons u w l m hb _ ih =>
    intro hw
    obtain ⟨h1, h2⟩ := in_befL.1 hb
    obtain ⟨x, e, hx⟩ := next_nat hv w hw _ h2
    obtain rfl : u = x := by omega
    have h3 := (turn_next hv hw hx).1 h2
    have := Wy.cons (ln := lenAt (turnP p)) (bef := befL (turnP p) (2 * p.rails.length)) (t := flip t) (in_befL.2 ⟨flip_lt hw, h3⟩) (ih hx)
    rw [flip_half, turn_lenAt] at this
    exact this
theorem turn_wy_back {p : Pl} (hv : Vld p) {M t : Nat} (hM : 2 * p.rails.length = M) {x : Nat} {l m : Int} (h : Wy (lenAt (turnP p)) (befL (turnP p) M) (flip t) x l m) : ∀ u, x = flip u → u < M → Wy (lenAt p) (befL p M) t u l m := by
  subst hM
  induction h with
  | nil =>
    intro u e _
    obtain rfl : t = u := by rw [← flip_flip t, e, flip_flip]
    exact .nil
  | @cons x w l m hb _ ih =>
    rintro u rfl hu
    obtain ⟨h1, h2⟩ := in_befL.1 hb
    obtain ⟨y, e, hy⟩ := next_nat (turn_vld hv) (flip u) (by rw [turn_rl]; exact h1) _ h2
    obtain rfl : x = y := by omega
    rw [turn_rl] at hy
    have h3 := (turn_next hv hu (flip_lt hy)).2 (by rw [flip_flip]; exact h2)
    have := Wy.cons (ln := lenAt p) (bef := befL p (2 * p.rails.length)) (t := t) (in_befL.2 ⟨hu, h3⟩) (ih (flip x) (flip_flip x).symm (flip_lt hy))
    rw [flip_half, ← turn_lenAt] at this
    rw [turn_lenAt] at this ⊢
    exact this
theorem bef_nat {p : Pl} {M u : Nat} : ∀ b ∈ befL p M u, ∃ k : Nat, b = k ∧ k < M := fun b hb => by
  have hb2 := hb
  unfold befL at hb2
  rw [List.mem_flatMap] at hb2
  obtain ⟨a, ha, h⟩ := hb2
  obtain ⟨z, hz, e⟩ := List.mem_map.1 h
  exact ⟨a, e.symm, List.mem_range.1 ha⟩
theorem bef_src {p : Pl} (hv : Vld p) {M : Nat} (hM : 2 * p.rails.length = M) : ∀ u (b : Nat), (b : Int) ∈ befL p M u → b < M → u < M := fun u b h hb => by
  subst hM
  obtain ⟨_, h2⟩ := in_befL.1 h
  obtain ⟨x, e, hx⟩ := next_nat hv b hb _ h2
  omega
/-- turned around, the lengths are the same, between opposite moves -/
theorem turn_dist {p : Pl} (hv : Vld p) {M t : Nat} (hM : 2 * p.rails.length = M) {cs cs' : List C2} (h : Fin M t (lenAt p) (befL p M) cs) (h' : Fin M (flip t) (lenAt (turnP p)) (befL (turnP p) M) cs')
    (hr : Real M (lenAt p) (befL p M) t cs) (hr' : Real M (lenAt (turnP p)) (befL (turnP p) M) (flip t) cs') {u : Nat} (hu : u < M) : (gC cs u).1 = (gC cs' (flip u)).1 := by
  have hl : lenAt (turnP p) = lenAt p := funext (turn_lenAt p)
  rw [hl] at h' hr'
  refine same_len h h' hr hr' (fun u _ => bef_nat) (fun u _ => bef_nat) (bef_src hv hM) (bef_src (turn_vld hv) (by rw [turn_rl]; exact hM)) (fun u hu => by subst hM; exact flip_lt hu) (fun l m u hu hw => ?_) (fun l m u hu hw => ?_) hu
  · have := turn_wy hv hM hw hu
    rwa [hl] at this
  · exact turn_wy_back hv hM (by rw [hl]; exact hw) u rfl hu
/-- a move follows another one where their opposites do so in the plan turned around -/
theorem turn_fol {p : Pl} (hv : Vld p) {m n : E} (hm : railIn p m.rail = true) (hn : railIn p n.rail = true) : folB (turnP p) (keyE (opE m)) (endNo (opE n)) = folB p (keyE m) (endNo n) := by
  obtain ⟨_, m1, _⟩ := key_in hm
  obtain ⟨_, n1, n2⟩ := key_in hn
  rw [Bool.eq_iff_iff, folB_iff, folB_iff, (op_in hm).1, (op_in hn).2, n2]
  exact (turn_next hv m1 n1).symm
theorem turn_in (p : Pl) (r : Int) : railIn (turnP p) r = railIn p r := by unfold railIn; rw [turn_rl]
end Go.Proofs.Ytcpanfpijljeaaa
/-! part H1: Contract: turned: the nodes of a plan turned around. -/
namespace Go.Proofs.Ytcpanfpijljeaaa
set_option linter.unusedVariables false
set_option linter.unusedSimpArgs false
open Go.RowKit

/-- a node in memory, with the slice of its ends -/
structure NV where
  x : Int
  y : Int
  k : Int
  A : Option Addr
  n : Nat
  c : Nat
  r : Int
/-- a rail in memory, with the slice of its shape -/
structure RV where
  f : Int
  t : Int
  A : Option Addr
  n : Nat
  c : Nat
  l : Int
  s : Int
def NV.v (d : NV) : Value := .slice d.A d.n d.c
def RV.v (d : RV) : Value := .slice d.A d.n d.c
def fN (d : NV) : List Value := [.int .i64 d.x, .int .i64 d.y, .int .i64 d.k, .slice d.A d.n d.c, .int .i64 d.r]
def fR (d : RV) : List Value := [.int .i64 d.f, .int .i64 d.t, .slice d.A d.n d.c, .int .i64 d.l, .int .i64 d.s]
theorem fN_len (d : NV) : (fN d).length = 5 := rfl
theorem fR_len (d : RV) : (fR d).length = 5 := rfl
theorem fN_one (d : NV) : ∀ u ∈ fN d, u.oneCell' = true := by simp [fN, Value.oneCell']
theorem fR_one (d : RV) : ∀ u ∈ fR d, u.oneCell' = true := by simp [fR, Value.oneCell']
theorem info63 : (Try.prog.info? 63).map (fun i => (i.zero, i.size, i.bytes)) = some (some (.agg #[.int .i64 0, .int .i64 0, .int .i64 0, .slice none 0 0, .int .i64 0]), 5, 56) := by kernel_rfl
theorem info89h : (Try.prog.info? 89).map (fun i => (i.zero, i.size, i.bytes)) = some (some (.agg #[.int .i64 0, .bool false]), 2, 16) := by kernel_rfl
theorem info57 : (Try.prog.info? 57).map (fun i => (i.zero, i.size, i.bytes)) = some (some (.agg #[.int .i64 0, .int .i64 0, .slice none 0 0, .int .i64 0, .int .i64 0]), 5, 56) := by kernel_rfl

structure ParN (w : World) (base : Nat) (vO : Value) (d : NV) (nd : N) : Prop where
  x : d.x = nd.spot.x
  y : d.y = nd.spot.y
  k : d.k = nd.kind
  r : d.r = nd.normal
  ow : Own w base 89 2 fE d.v (nd.ends.map opE)
  ne : ∀ b, d.v.ownBlock = some b → vO.ownBlock ≠ some b
structure ParR (w : World) (base : Nat) (vO : Value) (d : RV) (rd : R) : Prop where
  f : d.f = rd.to
  t : d.t = rd.frm
  l : d.l = rd.limit
  s : d.s = -rd.slope
  ow : Own w base 59 2 fS d.v rd.shape.reverse
  ne : ∀ b, d.v.ownBlock = some b → vO.ownBlock ≠ some b

/-- the nodes that are turned so far -/
structure TN (p : Pl) (W1 wr : World) (S k : Nat) (vO : Value) (vs : List NV) : Prop where
  ko : wr.heap[S]? = some (.cells #[vO, .slice none 0 0] 25)
  ow : Own wr (S + 1) 63 5 fN vO vs
  len : vs.length = k
  par : ∀ (j : Nat) (d : NV) (nd : N), vs[j]? = some d → p.nodes[j]? = some nd → ParN wr (S + 1) vO d nd
  be : Below S W1 wr
section
variable {p : Pl} {W1 wr w' w5 : World} {S k : Nat} {vO v2 : Value} {vs : List NV} {d : NV} {nd : N}
theorem TN.lt (h : TN p W1 wr S k vO vs) : S < wr.heap.size := (Array.getElem?_eq_some_iff.1 h.ko).1
theorem TN.keep (h : TN p W1 wr S k vO vs) (hb : Below wr.heap.size wr w') : TN p W1 w' S k vO vs :=
  ⟨(hb.block S h.lt).trans h.ko, h.ow.below hb (Nat.le_refl _), h.len, fun j d nd h1 h2 => by
    have q := h.par j d nd h1 h2
    exact ⟨q.x, q.y, q.k, q.r, q.ow.below hb (Nat.le_refl _), q.ne⟩, h.be.trans (hb.mono (Nat.le_of_lt h.lt))⟩
theorem set_other {w : World} {S j : Nat} {u : Value} {b : Nat} (h : b ≠ S) : (w.setCell ⟨S, j, none⟩ u).heap[b]? = w.heap[b]? := Below.heap_setCell w ⟨S, j, none⟩ u b (by simpa using h)
theorem TN.push (h : TN p W1 w' S k vO vs) (hnd : p.nodes[k]? = some nd) (q : ParN w' (S + 1) vO d nd) (o2 : Own w5 (S + 1) 63 5 fN v2 (vs ++ [d])) (gr : w'.grownBy w5 vO.ownBlock) (at2 : v2.ownBlock = vO.ownBlock ∨ v2.ownBlock = some w'.heap.size) :
    TN p W1 (w5.setCell ⟨S, 0, none⟩ v2) S (k + 1) v2 (vs ++ [d]) := by
  have hSO : some S ≠ vO.ownBlock := fun e => by have := (h.ow.lt S e.symm).1; omega
  have g1 := (gr.block S h.lt hSO).trans h.ko
  have keepO : ∀ {α : Type} {f : α → List Value} {e : TypeId} {size : Nat} {v : Value} {l : List α}, Own w' (S + 1) e size f v l → (∀ b, v.ownBlock = some b → vO.ownBlock ≠ some b) → Own (w5.setCell ⟨S, 0, none⟩ v2) (S + 1) e size f v l := fun {α f e size v l} ho hne =>
    (ho.of_blocks fun b hb => gr.block b (ho.lt b hb).2 (fun e => hne b hb e.symm)).of_blocks fun b hb => set_other (by have := (ho.lt b hb).1; omega)
  have ne2 : ∀ {v : Value}, (∀ b, v.ownBlock = some b → vO.ownBlock ≠ some b) → (∀ b, v.ownBlock = some b → b < w'.heap.size) → ∀ b, v.ownBlock = some b → v2.ownBlock ≠ some b := fun {v} hne hlt b hb e => by
    rcases at2 with e2 | e2
    · exact hne b hb (e2 ▸ e)
    · rw [e2] at e
      have := hlt b hb
      have := Option.some.inj e
      omega
  refine ⟨?_, o2.of_blocks fun b hb => set_other (by have := (o2.lt b hb).1; omega), by simp [h.len], fun j d' nd' h1 h2 => ?_, ?_⟩
  · have := heap_set_same (i := 0) v2 g1
    simpa using this
  · by_cases hj : j < vs.length
    · rw [List.getElem?_append_left hj] at h1
      have q' := h.par j d' nd' h1 h2
      exact ⟨q'.x, q'.y, q'.k, q'.r, keepO q'.ow q'.ne, ne2 q'.ne fun b hb => (q'.ow.lt b hb).2⟩
    · have hjk : j = k := by
        have h3 := (List.getElem?_eq_some_iff.1 h1).1
        have h4 := h.len
        rw [List.length_append] at h3
        simp only [List.length_cons, List.length_nil] at h3
        omega
      subst hjk
      rw [List.getElem?_append_right (by omega), h.len, Nat.sub_self] at h1
      obtain rfl : d = d' := by simpa using h1
      obtain rfl : nd = nd' := by rw [hnd] at h2; exact Option.some.inj h2
      exact ⟨q.x, q.y, q.k, q.r, keepO q.ow q.ne, ne2 q.ne fun b hb => (q.ow.lt b hb).2⟩
  · exact (h.be.grown gr (Nat.le_of_lt h.lt) fun b hb => by have := (h.ow.lt b hb).1; omega).setCell (p := ⟨S, 0, none⟩) (Nat.le_refl _) _
end

/-- the rails that are turned so far; the nodes lie below block B2 -/
structure TR (p : Pl) (W1 W2 wr : World) (S B2 k : Nat) (vN vO : Value) (vs : List RV) : Prop where
  ko : wr.heap[S]? = some (.cells #[vN, vO] 25)
  ow : Own wr B2 57 5 fR vO vs
  len : vs.length = k
  par : ∀ (j : Nat) (d : RV) (rd : R), vs[j]? = some d → p.rails[j]? = some rd → ParR wr B2 vO d rd
  be : Below S W1 wr
  bx : ∀ b, b < B2 → b ≠ S → wr.heap[b]? = W2.heap[b]?
  sz : S < B2 ∧ B2 ≤ wr.heap.size
section
variable {p : Pl} {W1 W2 wr w' w5 : World} {S B2 k : Nat} {vN vO v2 : Value} {vs : List RV} {d : RV} {rd : R}
theorem TR.lt (h : TR p W1 W2 wr S B2 k vN vO vs) : S < wr.heap.size := Nat.lt_of_lt_of_le h.sz.1 h.sz.2
theorem TR.keep (h : TR p W1 W2 wr S B2 k vN vO vs) (hb : Below wr.heap.size wr w') : TR p W1 W2 w' S B2 k vN vO vs :=
  ⟨(hb.block S h.lt).trans h.ko, h.ow.below hb (Nat.le_refl _), h.len, fun j d nd h1 h2 => by
    have q := h.par j d nd h1 h2
    exact ⟨q.f, q.t, q.l, q.s, q.ow.below hb (Nat.le_refl _), q.ne⟩, h.be.trans (hb.mono (Nat.le_of_lt h.lt)), fun b h1 h2 => (hb.block b (Nat.lt_of_lt_of_le h1 h.sz.2)).trans (h.bx b h1 h2), h.sz.1, Nat.le_trans h.sz.2 hb.size⟩
theorem TR.push (h : TR p W1 W2 w' S B2 k vN vO vs) (hnd : p.rails[k]? = some rd) (q : ParR w' B2 vO d rd) (o2 : Own w5 B2 57 5 fR v2 (vs ++ [d])) (gr : w'.grownBy w5 vO.ownBlock) (at2 : v2.ownBlock = vO.ownBlock ∨ v2.ownBlock = some w'.heap.size) :
    TR p W1 W2 (w5.setCell ⟨S, 1, none⟩ v2) S B2 (k + 1) vN v2 (vs ++ [d]) := by
  have hSB := h.sz.1
  have hsz := h.sz.2
  have hSO : some S ≠ vO.ownBlock := fun e => by have := (h.ow.lt S e.symm).1; omega
  have g1 := (gr.block S h.lt hSO).trans h.ko
  have keepO : ∀ {α : Type} {f : α → List Value} {e : TypeId} {size : Nat} {v : Value} {l : List α}, Own w' B2 e size f v l → (∀ b, v.ownBlock = some b → vO.ownBlock ≠ some b) → Own (w5.setCell ⟨S, 1, none⟩ v2) B2 e size f v l := fun {α f e size v l} ho hne =>
    (ho.of_blocks fun b hb => gr.block b (ho.lt b hb).2 (fun e => hne b hb e.symm)).of_blocks fun b hb => set_other (by have := (ho.lt b hb).1; omega)
  have ne2 : ∀ {v : Value}, (∀ b, v.ownBlock = some b → vO.ownBlock ≠ some b) → (∀ b, v.ownBlock = some b → b < w'.heap.size) → ∀ b, v.ownBlock = some b → v2.ownBlock ≠ some b := fun {v} hne hlt b hb e => by
    rcases at2 with e2 | e2
    · exact hne b hb (e2 ▸ e)
    · rw [e2] at e
      have := hlt b hb
      have := Option.some.inj e
      omega
  refine ⟨?_, o2.of_blocks fun b hb => set_other (by have := (o2.lt b hb).1; omega), by simp [h.len], fun j d' nd' h1 h2 => ?_, ?_, fun b h1 h2 => ?_, hSB, ?_⟩
  · have := heap_set_same (i := 1) v2 g1
    simpa using this
  · by_cases hj : j < vs.length
    · rw [List.getElem?_append_left hj] at h1
      have q' := h.par j d' nd' h1 h2
      exact ⟨q'.f, q'.t, q'.l, q'.s, keepO q'.ow q'.ne, ne2 q'.ne fun b hb => (q'.ow.lt b hb).2⟩
    · have hjk : j = k := by
        have h3 := (List.getElem?_eq_some_iff.1 h1).1
        have h4 := h.len
        rw [List.length_append] at h3
        simp only [List.length_cons, List.length_nil] at h3
        omega
      subst hjk
      rw [List.getElem?_append_right (by omega), h.len, Nat.sub_self] at h1
      obtain rfl : d = d' := by simpa using h1
      obtain rfl : rd = nd' := by rw [hnd] at h2; exact Option.some.inj h2
      exact ⟨q.f, q.t, q.l, q.s, keepO q.ow q.ne, ne2 q.ne fun b hb => (q.ow.lt b hb).2⟩
  · exact (h.be.grown gr (Nat.le_of_lt h.lt) fun b hb => by have := (h.ow.lt b hb).1; omega).setCell (p := ⟨S, 1, none⟩) (Nat.le_refl _) _
  · rw [set_other h2, gr.block b (by omega) (fun e => by have := (h.ow.lt b e.symm).1; omega)]
    exact h.bx b h1 h2
  · have h2 : (w5.setCell ⟨S, 1, none⟩ v2).heap.size = w5.heap.size := by simp [World.setCell]
    rw [h2]
    exact Nat.le_trans hsz gr.size
end
/-- what is turned, as a plan in memory -/
theorem cn_of {w : World} {base : Nat} {dv : NV} {nd : N} (h1 : dv.x = nd.spot.x) (h2 : dv.y = nd.spot.y) (h3 : dv.k = nd.kind) (h4 : dv.r = nd.normal) (ho : Own w base 89 2 fE dv.v (nd.ends.map opE)) : CN w w.heap.size (turnN nd) (fN dv) := by
  obtain ⟨A, c, hv, hlc, hcm, _⟩ := ho.form
  have hsl := ho.sl fE_len hv
  unfold NV.v at hv
  injection hv with e1 e2 e3
  refine ⟨A, c, ?_, hsl, hlc, by unfold maxLen at hcm; omega⟩
  unfold fN
  rw [h1, h2, h3, h4, e1, e2, e3]
  rfl
theorem cr_of {w : World} {base : Nat} {dv : RV} {rd : R} (h1 : dv.f = rd.to) (h2 : dv.t = rd.frm) (h3 : dv.l = rd.limit) (h4 : dv.s = -rd.slope) (ho : Own w base 59 2 fS dv.v rd.shape.reverse) : CR w w.heap.size (turnR rd) (fR dv) := by
  obtain ⟨A, c, hv, hlc, hcm, _⟩ := ho.form
  have hsl := ho.sl fS_len hv
  unfold RV.v at hv
  injection hv with e1 e2 e3
  refine ⟨A, c, ?_, hsl, hlc, by unfold maxLen at hcm; omega⟩
  unfold fR
  rw [h1, h2, h3, h4, e1, e2, e3]
  rfl
theorem sl_conv {α β : Type} {w : World} {B size : Nat} {f : α → List Value} {C : β → List Value → Prop} {A : Option Addr} {vs : List α} {l : List β} (hl : vs.length = l.length) (h : Sl w B size (fun x cs => cs = f x) A vs)
    (hc : ∀ (j : Nat) (d : α) (x : β), vs[j]? = some d → l[j]? = some x → C x (f d)) : Sl w B size C A l := by
  intro hne
  have hne2 : vs ≠ [] := by rintro rfl; simp at hl; exact hne (List.eq_nil_of_length_eq_zero hl.symm)
  obtain ⟨b, off, e, hb, hh⟩ := h hne2
  refine ⟨b, off, e, hb, fun i x hx => ?_⟩
  have hi := (List.getElem?_eq_some_iff.1 hx).1
  obtain ⟨cs, rfl, h2⟩ := hh i (vs[i]'(by omega)) (List.getElem?_eq_getElem (by omega))
  exact ⟨_, hc i _ x (List.getElem?_eq_getElem (by omega)) hx, h2⟩
theorem turned_plan {p : Pl} {w : World} {b1 b2 b3 b4 : Nat} {vN vO : Value} {vsN : List NV} {vs : List RV} {B B' : Option Addr} {d d' : Nat} (hN : Own w b1 63 5 fN vN vsN) (hNl : vsN.length = p.nodes.length)
    (pN : ∀ (j : Nat) (dv : NV) (nd : N), vsN[j]? = some dv → p.nodes[j]? = some nd → dv.x = nd.spot.x ∧ dv.y = nd.spot.y ∧ dv.k = nd.kind ∧ dv.r = nd.normal ∧ Own w b2 89 2 fE dv.v (nd.ends.map opE))
    (hR : Own w b3 57 5 fR vO vs) (hRl : vs.length = p.rails.length)
    (pR : ∀ (j : Nat) (dv : RV) (rd : R), vs[j]? = some dv → p.rails[j]? = some rd → dv.f = rd.to ∧ dv.t = rd.frm ∧ dv.l = rd.limit ∧ dv.s = -rd.slope ∧ Own w b4 59 2 fS dv.v rd.shape.reverse)
    (h1 : vN = .slice B vsN.length d) (h2 : vO = .slice B' vs.length d') : PlAt w w.heap.size B d B' d' (turnP p) := by
  obtain ⟨_, _, e1, l1, m1, _⟩ := hN.form
  obtain ⟨_, _, e2, l2, m2, _⟩ := hR.form
  rw [h1] at e1
  rw [h2] at e2
  injection e1 with _ _ e1
  injection e2 with _ _ e2
  subst e1; subst e2
  have s1 := hN.sl fN_len h1
  have s2 := hR.sl fR_len h2
  refine ⟨sl_conv (by rw [hNl]; simp [turnP]) s1 fun j dv x a b => ?_, by rw [turn_nl]; omega, by unfold maxLen at m1; omega, sl_conv (by rw [hRl]; simp [turnP]) s2 fun j dv x a b => ?_, by rw [turn_rl]; omega, by unfold maxLen at m2; omega⟩
  · have hx : (p.nodes[j]?).map turnN = some x := by rw [← List.getElem?_map]; exact b
    obtain ⟨nd, hnd, rfl⟩ := Option.map_eq_some_iff.1 hx
    obtain ⟨q1, q2, q3, q4, q5⟩ := pN j dv nd a hnd
    exact cn_of q1 q2 q3 q4 q5
  · have hx : (p.rails[j]?).map turnR = some x := by rw [← List.getElem?_map]; exact b
    obtain ⟨rd, hrd, rfl⟩ := Option.map_eq_some_iff.1 hx
    obtain ⟨q1, q2, q3, q4, q5⟩ := pR j dv rd a hrd
    exact cr_of q1 q2 q3 q4 q5

section append
variable {α : Type} {f : α → List Value} {P : Program} (w : World)
/-- append of a slice that reads as m onto one of the call's own -/
theorem wp_app {o : Oper} {a : Act} {K : Act → World → Prop} {Q : Exit → Act → World → Prop} (s x : Operand) (t : TypeId)
    (ho : o.op = .call { callee := .builtin .append, args := #[s, x], argTypes := #[t, t] })
    (base : Nat) (e : TypeId) (i : TypeInfo) (z : Value) (size bytes : Nat) (ht : P.underlying t = some (.slice e)) (hi : P.info? e = some i) (hz : i.zero = some z)
    (hsize : i.size = size) (hby : i.bytes = bytes) (hzs : z.cells.size = size) (hsz : 0 < size) (hf : ∀ x, (f x).length = size) (h1 : ∀ x, ∀ u ∈ f x, u.oneCell' = true)
    (v : Value) (l : List α) (hs : a.eval s = v) (hown : Own w base e size f v l)
    (B : Nat) (A : Option Addr) (m : List α) (c : Nat) (hx : a.eval x = .slice A m.length c) (hr : Sl w B size (fun x cs => cs = f x) A m)
    (h63 : l.length + m.length ≤ maxLen) (hbytes : (l.length + m.length) * bytes ≤ 140737488355328) (hbase : base ≤ w.heap.size) (hA0 : m = [] → A = none ∨ ∃ ad, A = some ad)
    (h : ∀ v' w', Own w' base e size f v' (l ++ m) → w.grownBy w' v.ownBlock → (v'.ownBlock = v.ownBlock ∨ v'.ownBlock = some w.heap.size) → (m ≠ [] → v' ≠ .slice none 0 0) → K (a.put o.dst v') w') : o.wp P a w K Q := by
  have key : ∃ v' w', (Builtin.append_ #[t, t] o.type #[v, .slice A m.length c]).run P w = .ok v' w' ∧ Own w' base e size f v' (l ++ m) ∧ w.grownBy w' v.ownBlock ∧ (v'.ownBlock = v.ownBlock ∨ v'.ownBlock = some w.heap.size) ∧ (m ≠ [] → v' ≠ .slice none 0 0) := by
    rcases A with _ | ad
    · have hm : m = [] := by
        rcases m with _ | ⟨x, r⟩
        · rfl
        · obtain ⟨_, _, h, _⟩ := hr (by simp); cases h
      subst hm
      exact ⟨v, w, run_app_nil w base t o.type e i size ht hi v _ _ hown c, by simpa using hown, World.grownBy.refl w _, .inl rfl, fun h => absurd rfl h⟩
    · have hcells : ∀ j u, (m.flatMap f)[j]? = some u → w.cell? (ad.add j) = some u := by
        rcases m with _ | ⟨x, r⟩
        · intro j u hu; simp at hu
        · obtain ⟨b, off, h, _⟩ := hr (by simp)
          injection h with h; subst h
          exact hr.flat hf hsz rfl
      obtain ⟨v', w', hrun, h2, h3, h4, h5⟩ := run_append_own_at (P := P) w base t o.type e i z size bytes ht hi hz hsize hby hzs hsz v _ _ hown ad m.length c (m.flatMap f) (flat_len hf m) hcells (flat_one h1 m) h63 hbytes hbase
      refine ⟨v', w', hrun, ?_, h3, h5, fun hm hv => ?_⟩
      · unfold Own; rw [List.length_append, List.flatMap_append]; exact h2
      · exact hm (List.eq_nil_of_length_eq_zero (h4.1 hv).2)
  obtain ⟨v', w', hrun, h2, h3, h4, h5⟩ := key
  refine Oper.wp.eq_1 P o a w K Q ▸ ?_
  unfold execOp
  simp only [ho, resolve, invoke, builtin, Sem.run_bind, Sem.run_pure, Result.andThen_ok, List.map_toArray, List.map_cons, List.map_nil, hs, hx, hrun]
  exact h v' w' h2 h3 h4 h5
end append

/-- a list's first elements, and one more -/
theorem take_map_succ {α β : Type} (f : α → β) (l : List α) {j : Nat} (h : j < l.length) : (l.take (j + 1)).map f = (l.take j).map f ++ [f l[j]] := by
  rw [List.take_succ_eq_append_getElem h, List.map_append]; rfl
end Go.Proofs.Ytcpanfpijljeaaa
/-! part H2: Contract: turned. -/
namespace Go.Proofs.Ytcpanfpijljeaaa
set_option linter.unusedVariables false
set_option linter.unusedSimpArgs false
open Go.RowKit

set_option maxRecDepth 100000 in
set_option maxHeartbeats 8000000 in
theorem turned_any (A A2 : Option Addr) (c c2 : Nat) (p : Pl) (w : World) (hP : PlAt w w.heap.size A c A2 c2 p) (hv : Vld p) :
    Calls Try.prog 33 #[.agg #[.slice A p.nodes.length c, .slice A2 p.rails.length c2]] w fun e w' =>
      (∃ B d B2 d2, e = .returned (.agg #[.slice B p.nodes.length d, .slice B2 p.rails.length d2]) ∧ PlAt w' w'.heap.size B d B2 d2 (turnP p)) ∧ Below w.heap.size w w' := by
  have hsz := of_decide_eq_true hv.sizes
  obtain ⟨iN, hiN, hN0, hN1, hN2⟩ := info_parts info63
  obtain ⟨iE, hiE, hE0, hE1, hE2⟩ := info_parts info89h
  have hnc := hP.nc; have hnm := hP.nm; have hrc := hP.rc; have hrm := hP.rm
  obtain ⟨bn, on, _, _, hAe, hbn, hrest⟩ := hP.node (i := 0) (by omega)
  clear hrest
  subst hAe
  obtain ⟨br, orr, _, _, hAe, hbr, hrest⟩ := hP.rail (i := 0) (by omega)
  clear hrest
  subst hAe
  have HRAIL := Lib.hid (show ∀ w', Below w.heap.size w w' → ∀ k (hk : k < p.rails.length), ∃ A' c', Sl w' w.heap.size 2 CS A' p.rails[k].shape ∧ p.rails[k].shape.length ≤ c' ∧ c' ≤ 9223372036854775807 ∧
      w'.cell? ⟨br, orr + k * 5, none⟩ = some (.int .i64 p.rails[k].frm) ∧ w'.cell? ⟨br, orr + k * 5 + 1, none⟩ = some (.int .i64 p.rails[k].to) ∧
      w'.cell? ⟨br, orr + k * 5 + 2, none⟩ = some (.slice A' p.rails[k].shape.length c') ∧ w'.cell? ⟨br, orr + k * 5 + 3, none⟩ = some (.int .i64 p.rails[k].limit) ∧
      w'.cell? ⟨br, orr + k * 5 + 4, none⟩ = some (.int .i64 p.rails[k].slope) from fun w' hb k hk => by
    obtain ⟨b, off, A', c', e, hb', h1, h2, h3, r⟩ := (hP.below hb).rail hk
    obtain ⟨rfl, rfl⟩ : br = b ∧ orr = off := by simpa using e
    exact ⟨A', c', h1, h2, h3, r⟩)
  have HRB := Lib.hid (show ∀ k (hk : k < p.rails.length), p.rails[k].shape.length ≤ 30 ∧ -120 ≤ p.rails[k].slope ∧ p.rails[k].slope ≤ 120 from fun k hk => by
    have h1 := (hv.rail hk).1
    simp only [railB, railN, Bool.and_eq_true, decide_eq_true_eq] at h1
    obtain ⟨⟨g1, g2, g3, g4, g5, g6⟩, _⟩ := h1
    refine ⟨g5, ?_, ?_⟩ <;> omega)
  obtain ⟨iR, hiR, hR0, hR1, hR2⟩ := info_parts info57
  obtain ⟨iS, hiS, hS0, hS1, hS2⟩ := info_parts info59
  have HNODE := Lib.hid (show ∀ w', Below w.heap.size w w' → ∀ k (hk : k < p.nodes.length), ∃ A' c', Sl w' w.heap.size 2 CE A' p.nodes[k].ends ∧ p.nodes[k].ends.length ≤ c' ∧ c' ≤ 9223372036854775807 ∧
      w'.cell? ⟨bn, on + k * 5, none⟩ = some (.int .i64 p.nodes[k].spot.x) ∧ w'.cell? ⟨bn, on + k * 5 + 1, none⟩ = some (.int .i64 p.nodes[k].spot.y) ∧
      w'.cell? ⟨bn, on + k * 5 + 2, none⟩ = some (.int .i64 p.nodes[k].kind) ∧ w'.cell? ⟨bn, on + k * 5 + 3, none⟩ = some (.slice A' p.nodes[k].ends.length c') ∧
      w'.cell? ⟨bn, on + k * 5 + 4, none⟩ = some (.int .i64 p.nodes[k].normal) from fun w' hb k hk => by
    obtain ⟨b, off, A', c', e, hb', h1, h2, h3, r⟩ := (hP.below hb).node hk
    obtain ⟨rfl, rfl⟩ : bn = b ∧ on = off := by simpa using e
    exact ⟨A', c', h1, h2, h3, r⟩)
  have HEL := Lib.hid (show ∀ k (hk : k < p.nodes.length), p.nodes[k].ends.length ≤ 4 from fun k hk => by
    have hB := nodeB_parts (List.all_eq_true.1 hv.nodes _ (List.getElem_mem hk))
    have h5 := hB.2.2.1
    unfold endsZ at h5
    (repeat' split at h5) <;> omega)
  have HPL := Lib.hid hP
  have HV := Lib.hid hv
  have hb0 : Below w.heap.size w (((w.alloc (.cells #[.slice (some ⟨bn, on, none⟩) p.nodes.length c, .slice (some ⟨br, orr, none⟩) p.rails.length c2] 25)).alloc (.cells #[.slice none 0 0, .slice none 0 0] 25)).alloc (.cells #[.slice none 0 0, .slice none 0 0] 25)) := (((Below.refl _ w).alloc (Nat.le_refl _) _).alloc (by simp) _).alloc (by simp; omega) _
  have HB0 := Lib.hid hb0
  have hx := fun j : Nat => cell_keep1 (o := .cells #[.slice none 0 0, .slice none 0 0] 25) (cell_keep1 (o := .cells #[.slice none 0 0, .slice none 0 0] 25) (cell_new1 w #[.slice (some ⟨bn, on, none⟩) p.nodes.length c, .slice (some ⟨br, orr, none⟩) p.rails.length c2] 25 j) (by simp)) (by simp; omega)
  have HX := Lib.hid hx
  have hz3 : (((w.alloc (.cells #[.slice (some ⟨bn, on, none⟩) p.nodes.length c, .slice (some ⟨br, orr, none⟩) p.rails.length c2] 25)).alloc (.cells #[.slice none 0 0, .slice none 0 0] 25)).alloc (.cells #[.slice none 0 0, .slice none 0 0] 25)).heap.size = w.heap.size + 3 := by simp
  have hko := heap_alloc_new ((w.alloc (.cells #[.slice (some ⟨bn, on, none⟩) p.nodes.length c, .slice (some ⟨br, orr, none⟩) p.rails.length c2] 25)).alloc (.cells #[.slice none 0 0, .slice none 0 0] 25)) (.cells #[.slice none 0 0, .slice none 0 0] 25)
  have hko2 := heap_alloc_new (w.alloc (.cells #[.slice (some ⟨bn, on, none⟩) p.nodes.length c, .slice (some ⟨br, orr, none⟩) p.rails.length c2] 25)) (.cells #[.slice none 0 0, .slice none 0 0] 25)
  rw [show ((w.alloc (.cells #[.slice (some ⟨bn, on, none⟩) p.nodes.length c, .slice (some ⟨br, orr, none⟩) p.rails.length c2] 25)).alloc (.cells #[.slice none 0 0, .slice none 0 0] 25)).heap.size = w.heap.size + 2 by simp] at hko
  have HKO := Lib.hid hko
  rw [show (w.alloc (.cells #[.slice (some ⟨bn, on, none⟩) p.nodes.length c, .slice (some ⟨br, orr, none⟩) p.rails.length c2] 25)).heap.size = w.heap.size + 1 by simp] at hko2
  have HKO2 := Lib.hid ((Below.heap_alloc ((w.alloc (.cells #[.slice (some ⟨bn, on, none⟩) p.nodes.length c, .slice (some ⟨br, orr, none⟩) p.rails.length c2] 25)).alloc (.cells #[.slice none 0 0, .slice none 0 0] 25)) (.cells #[.slice none 0 0, .slice none 0 0] 25) (w.heap.size + 1) (by simp)).trans hko2)
  clear hP hv hb0 hx hko hko2
  go_enter Try.func33, Try.ntmps33
  go_wp2_with fail
  generalize (((w.alloc (.cells #[.slice (some ⟨bn, on, none⟩) p.nodes.length c, .slice (some ⟨br, orr, none⟩) p.rails.length c2] 25)).alloc (.cells #[.slice none 0 0, .slice none 0 0] 25)).alloc (.cells #[.slice none 0 0, .slice none 0 0] 25)) = W1 at *
  obtain ⟨S, hS⟩ : ∃ S, w.heap.size + 2 = S := ⟨_, rfl⟩
  have hS' : w.heap.size + 1 + 1 = S := hS
  have hSa : S < w.heap.size + 3 := by omega
  have hSb : w.heap.size + 1 < S := by omega
  simp only [hS'] at *
  clear hS hS'
  have HK := Lib.hid (show ∀ w', Below S W1 w' → w'.cell? ⟨w.heap.size, 0, none⟩ = some (.slice (some ⟨bn, on, none⟩) p.nodes.length c) ∧ w'.cell? ⟨w.heap.size, 1, none⟩ = some (.slice (some ⟨br, orr, none⟩) p.rails.length c2) from fun w' hb =>
    ⟨(hb.cell (p := ⟨w.heap.size, 0, none⟩) (by simp; omega)).trans (HX.out 0), (hb.cell (p := ⟨w.heap.size, 1, none⟩) (by simp; omega)).trans (HX.out 1)⟩)
  obtain ⟨nl, hnl⟩ : ∃ z, p.nodes.length = z := ⟨_, rfl⟩
  have HNL := Lib.hid hnl
  rw [hnl] at hnc HK ⊢
  have hnl3 : nl ≤ 300 := by omega
  obtain ⟨rl, hrl⟩ : ∃ z, p.rails.length = z := ⟨_, rfl⟩
  have HRL := Lib.hid hrl
  rw [hrl] at hrc HK ⊢
  have hrl4 : rl ≤ 400 := by omega
  clear hnl hrl
  go_loopw [4] (fun i wr => ∃ (k : Nat) (vO : Value) (vs : List NV), k ≤ nl ∧ i = .int .i64 (k : Int) ∧ TN p W1 wr S k vO vs) (fun i _ => nl - (intOf i).toNat)
  case atStart => exact ⟨0, .slice none 0 0, [], Nat.zero_le _, rfl, ⟨HKO.out, Own.nil _ _ _ _ _, rfl, (fun j d nd h => by simp at h), Below.refl _ _⟩⟩
  case round =>
    obtain ⟨k, vO, vs, hk, rfl, htn⟩ := hrel
    have HTN := Lib.hid htn
    have hlS := htn.lt
    have hbe := htn.be
    have hzr := hbe.size
    have HBE := Lib.hid hbe
    clear htn
    obtain ⟨k0, k1⟩ := HK.out wr hbe
    by_cases hlt : k < nl
    · have hlp : k < p.nodes.length := by rw [HNL.out]; exact hlt
      obtain ⟨A', c', hsl, hlc, hcm, q0, q1, q2, q3, q4⟩ := HNODE.out wr (HB0.out.trans (hbe.mono (by omega))) k hlp
      have hel := HEL.out k hlp
      have HND0 := Lib.hid (List.getElem?_eq_getElem hlp)
      obtain ⟨nd, hnd⟩ : ∃ z, p.nodes[k] = z := ⟨_, rfl⟩
      rw [hnd] at hsl hlc q0 q1 q2 q3 q4 hel HND0
      obtain ⟨⟨X, Y⟩, KD, EN, NR⟩ := nd
      simp only at hsl hlc q0 q1 q2 q3 q4 hel
      have HSL := Lib.hid hsl
      have hk0 : (0 : Int) ≤ (k : Int) := by omega
      have hk1 : (k : Int) < (nl : Int) := by omega
      obtain ⟨el, hele⟩ : ∃ z, EN.length = z := ⟨_, rfl⟩
      have HEE := Lib.hid hele
      rw [hele] at hlc q3 hel
      clear hnd hsl hbe hele
      have hbnr : bn < wr.heap.size := by omega
      go_wp2
      obtain ⟨wo, rfl⟩ : ∃ z, z = wr := ⟨_, rfl⟩
      obtain ⟨Bn, hBn⟩ : ∃ z, wo.heap.size = z := ⟨_, rfl⟩
      have hkn := heap_alloc_new wo (.cells #[.int .i64 X, .int .i64 Y, .int .i64 KD, .slice none 0 0, .int .i64 NR] 63)
      have hbA : Below wo.heap.size wo (wo.alloc (.cells #[.int .i64 X, .int .i64 Y, .int .i64 KD, .slice none 0 0, .int .i64 NR] 63)) := (Below.refl _ _).alloc (Nat.le_refl _) _
      rw [hBn] at hkn hbA hlS hzr hbnr ⊢
      have HBN := Lib.hid hBn
      have HKN := Lib.hid hkn; have HBA := Lib.hid hbA
      generalize (wo.alloc (.cells #[.int .i64 X, .int .i64 Y, .int .i64 KD, .slice none 0 0, .int .i64 NR] 63)) = W2 at *
      clear hkn hbA hBn k0 k1 q0 q1 q2 q4
      go_loopw [6] (fun i w' => ∃ (j : Nat) (vE : Value), j ≤ el ∧ i = .int .i64 (j : Int) ∧ w'.heap[Bn]? = some (.cells #[.int .i64 X, .int .i64 Y, .int .i64 KD, vE, .int .i64 NR] 63) ∧ Own w' (Bn + 1) 89 2 fE vE ((EN.take j).map opE) ∧ Below Bn wo w') (fun i _ => el - (intOf i).toNat)
      case atStart => exact ⟨0, .slice none 0 0, Nat.zero_le _, rfl, HKN.out, Own.nil _ _ _ _ _, HBA.out⟩
      case round =>
        obtain ⟨j, vE, hj, rfl, hkn, how, hb2⟩ := hrel
        have hzw : Bn ≤ wr.heap.size := by have := hb2.size; have := HBN.out; omega
        have hbnl : Bn < wr.heap.size := (Array.getElem?_eq_some_iff.1 hkn).1
        have HOW := Lib.hid how; have HB2 := Lib.hid hb2; have HKR := Lib.hid hkn
        obtain ⟨k0, k1⟩ := HK.out wr (HBE.out.trans (hb2.mono (by omega)))
        replace q3 := (hb2.cell (p := ⟨bn, on + k * 5 + 3, none⟩) hbnr).trans q3
        have m3 := cell_of_row wr Bn 3 _ 63 (0, 0) hkn
        have m0 := cell_of_row wr Bn 0 _ 63 (0, 0) hkn
        have m1 := cell_of_row wr Bn 1 _ 63 (0, 0) hkn
        have m2 := cell_of_row wr Bn 2 _ 63 (0, 0) hkn
        have m4 := cell_of_row wr Bn 4 _ 63 (0, 0) hkn
        simp only [List.getElem?_toArray, List.getElem?_cons_zero, List.getElem?_cons_succ] at m0 m1 m2 m3 m4
        clear hkn how
        by_cases hjt : j < el
        · have hje : j < EN.length := by rw [HEE.out]; exact hjt
          have hslw := ((HSL.out.more (fun _ _ h => h) (show w.heap.size ≤ Bn by omega)).below hb2)
          obtain ⟨b2, o2, e2, g2, r0, r1⟩ := end_at hslw hje
          have HTK := Lib.hid (take_map_succ opE EN hje)
          obtain ⟨⟨er, eb⟩, he⟩ : ∃ z, EN[j] = z := ⟨_, rfl⟩
          rw [he] at r0 r1 HTK
          have hj0 : (0 : Int) ≤ (j : Int) := by omega
          have hj1 : (j : Int) < (el : Int) := by omega
          subst e2
          clear he hslw hb2
          go_upto_region 11 with (fail)
          have hza : (wr.alloc (.cells #[.int .i64 er, .bool eb] 89)).heap.size = wr.heap.size + 1 := by simp
          have hca := fun i => cell_new1 wr #[.int .i64 er, .bool eb] 89 i
          have c0 := hca 0
          have c1 := hca 1
          simp only [List.getElem?_toArray, List.getElem?_cons_zero, List.getElem?_cons_succ] at c0 c1
          have hra := (Below.heap_alloc wr (.cells #[.int .i64 er, .bool eb] 89) Bn hbnl).trans HKR.out
          have hoa := HOW.out.alloc (.cells #[.int .i64 er, .bool eb] 89)
          have hba := HB2.out.alloc (by omega) (.cells #[.int .i64 er, .bool eb] 89)
          have d3 := cell_of_row _ Bn 3 _ 63 (0, 0) hra
          simp only [List.getElem?_toArray, List.getElem?_cons_zero, List.getElem?_cons_succ] at d3
          obtain ⟨Ke, hKe⟩ : ∃ z, wr.heap.size = z := ⟨_, rfl⟩
          rw [hKe] at c0 c1 hza ⊢
          generalize (wr.alloc (.cells #[.int .i64 er, .bool eb] 89)) = wa at *
          have hKe1 : Bn < Ke := by omega
          have hza1 : wa.heap.size ≤ Ke + 1 := by omega
          have hza2 : Ke + 1 ≤ wa.heap.size := by omega
          have HOA := Lib.hid hoa; have HBA2 := Lib.hid hba; have HRA := Lib.hid hra
          have HNE := Lib.hid (show some Bn ≠ vE.ownBlock from fun e => by have := (HOW.out.lt Bn e.symm).1; omega)
          have hlt4 : ((EN.take j).map opE).length ≤ 4 := by rw [List.length_map]; have := List.length_take_le j EN; omega
          clear hca hza hoa hba hra hKe r0 r1 m0 m1 m2 m3 m4 k0 k1 q3 HKR HB2 HOW
          go_wp2_with (at_builtin; go_must (refine wpList_app _ rfl (.tmp 45) (.tmp 52) _ rfl (Bn + 1) 89 iE _ 2 16 Try.underlying61 hiE hE0 hE1 hE2 rfl (by omega) fE_len fE_one vE _ rfl (HOA.out.alloc _) _ _ [(⟨er, !eb⟩ : E)] 1 rfl (Sl.new _ _ (⟨er, !eb⟩ : E) _ rfl) (by unfold maxLen; simp only [List.length_cons, List.length_nil]; omega) (by simp only [List.length_cons, List.length_nil]; omega) (by simp; omega) (fun _ => .inr ⟨_, rfl⟩) ?_); intro v2 w5 o5 gr2 at2 ne2; obtain ⟨A9, c9, hv9, _, _, _⟩ := o5.form; obtain ⟨n9, hn9⟩ : ∃ z, ((EN.take j).map opE ++ [(⟨er, !eb⟩ : E)]).length = z := ⟨_, rfl⟩; rw [hn9] at hv9; clear hn9; subst hv9; have g5 := (gr2.block Bn (by simp; omega) HNE.out).trans ((Below.heap_alloc wa (.cells #[.int .i64 er, .bool (!eb)] 89) Bn (by omega)).trans HRA.out); have m5 := cell_of_row w5 Bn 3 _ 63 (0, 0) g5; simp only [List.getElem?_toArray, List.getElem?_cons_zero, List.getElem?_cons_succ] at m5; have f5 : w5.frozen? ⟨Bn, 3, none⟩ = false := by simp [World.frozen?, g5])
          go_roundw
          case rel => exact ⟨j + 1, _, by omega, by go_num, by have := heap_set_same (i := 3) (.slice A9 n9 c9) g5; simpa using this, by rw [HTK.out]; exact o5.of_blocks fun b hb => set_other (by have := (o5.lt b hb).1; omega), (((HBA2.out.alloc (by omega) _).grown gr2 (by simp; omega) (fun b hb => by have := (HOA.out.lt b hb).1; omega)).setCell (p := ⟨Bn, 3, none⟩) (Nat.le_refl _) _)⟩
          case measure => simp [intOf]; omega
        · obtain rfl : j = el := by omega
          have hown : Own wr (Bn + 1) 89 2 fE vE (EN.map opE) := by have := HOW.out; rwa [show EN.take j = EN by rw [← HEE.out, List.take_length]] at this
          obtain ⟨AE, cE, hvE, _, _, _⟩ := hown.form
          rw [List.length_map, HEE.out] at hvE
          subst hvE
          have HON := Lib.hid hown
          have HT2 := Lib.hid (HTN.out.keep (w' := wr) (by rw [HBN.out]; exact hb2))
          have hrS := HT2.out.ko
          have s0 := cell_of_row wr S 0 _ 25 (0, 0) hrS
          simp only [List.getElem?_toArray, List.getElem?_cons_zero] at s0
          have hvl : vs.length ≤ 300 := by rw [HT2.out.len]; omega
          have hlS2 : S < wr.heap.size := HT2.out.lt
          have HNEO := Lib.hid (show some S ≠ vO.ownBlock from fun e => by have := (HTN.out.ow.lt S e.symm).1; omega)
          have HVOL := Lib.hid (show ∀ b, vO.ownBlock = some b → b < Bn from fun b hb => by have := (HTN.out.ow.lt b hb).2; rw [HBN.out] at this; exact this)
          have hal : (wr.alloc (.cells #[.int .i64 X, .int .i64 Y, .int .i64 KD, .slice AE j cE, .int .i64 NR] 63)).heap.size = wr.heap.size + 1 := by simp
          have hbal : Below wr.heap.size wr (wr.alloc (.cells #[.int .i64 X, .int .i64 Y, .int .i64 KD, .slice AE j cE, .int .i64 NR] 63)) := (Below.refl _ _).alloc (Nat.le_refl _) _
          have HT3 := Lib.hid (HT2.out.keep hbal)
          have HPAR := Lib.hid (show ParN (wr.alloc (.cells #[.int .i64 X, .int .i64 Y, .int .i64 KD, .slice AE j cE, .int .i64 NR] 63)) (S + 1) vO ⟨X, Y, KD, AE, j, cE, NR⟩ ⟨⟨X, Y⟩, KD, EN, NR⟩ from
            ⟨rfl, rfl, rfl, rfl, (HON.out.alloc _).lower (by omega), fun b hb e => by
              have h1 := (HON.out.lt b hb).1
              have h2 := HVOL.out b e
              omega⟩)
          have hjn : ¬ ((j : Nat) : Int) < ((j : Nat) : Int) := by omega
          clear hb2 hown hbal hrS
          go_wp2_with (at_builtin; go_must (refine wpList_app _ rfl (.tmp 56) (.tmp 58) _ rfl (S + 1) 63 iN _ 5 56 Try.underlying22 hiN hN0 hN1 hN2 rfl (by omega) fN_len fN_one vO _ rfl HT3.out.ow _ _ [(⟨X, Y, KD, AE, j, cE, NR⟩ : NV)] 1 rfl (Sl.new _ _ (⟨X, Y, KD, AE, j, cE, NR⟩ : NV) _ rfl) (by unfold maxLen; simp only [List.length_cons, List.length_nil]; omega) (by simp only [List.length_cons, List.length_nil]; omega) (by simp; omega) (fun _ => .inr ⟨_, rfl⟩) ?_); intro v2 w5 o5 gr2 at2 ne2; obtain ⟨A9, c9, hv9, _, _, _⟩ := o5.form; obtain ⟨n9, hn9⟩ : ∃ z, (vs ++ [(⟨X, Y, KD, AE, j, cE, NR⟩ : NV)]).length = z := ⟨_, rfl⟩; rw [hn9] at hv9; clear hn9; subst hv9; have g5 := (gr2.block S (by simp; omega) HNEO.out).trans HT3.out.ko; have m5 := cell_of_row w5 S 0 _ 25 (0, 0) g5; simp only [List.getElem?_toArray, List.getElem?_cons_zero, List.getElem?_cons_succ] at m5; have f5 : w5.frozen? ⟨S, 0, none⟩ = false := by simp [World.frozen?, g5])
          go_roundw
          case rel => exact ⟨k + 1, _, _, by omega, by go_num, HT3.out.push HND0.out HPAR.out o5 gr2 at2⟩
          case measure => simp [intOf]; omega
    · obtain rfl : k = nl := by omega
      have hkn2 : ¬ ((k : Nat) : Int) < ((k : Nat) : Int) := by omega
      obtain ⟨wo, rfl⟩ : ∃ z, z = wr := ⟨_, rfl⟩
      obtain ⟨B2, hB2⟩ : ∃ z, wo.heap.size = z := ⟨_, rfl⟩
      rw [hB2] at hzr hlS
      have HB2 := Lib.hid hB2
      obtain ⟨BN, dN, hvN, _, _, _⟩ := HTN.out.ow.form
      rw [HTN.out.len] at hvN
      subst hvN
      clear hB2
      go_wp2
      go_loopw [8] (fun i wr => ∃ (k2 : Nat) (vR : Value) (vr : List RV), k2 ≤ rl ∧ i = .int .i64 (k2 : Int) ∧ TR p W1 wo wr S B2 k2 (.slice BN k dN) vR vr) (fun i _ => rl - (intOf i).toNat)
      case atStart => exact ⟨0, .slice none 0 0, [], Nat.zero_le _, rfl, HTN.out.ko, Own.nil _ _ _ _ _, rfl, (fun j d nd h => by simp at h), HTN.out.be, (fun b _ _ => rfl), hlS, by rw [HB2.out]; exact Nat.le_refl _⟩
      case round =>
        obtain ⟨k2, vR, vr, hk2, rfl, htr⟩ := hrel
        have HTR := Lib.hid htr
        have hlS3 := htr.lt
        have hbe := htr.be
        have hzr2 := hbe.size
        have hsz2 := htr.sz.2
        have HBE2 := Lib.hid hbe
        obtain ⟨k0, k1⟩ := HK.out wr hbe
        clear htr
        by_cases hlt2 : k2 < rl
        · have hlp : k2 < p.rails.length := by rw [HRL.out]; exact hlt2
          obtain ⟨A', c', hsl, hlc, hcm, q0, q1, q2, q3, q4⟩ := HRAIL.out wr (HB0.out.trans (hbe.mono (by omega))) k2 hlp
          have hel := HRB.out k2 hlp
          have HND0 := Lib.hid (List.getElem?_eq_getElem hlp)
          obtain ⟨rd, hrd⟩ : ∃ z, p.rails[k2] = z := ⟨_, rfl⟩
          rw [hrd] at hsl hlc q0 q1 q2 q3 q4 hel HND0
          obtain ⟨FR, TT, SH, LM, SLP⟩ := rd
          simp only at hsl hlc q0 q1 q2 q3 q4 hel
          obtain ⟨hel, hs0, hs1⟩ := hel
          have HSL := Lib.hid hsl
          have hk0 : (0 : Int) ≤ (k2 : Int) := by omega
          have hk1 : (k2 : Int) < (rl : Int) := by omega
          obtain ⟨sl, hsle⟩ : ∃ z, SH.length = z := ⟨_, rfl⟩
          have HEE := Lib.hid hsle
          rw [hsle] at hlc q2 hel
          clear hrd hsl hbe hsle
          have hbrr : br < wr.heap.size := by omega
          have wn : IntKind.i64.wrap (-SLP) = -SLP := by rw [IntKind.wrap_i64]; omega
          have ws : IntKind.i64.wrap ((sl : Int) - 1) = (sl : Int) - 1 := by rw [IntKind.wrap_i64]; omega
          have hkr0 : w.heap.size < wr.heap.size + 1 := by omega
          have hbr1 : br < wr.heap.size + 1 := by omega
          go_upto_region 19 with (fail)
          obtain ⟨wp, rfl⟩ : ∃ z, z = wr := ⟨_, rfl⟩
          obtain ⟨Bn, hBn⟩ : ∃ z, wp.heap.size = z := ⟨_, rfl⟩
          have hkn := heap_alloc_new wp (.cells #[.int .i64 TT, .int .i64 FR, .slice none 0 0, .int .i64 LM, .int .i64 (-SLP)] 57)
          have hbA : Below wp.heap.size wp (wp.alloc (.cells #[.int .i64 TT, .int .i64 FR, .slice none 0 0, .int .i64 LM, .int .i64 (-SLP)] 57)) := (Below.refl _ _).alloc (Nat.le_refl _) _
          have hK1 := (hbA.cell (p := ⟨w.heap.size, 1, none⟩) (by simp; omega)).trans k1
          have hQ2 := (hbA.cell (p := ⟨br, orr + k2 * 5 + 2, none⟩) (by simp; omega)).trans q2
          rw [hBn] at hkn hbA hlS3 hzr2 hsz2 hbrr ⊢
          have HBN := Lib.hid hBn
          have HKN := Lib.hid hkn; have HBA := Lib.hid hbA
          generalize (wp.alloc (.cells #[.int .i64 TT, .int .i64 FR, .slice none 0 0, .int .i64 LM, .int .i64 (-SLP)] 57)) = W3 at *
          clear hkn hbA hBn k0 k1 q0 q1 q3 q4 wn hkr0 hbr1
          go_wp2
          clear hK1 hQ2 ws
          go_loopw [10] (fun s10 w' => ∃ (j : Nat) (z : Int) (vE : Value), j ≤ sl ∧ z = (sl : Int) - 1 - j ∧ s10 = .int .i64 z ∧ w'.heap[Bn]? = some (.cells #[.int .i64 TT, .int .i64 FR, vE, .int .i64 LM, .int .i64 (-SLP)] 57) ∧ Own w' (Bn + 1) 59 2 fS vE (SH.reverse.take j) ∧ Below Bn wp w') (fun s10 _ => (intOf s10 + 1).toNat)
          case atStart => exact ⟨0, _, .slice none 0 0, Nat.zero_le _, rfl, by simp, HKN.out, Own.nil _ _ _ _ _, HBA.out⟩
          case round =>
            obtain ⟨j, z, vE, hj, hz, rfl, hkn, how, hb2⟩ := hrel
            have hzw : Bn ≤ wr.heap.size := by have := hb2.size; have := HBN.out; omega
            have hbnl : Bn < wr.heap.size := (Array.getElem?_eq_some_iff.1 hkn).1
            have HOW := Lib.hid how; have HB2r := Lib.hid hb2; have HKR := Lib.hid hkn
            obtain ⟨k0, k1⟩ := HK.out wr (HBE2.out.trans (hb2.mono (by omega)))
            replace q2 := (hb2.cell (p := ⟨br, orr + k2 * 5 + 2, none⟩) hbrr).trans q2
            have m2 := cell_of_row wr Bn 2 _ 57 (0, 0) hkn
            have m0 := cell_of_row wr Bn 0 _ 57 (0, 0) hkn
            have m1 := cell_of_row wr Bn 1 _ 57 (0, 0) hkn
            have m3 := cell_of_row wr Bn 3 _ 57 (0, 0) hkn
            have m4 := cell_of_row wr Bn 4 _ 57 (0, 0) hkn
            simp only [List.getElem?_toArray, List.getElem?_cons_zero, List.getElem?_cons_succ] at m0 m1 m2 m3 m4
            obtain ⟨AE, cE, hvE, _, _, _⟩ := how.form
            obtain ⟨nE, hnE⟩ : ∃ z, (SH.reverse.take j).length = z := ⟨_, rfl⟩
            rw [hnE] at hvE
            have HNE2 := Lib.hid hnE
            subst hvE
            clear hkn how hnE
            by_cases hjt : j < sl
            · obtain ⟨i, rfl⟩ := Int.eq_ofNat_of_zero_le (show 0 ≤ z by omega)
              have hij : i + 1 + j = sl := by omega
              have hie : i < SH.length := by rw [HEE.out]; omega
              have hslw := ((HSL.out.more (fun _ _ h => h) (show w.heap.size ≤ Bn by omega)).below hb2)
              obtain ⟨b2, o2, e2, g2, r0, r1⟩ := spot_at hslw hie
              have HTK := Lib.hid (show SH.reverse.take (j + 1) = SH.reverse.take j ++ [SH[i]] from by
                rw [List.take_succ_eq_append_getElem (by rw [List.length_reverse, HEE.out]; exact hjt), List.getElem_reverse]
                congr 2
                simp only [HEE.out]
                congr 1
                omega)
              obtain ⟨⟨sx, sy⟩, he⟩ : ∃ z, SH[i] = z := ⟨_, rfl⟩
              rw [he] at r0 r1 HTK
              have hi0 : (0 : Int) ≤ (i : Int) := by omega
              have hi1 : (i : Int) < (sl : Int) := by omega
              have hid2 : decide ((i : Int) ≥ 0) = true := by simp
              have HZ := Lib.hid hz
              have HIJ := Lib.hid hij
              subst e2
              clear he hslw hz hij hie
              go_upto_region 22 with (fail)
              have hsl1 : Sl (wr.alloc (.cells #[.int .i64 sx, .int .i64 sy] 59)) (wr.heap.size + 1) 2 (fun x cs => cs = fS x) (some ⟨wr.heap.size, 0, none⟩) [(⟨sx, sy⟩ : Go.Proofs.Ytcpanfpijljeaaa.S)] := Sl.new wr 59 (⟨sx, sy⟩ : Go.Proofs.Ytcpanfpijljeaaa.S) _ rfl
              have HS1 := Lib.hid hsl1
              have HO1 := Lib.hid (HOW.out.alloc (.cells #[.int .i64 sx, .int .i64 sy] 59))
              have HRA := Lib.hid ((Below.heap_alloc wr (.cells #[.int .i64 sx, .int .i64 sy] 59) Bn hbnl).trans HKR.out)
              have HBW := Lib.hid ((HB2r.out.alloc hzw (.cells #[.int .i64 sx, .int .i64 sy] 59)))
              have HNE := Lib.hid (show some Bn ≠ (Value.slice AE nE cE).ownBlock from fun e => by have := (HOW.out.lt Bn e.symm).1; omega)
              have hlt4 : (SH.reverse.take j).length ≤ 30 := by have := List.length_take_le j SH.reverse; omega
              have hw01 : w.heap.size < wr.heap.size + 1 := by omega
              have hbr1 : br < wr.heap.size + 1 := by omega
              have hbn1 : Bn < wr.heap.size + 1 := by omega
              have hb21 : b2 < wr.heap.size + 1 := by omega
              clear hsl1
              go_region_law (
                rw [if_pos (by rfl)]
                refine wp_app _ (.tmp 97) (.tmp 107) _ rfl (Bn + 1) 59 iS _ 2 16 Try.underlying31 hiS hS0 hS1 hS2 rfl (by omega) fS_len fS_one (.slice AE nE cE) (SH.reverse.take j) rfl HO1.out (wr.heap.size + 1) (some ⟨wr.heap.size, 0, none⟩) [(⟨sx, sy⟩ : Go.Proofs.Ytcpanfpijljeaaa.S)] 1 rfl HS1.out (by unfold maxLen; simp only [List.length_cons, List.length_nil]; omega) (by simp only [List.length_cons, List.length_nil]; omega) (by simp; omega) (fun _ => .inr ⟨_, rfl⟩) ?_
                intro v2 w5 o5 gr2 at2 ne2
                obtain ⟨A9, c9, hv9, _, _, _⟩ := o5.form
                obtain ⟨n9, hn9⟩ : ∃ z, (SH.reverse.take j ++ [(⟨sx, sy⟩ : Go.Proofs.Ytcpanfpijljeaaa.S)]).length = z := ⟨_, rfl⟩
                rw [hn9] at hv9
                clear hn9
                subst hv9
                have g5 := (gr2.block Bn (by simp; omega) HNE.out).trans HRA.out
                have m5 := cell_of_row w5 Bn 2 _ 57 (0, 0) g5
                simp only [List.getElem?_toArray, List.getElem?_cons_zero, List.getElem?_cons_succ] at m5
                have f5 : w5.frozen? ⟨Bn, 2, none⟩ = false := by simp [World.frozen?, g5]
                have HPU := Lib.hid (And.intro o5 (And.intro gr2 g5))
                clear o5 gr2 at2 ne2 g5)
              all_goals
                have ws2 : IntKind.i64.wrap ((i : Int) - 1) = (i : Int) - 1 := by rw [IntKind.wrap_i64]; omega
                clear m5 f5 k0 k1 q2 r0 r1 m0 m1 m2 m3 m4
                go_wp2_with fail
                go_roundw
                case rel => exact ⟨j + 1, (i : Int) - 1, _, by omega, by have := HZ.out; omega, rfl, by have := heap_set_same (i := 2) (.slice A9 n9 c9) HPU.out.2.2; simpa using this, by rw [HTK.out]; exact HPU.out.1.of_blocks fun b hb => set_other (by have := (HPU.out.1.lt b hb).1; omega), (((HBW.out.drew.grown HPU.out.2.1 (by simp; omega) (fun b hb => by have := (HOW.out.lt b hb).1; omega)).setCell (p := ⟨Bn, 2, none⟩) (Nat.le_refl _) _))⟩
                case measure => simp [intOf] <;> omega
            · obtain rfl : j = sl := by omega
              have hzn : z = -1 := by omega
              subst hzn
              have hown : Own wr (Bn + 1) 59 2 fS (.slice AE nE cE) SH.reverse := by have := HOW.out; rwa [show SH.reverse.take j = SH.reverse by rw [← HEE.out, ← List.length_reverse, List.take_length]] at this
              have HON := Lib.hid hown
              have HT2 := Lib.hid (HTR.out.keep (w' := wr) (by rw [HBN.out]; exact hb2))
              have hrS := HT2.out.ko
              have s1 := cell_of_row wr S 1 _ 25 (0, 0) hrS
              have s0 := cell_of_row wr S 0 _ 25 (0, 0) hrS
              simp only [List.getElem?_toArray, List.getElem?_cons_zero, List.getElem?_cons_succ] at s0 s1
              have hvl : vr.length ≤ 400 := by rw [HT2.out.len]; omega
              have hlS2 : S < wr.heap.size := HT2.out.lt
              have hSB2 := HT2.out.sz.1
              have hB2w := HT2.out.sz.2
              have HNEO := Lib.hid (show some S ≠ vR.ownBlock from fun e => by have := (HT2.out.ow.lt S e.symm).1; omega)
              have HVOL := Lib.hid (show ∀ b, vR.ownBlock = some b → b < Bn from fun b hb => by have := (HTR.out.ow.lt b hb).2; rw [HBN.out] at this; exact this)
              have hbal : Below wr.heap.size wr (wr.alloc (.cells #[.int .i64 TT, .int .i64 FR, .slice AE nE cE, .int .i64 LM, .int .i64 (-SLP)] 57)) := (Below.refl _ _).alloc (Nat.le_refl _) _
              have HT3 := Lib.hid (HT2.out.keep hbal)
              have HPAR := Lib.hid (show ParR (wr.alloc (.cells #[.int .i64 TT, .int .i64 FR, .slice AE nE cE, .int .i64 LM, .int .i64 (-SLP)] 57)) B2 vR ⟨TT, FR, AE, nE, cE, LM, -SLP⟩ ⟨FR, TT, SH, LM, SLP⟩ from
                ⟨rfl, rfl, rfl, rfl, (HON.out.alloc _).lower (by have := HTR.out.sz.2; have := HBN.out; omega), fun b hb e => by
                  have h1 := (HON.out.lt b hb).1
                  have h2 := HVOL.out b e
                  omega⟩)
              have hzd : decide ((-1 : Int) ≥ 0) = false := by simp
              clear hb2 hown hbal hrS hz
              go_wp2_with (at_builtin; go_must (refine wpList_app _ rfl (.tmp 111) (.tmp 113) _ rfl B2 57 iR _ 5 56 Try.underlying23 hiR hR0 hR1 hR2 rfl (by omega) fR_len fR_one vR _ rfl HT3.out.ow _ _ [(⟨TT, FR, AE, nE, cE, LM, -SLP⟩ : RV)] 1 rfl (Sl.new _ _ (⟨TT, FR, AE, nE, cE, LM, -SLP⟩ : RV) _ rfl) (by unfold maxLen; simp only [List.length_cons, List.length_nil]; omega) (by simp only [List.length_cons, List.length_nil]; omega) (by simp; omega) (fun _ => .inr ⟨_, rfl⟩) ?_); intro v2 w5 o5 gr2 at2 ne2; obtain ⟨A9, c9, hv9, _, _, _⟩ := o5.form; obtain ⟨n9, hn9⟩ : ∃ z, (vr ++ [(⟨TT, FR, AE, nE, cE, LM, -SLP⟩ : RV)]).length = z := ⟨_, rfl⟩; rw [hn9] at hv9; clear hn9; subst hv9; have g5 := (gr2.block S (by simp; omega) HNEO.out).trans HT3.out.ko; have m5 := cell_of_row w5 S 1 _ 25 (0, 0) g5; simp only [List.getElem?_toArray, List.getElem?_cons_zero, List.getElem?_cons_succ] at m5; have f5 : w5.frozen? ⟨S, 1, none⟩ = false := by simp [World.frozen?, g5])
              go_roundw
              case rel => exact ⟨k2 + 1, _, _, by omega, by go_num, HT3.out.push HND0.out HPAR.out o5 gr2 at2⟩
              case measure => simp [intOf]; omega
        · obtain rfl : k2 = rl := by omega
          have hrn : ¬ ((k2 : Nat) : Int) < ((k2 : Nat) : Int) := by omega
          have hrS := HTR.out.ko
          have s1 := cell_of_row wr S 1 _ 25 (0, 0) hrS
          have s0 := cell_of_row wr S 0 _ 25 (0, 0) hrS
          have hr2 := (hbe.block (w.heap.size + 1) (by omega)).trans HKO2.out
          have u0 := cell_of_row wr (w.heap.size + 1) 0 _ 25 (0, 0) hr2
          have u1 := cell_of_row wr (w.heap.size + 1) 1 _ 25 (0, 0) hr2
          simp only [List.getElem?_toArray, List.getElem?_cons_zero, List.getElem?_cons_succ] at s0 s1 u0 u1
          have uf0 : wr.frozen? ⟨w.heap.size + 1, 0, none⟩ = false := by simp [World.frozen?, hr2]
          have uf1 : wr.frozen? ⟨w.heap.size + 1, 1, none⟩ = false := by simp [World.frozen?, hr2]
          obtain ⟨BR, dR, hvR, _, _, _⟩ := HTR.out.ow.form
          rw [HTR.out.len] at hvR
          subst hvR
          have h9 := heap_set_same (i := 1) (.slice BR k2 dR) (heap_set_same (i := 0) (.slice BN k dN) hr2)
          simp only [List.setIfInBounds_toArray, List.set_cons_zero, List.set_cons_succ] at h9
          have HR9 := Lib.hid h9
          have HB9 := Lib.hid (show Below w.heap.size W1 ((wr.setCell ⟨w.heap.size + 1, 0, none⟩ (.slice BN k dN)).setCell ⟨w.heap.size + 1, 1, none⟩ (.slice BR k2 dR)) from ((hbe.mono (by omega)).setCell (p := ⟨w.heap.size + 1, 0, none⟩) (by simp) _).setCell (p := ⟨w.heap.size + 1, 1, none⟩) (by simp) _)
          have HPL9 := Lib.hid (show PlAt ((wr.setCell ⟨w.heap.size + 1, 0, none⟩ (.slice BN k dN)).setCell ⟨w.heap.size + 1, 1, none⟩ (.slice BR k2 dR)) ((wr.setCell ⟨w.heap.size + 1, 0, none⟩ (.slice BN k dN)).setCell ⟨w.heap.size + 1, 1, none⟩ (.slice BR k2 dR)).heap.size BN dN BR dR (turnP p) from by
            have key : ∀ {α : Type} {f : α → List Value} {e : TypeId} {size base : Nat} {v : Value} {l : List α}, S + 1 ≤ base → Own wr base e size f v l → Own ((wr.setCell ⟨w.heap.size + 1, 0, none⟩ (.slice BN k dN)).setCell ⟨w.heap.size + 1, 1, none⟩ (.slice BR k2 dR)) base e size f v l := fun {α f e size base v l} hb ho =>
              ho.of_blocks fun b hbb => (set_other (by have := (ho.lt b hbb).1; omega)).trans (set_other (by have := (ho.lt b hbb).1; omega))
            have up : ∀ {α : Type} {f : α → List Value} {e : TypeId} {size : Nat} {v : Value} {l : List α}, Own wo (S + 1) e size f v l → Own wr (S + 1) e size f v l := fun {α f e size v l} ho =>
              ho.of_blocks fun b hbb => HTR.out.bx b (by have := (ho.lt b hbb).2; have := HB2.out; omega) (by have := (ho.lt b hbb).1; omega)
            have hB2S : S + 1 ≤ B2 := HTR.out.sz.1
            refine turned_plan (b2 := S + 1) (b4 := B2) (key (Nat.le_refl _) (up HTN.out.ow)) (by rw [HTN.out.len, HNL.out]) (fun j dv nd h1 h2 => ?_) (key hB2S HTR.out.ow) (by rw [HTR.out.len, HRL.out]) (fun j dv rd h1 h2 => ?_) (by rw [HTN.out.len]) (by rw [HTR.out.len])
            · have q := HTN.out.par j dv nd h1 h2
              exact ⟨q.x, q.y, q.k, q.r, key (Nat.le_refl _) (up q.ow)⟩
            · have q := HTR.out.par j dv rd h1 h2
              exact ⟨q.f, q.t, q.l, q.s, key hB2S q.ow⟩)
          clear hrS hr2 hbe h9
          go_wp2_with fail
          obtain ⟨w9, hw9⟩ : ∃ z, (wr.setCell ⟨w.heap.size + 1, 0, none⟩ (.slice BN k dN)).setCell ⟨w.heap.size + 1, 1, none⟩ (.slice BR k2 dR) = z := ⟨_, rfl⟩
          rw [hw9] at HR9 HB9 HPL9 ⊢
          clear hw9
          have e0 := cell_of_row w9 (w.heap.size + 1) 0 _ 25 (0, 0) HR9.out
          have e1 := cell_of_row w9 (w.heap.size + 1) 1 _ 25 (0, 0) HR9.out
          simp only [List.getElem?_toArray, List.getElem?_cons_zero, List.getElem?_cons_succ] at e0 e1
          refine bodyPost_ret (v := .agg #[.slice BN k dN, .slice BR k2 dR]) (by simp [results, Try.results33, go_sem, e0, e1]) rfl ?_
          exact ⟨⟨BN, dN, BR, dR, by rw [HNL.out, HRL.out], HPL9.out⟩, HB0.out.trans HB9.out⟩
end Go.Proofs.Ytcpanfpijljeaaa
/-! part H4: TrackTurned in general. -/
namespace Go.Proofs.Ytcpanfpijljeaaa
set_option linter.unusedVariables false
set_option linter.unusedSimpArgs false
open Go.RowKit

theorem endNo_moveT {x : Int} : endNo (moveE x) = x := by
  unfold endNo moveE
  simp only [decide_eq_true_eq]
  split <;> omega
theorem keyE_moveT (k : Nat) : keyE (moveE (k : Int)) = k := by
  unfold keyE; rw [endNo_moveT]; simp
theorem moveE_inT {p : Pl} {k : Nat} (h : k < 2 * p.rails.length) : railIn p (moveE (k : Int)).rail = true :=
  show decide (0 ≤ (k : Int) / 2 ∧ (k : Int) / 2 < p.rails.length) = true from decide_eq_true (by omega)
theorem costs_someT {p : Pl} (hv : Vld p) (hs : smallB p = true) {M t : Nat} (hM : 2 * p.rails.length = M) (ht : t < M) :
    ∃ n res, costsL (lenAt p) (befL p (2 * p.rails.length)) (List.replicate (2 * p.rails.length) false) (2 * p.rails.length) t n = some res ∧ Fin M t (lenAt p) (befL p M) res ∧ Real M (lenAt p) (befL p M) t res := by
  have h14 := small_rails hv hs
  rw [hM]
  have hM28 : M ≤ 28 := by omega
  have hmm : M * (2 * M) ≤ 28 * 56 := Nat.mul_le_mul hM28 (by omega)
  have hcl : ∀ b, shutAt (List.replicate M false) b = false := fun b => by
    unfold shutAt
    rw [List.getD_eq_getElem?_getD, List.getElem?_replicate]
    split <;> rfl
  obtain ⟨n, res, h1, h2⟩ := costs_end (D := 2 * M) (Wm := 1107296256) hcl (fun z => lenAt_bd hv z) (fun u _ => ⟨befL_len p u M, befL_bd⟩) (by omega) (by omega) (by omega) ht
  exact ⟨n, res, h1, h2, costs_real hcl (fun z => (lenAt_bd hv z).1) (fun u _ => befL_bd) ht h1⟩

/-- a plan, two moves, and the plan turned around at block Kq, in a later world -/
structure TT (w wr : World) (K Kq : Nat) (A : Option Addr) (c : Nat) (A2 : Option Addr) (c2 : Nat) (p : Pl) (m n : E) (B : Option Addr) (d : Nat) (B2 : Option Addr) (d2 : Nat) : Prop where
  g : G3st w wr K A c A2 c2 p m n
  q0 : wr.cell? ⟨Kq, 0, none⟩ = some (.slice B p.nodes.length d)
  q1 : wr.cell? ⟨Kq, 1, none⟩ = some (.slice B2 p.rails.length d2)
  ql : PlAt wr wr.heap.size B d B2 d2 (turnP p)
  qt : Kq < wr.heap.size
theorem TT.next {w wr w' : World} {K Kq c c2 d d2 : Nat} {A A2 B B2 : Option Addr} {p : Pl} {m n : E} (h : TT w wr K Kq A c A2 c2 p m n B d B2 d2) (hb : Below wr.heap.size wr w') : TT w w' K Kq A c A2 c2 p m n B d B2 d2 :=
  ⟨h.g.next hb, (hb.cell (p := ⟨Kq, 0, none⟩) h.qt).trans h.q0, (hb.cell (p := ⟨Kq, 1, none⟩) h.qt).trans h.q1, (h.ql.below hb).more hb.size, Nat.lt_of_lt_of_le h.qt hb.size⟩
/-- what the walks load -/
def ST (K Kq : Nat) (m n : E) (B : Option Addr) (a d : Nat) (B2 : Option Addr) (a2 d2 : Nat) (w' : World) : Prop :=
  w'.cell? ⟨K + 1, 0, none⟩ = some (.int .i64 m.rail) ∧ w'.cell? ⟨K + 1, 1, none⟩ = some (.bool m.last) ∧ w'.cell? ⟨K + 1 + 1, 0, none⟩ = some (.int .i64 n.rail) ∧ w'.cell? ⟨K + 1 + 1, 1, none⟩ = some (.bool n.last) ∧
  w'.cell? ⟨Kq, 0, none⟩ = some (.slice B a d) ∧ w'.cell? ⟨Kq, 1, none⟩ = some (.slice B2 a2 d2)
theorem TT.st {w wr : World} {K Kq c c2 d d2 : Nat} {A A2 B B2 : Option Addr} {p : Pl} {m n : E} (h : TT w wr K Kq A c A2 c2 p m n B d B2 d2) : ST K Kq m n B p.nodes.length d B2 p.rails.length d2 wr :=
  ⟨h.g.m0, h.g.m1, h.g.n0, h.g.n1, h.q0, h.q1⟩

section
variable (A A2 : Option Addr) (c c2 : Nat) (p : Pl) (m n : E) (w : World)
def TurnedC : Prop := Calls Try.prog 8 #[.agg #[.slice A p.nodes.length c, .slice A2 p.rails.length c2], .agg #[.int .i64 m.rail, .bool m.last], .agg #[.int .i64 n.rail, .bool n.last]] w fun e w' => e = .returned (.bool true) ∧ Below w.heap.size w w'

set_option maxRecDepth 100000 in
set_option maxHeartbeats 1000000 in
theorem Turned_not (hP : PlAt w w.heap.size A c A2 c2 p)
    (hF : ∀ w, PlAt w w.heap.size A c A2 c2 p → Calls Try.prog 18 #[.agg #[.slice A p.nodes.length c, .slice A2 p.rails.length c2], .agg #[.int .i64 m.rail, .bool m.last], .agg #[.int .i64 n.rail, .bool n.last]] w fun e w' => e = .returned (.bool false) ∧ Below w.heap.size w w') : TurnedC A A2 c c2 p m n w := by
  have H1 := Lib.hid (G3st.start m n hP)
  have HF := Lib.hid hF
  clear hP hF
  unfold TurnedC
  go_enter Try.func8, Try.ntmps8
  go_wp2_with fail
  refine (HF.out _ H1.out.pl).mono ?_
  rintro e w2 ⟨rfl, hb2⟩
  have H2 := Lib.hid (H1.out.next hb2)
  clear hb2 H1
  go_wp2_with fail
  refine (known_any _).mono ?_
  rintro e w3 ⟨rfl, hb3⟩
  have H3 := Lib.hid (H2.out.next hb3)
  clear hb3 H2
  go_wp2
  go_ret
  exact ⟨rfl, H3.out.be⟩

set_option maxRecDepth 100000 in
set_option maxHeartbeats 4000000 in
theorem Turned_in (hP : PlAt w w.heap.size A c A2 c2 p) (hs : smallB p = true) (hv : Vld p) (hm : railIn p m.rail = true) (hn : railIn p n.rail = true)
    (hF : ∀ w, PlAt w w.heap.size A c A2 c2 p → Calls Try.prog 18 #[.agg #[.slice A p.nodes.length c, .slice A2 p.rails.length c2], .agg #[.int .i64 m.rail, .bool m.last], .agg #[.int .i64 n.rail, .bool n.last]] w fun e w' => e = .returned (.bool true) ∧ Below w.heap.size w w') : TurnedC A A2 c c2 p m n w := by
  have hvq := turn_vld hv
  have hsq : smallB (turnP p) = true := by rw [turn_small]; exact hs
  have hmq : railIn (turnP p) m.rail = true := by rw [turn_in]; exact hm
  have hnq : railIn (turnP p) n.rail = true := by rw [turn_in]; exact hn
  have hr14 := small_rails hv hs
  obtain ⟨M, hM⟩ : ∃ x, 2 * p.rails.length = x := ⟨_, rfl⟩
  have hMq : 2 * (turnP p).rails.length = M := by rw [turn_rl]; exact hM
  have km := key_in hm
  have hkM : keyE m < M := by omega
  have hko := op_in hm
  have hfM : flip (keyE m) < M := by rw [← hM]; exact flip_lt km.2.1
  obtain ⟨n1, res1, hc1, hF1, hR1⟩ := costs_someT hv hs hM hkM
  obtain ⟨n2, res2, hc2, hF2, hR2⟩ := costs_someT hvq hsq hMq hfM
  have hsame : ∀ u, u < M → (gC res1 u).1 = (gC res2 (flip u)).1 := fun u hu => turn_dist hv hM hF1 hF2 hR1 hR2 hu
  obtain ⟨D1, hD1⟩ : ∃ D, res1.map (·.1) = D := ⟨_, rfl⟩
  obtain ⟨D2, hD2⟩ : ∃ D, res2.map (·.1) = D := ⟨_, rfl⟩
  have hl1 : D1.length = M := by rw [← hD1, List.length_map, hF1.len]
  have hl2 : D2.length = M := by rw [← hD2, List.length_map, hF2.len]
  have hrow : ∀ x, x < M → ∃ v : Int, D1[x]? = some v ∧ D2[flip x]? = some v := fun x hx => by
    have hfx : flip x < M := by rw [← hM]; exact flip_lt (by omega)
    have e1 : x < res1.length := by rw [hF1.len]; exact hx
    have e2 : flip x < res2.length := by rw [hF2.len]; exact hfx
    have h := hsame x hx
    refine ⟨(gC res1 x).1, ?_, ?_⟩
    · rw [← hD1, List.getElem?_map, List.getElem?_eq_getElem e1]; simp [gC, e1]
    · rw [← hD2, List.getElem?_map, List.getElem?_eq_getElem e2, h]; simp [gC, e2]
  have HROW := Lib.hid (show ∀ (x : Nat) (ra rb : Nat) (w' : World), x < M → IRow w' ra D1 → IRow w' rb D2 → ∃ v : Int, w'.cell? ⟨ra, x, none⟩ = some (.int .i64 v) ∧ w'.cell? ⟨rb, flip x, none⟩ = some (.int .i64 v) from fun x ra rb w' hx h1 h2 => by
    obtain ⟨v, e1, e2⟩ := hrow x hx
    obtain ⟨g1, e1⟩ := List.getElem?_eq_some_iff.1 e1
    obtain ⟨g2, e2⟩ := List.getElem?_eq_some_iff.1 e2
    exact ⟨v, by rw [h1.cell g1, e1], by rw [h2.cell g2, e2]⟩)
  obtain ⟨is, his⟩ : ∃ x, folB p (keyE m) (endNo n) = x := ⟨_, rfl⟩
  obtain ⟨t, ht⟩ : ∃ x, turnB p m.rail.toNat = x := ⟨_, rfl⟩
  have htq : turnB (turnP p) m.rail.toNat = t := by rw [← ht]; exact turn_turnB hv (by have := of_decide_eq_true hm; omega)
  have hPq : ∀ {w' : World} {B B2 : Option Addr} {d d2 : Nat}, PlAt w' w'.heap.size B d B2 d2 (turnP p) → PlAt w' w'.heap.size B d B2 d2 (turnP p) := fun h => h
  have C33 := Lib.hid (show ∀ w, PlAt w w.heap.size A c A2 c2 p → Calls Try.prog 33 #[.agg #[.slice A p.nodes.length c, .slice A2 p.rails.length c2]] w fun e w' => (∃ B d B2 d2, e = .returned (.agg #[.slice B p.nodes.length d, .slice B2 p.rails.length d2]) ∧ PlAt w' w'.heap.size B d B2 d2 (turnP p)) ∧ Below w.heap.size w w' from fun w hP => turned_any A A2 c c2 p w hP hv)
  have C20 := Lib.hid (show ∀ w, PlAt w w.heap.size A c A2 c2 p → Calls Try.prog 20 #[.agg #[.slice A p.nodes.length c, .slice A2 p.rails.length c2], .agg #[.int .i64 m.rail, .bool m.last], .agg #[.int .i64 n.rail, .bool n.last]] w fun e w' => e = .returned (.tuple #[.bool is, .int .i64 0]) ∧ Below w.heap.size w w' from fun w hP => by
    have := Follows_in A A2 c c2 p m n w hP hv hm hn
    rw [his] at this; exact this)
  have C20q := Lib.hid (show ∀ (B B2 : Option Addr) (d d2 : Nat) (w : World), PlAt w w.heap.size B d B2 d2 (turnP p) → Calls Try.prog 20 #[.agg #[.slice B p.nodes.length d, .slice B2 p.rails.length d2], .agg #[.int .i64 m.rail, .bool !m.last], .agg #[.int .i64 n.rail, .bool !n.last]] w fun e w' => e = .returned (.tuple #[.bool is, .int .i64 0]) ∧ Below w.heap.size w w' from fun B B2 d d2 w hP => by
    have := Follows_in B B2 d d2 (turnP p) (opE m) (opE n) w hP hvq hmq hnq
    rw [turn_fol hv hm hn, his, turn_nl, turn_rl] at this; exact this)
  have C28 := Lib.hid (show ∀ w, PlAt w w.heap.size A c A2 c2 p → Calls Try.prog 28 #[.agg #[.slice A p.nodes.length c, .slice A2 p.rails.length c2], .agg #[.int .i64 m.rail, .bool m.last]] w fun e w' => (∃ rb, e = .returned (.tuple #[.slice (some ⟨rb, 0, none⟩) M M, .int .i64 0]) ∧ IRow w' rb D1) ∧ Below w.heap.size w w' from fun w hP =>
    (Distances_any A A2 c c2 n1 res1 p m w hP (fun _ _ => hc1)).mono fun e w' h => by
      obtain ⟨⟨_, _, rb, h1, h2, _⟩ | ⟨h1 | h1, _⟩, hb⟩ := h
      · rw [hM] at h1; rw [hD1] at h2
        exact ⟨⟨rb, h1, h2⟩, hb⟩
      · exact absurd hv h1
      · rw [hm] at h1; cases h1)
  have C28q := Lib.hid (show ∀ (B B2 : Option Addr) (d d2 : Nat) (w : World), PlAt w w.heap.size B d B2 d2 (turnP p) → Calls Try.prog 28 #[.agg #[.slice B p.nodes.length d, .slice B2 p.rails.length d2], .agg #[.int .i64 m.rail, .bool !m.last]] w fun e w' => (∃ rb, e = .returned (.tuple #[.slice (some ⟨rb, 0, none⟩) M M, .int .i64 0]) ∧ IRow w' rb D2) ∧ Below w.heap.size w w' from fun B B2 d d2 w hP => by
    have := Distances_any B B2 d d2 n2 res2 (turnP p) (opE m) w hP (fun _ _ => by rw [hko.1]; exact hc2)
    rw [turn_nl, turn_rl] at this
    refine this.mono fun e w' h => ?_
    obtain ⟨⟨_, _, rb, h1, h2, _⟩ | ⟨h1 | h1, _⟩, hb⟩ := h
    · rw [hMq] at h1; rw [hD2] at h2
      exact ⟨⟨rb, h1, h2⟩, hb⟩
    · exact absurd hvq h1
    · have h1' : railIn (turnP p) m.rail = false := h1
      rw [hmq] at h1'; cases h1')
  have C34 := Lib.hid (show ∀ w, PlAt w w.heap.size A c A2 c2 p → Calls Try.prog 34 #[.agg #[.slice A p.nodes.length c, .slice A2 p.rails.length c2], .int .i64 m.rail] w fun e w' => e = .returned (.tuple #[.bool t, .int .i64 0]) ∧ Below w.heap.size w w' from fun w hP =>
    (Turns_any A A2 c c2 p m.rail w hP).mono fun e w' h => by
      obtain ⟨⟨_, _, h1⟩ | ⟨h1 | h1, _⟩, hb⟩ := h
      · rw [ht] at h1; exact ⟨h1, hb⟩
      · exact absurd hv h1
      · rw [hm] at h1; cases h1)
  have C34q := Lib.hid (show ∀ (B B2 : Option Addr) (d d2 : Nat) (w : World), PlAt w w.heap.size B d B2 d2 (turnP p) → Calls Try.prog 34 #[.agg #[.slice B p.nodes.length d, .slice B2 p.rails.length d2], .int .i64 m.rail] w fun e w' => e = .returned (.tuple #[.bool t, .int .i64 0]) ∧ Below w.heap.size w w' from fun B B2 d d2 w hP => by
    have := Turns_any B B2 d d2 (turnP p) m.rail w hP
    rw [turn_nl, turn_rl] at this
    refine this.mono fun e w' h => ?_
    obtain ⟨⟨_, _, h1⟩ | ⟨h1 | h1, _⟩, hb⟩ := h
    · rw [htq] at h1; exact ⟨h1, hb⟩
    · exact absurd hvq h1
    · rw [hmq] at h1; cases h1)
  have C14 := Lib.hid (show ∀ (B B2 : Option Addr) (d d2 : Nat) (w : World), PlAt w w.heap.size B d B2 d2 (turnP p) → Calls Try.prog 14 #[.agg #[.slice B p.nodes.length d, .slice B2 p.rails.length d2]] w fun e w' => e = .returned (.int .i64 0) ∧ Below w.heap.size w w' from fun B B2 d d2 w hP => by
    have := Check_any B B2 d d2 (turnP p) w hP
    rw [turn_nl, turn_rl] at this
    refine this.mono fun e w' h => ?_
    obtain ⟨⟨_, h1⟩ | ⟨h1, _⟩, hb⟩ := h
    · exact ⟨h1, hb⟩
    · exact absurd hvq h1)
  have C32 := Lib.hid (show ∀ x : Nat, x < M → ∀ w, Calls Try.prog 32 #[.int .i64 (x : Int)] w fun e w' => e = .returned (.agg #[.int .i64 (moveE (x : Int)).rail, .bool (moveE (x : Int)).last]) ∧ Below w.heap.size w w' from fun x hx w => Of_any (x : Int) w (by omega) (by omega))
  have C30 := Lib.hid (show ∀ x : Nat, x < M → ∀ w, Calls Try.prog 30 #[.agg #[.int .i64 (moveE (x : Int)).rail, .bool !(moveE (x : Int)).last]] w fun e w' => e = .returned (.int .i64 ((flip x : Nat) : Int)) ∧ Below w.heap.size w w' from fun x hx w => by
    have hin := moveE_inT (p := p) (k := x) (by omega)
    have h1 := of_decide_eq_true hin
    have h2 := (op_in hin).2
    rw [keyE_moveT] at h2
    have := rNumber_any (moveE (x : Int)).rail (!(moveE (x : Int)).last) w h1.1 (by omega)
    rw [show endNo ⟨(moveE (x : Int)).rail, !(moveE (x : Int)).last⟩ = endNo (opE (moveE (x : Int))) from rfl, h2] at this
    exact this)
  have HFL := Lib.hid (show ∀ x : Nat, x < M → flip x < M from fun x hx => by rw [← hM]; exact flip_lt (by omega))
  have H1 := Lib.hid (G3st.start m n hP)
  have HF := Lib.hid hF
  have HM := Lib.hid (show (M : Int) = 2 * (p.rails.length : Int) by omega)
  have HL1 := Lib.hid hl1; have HL2 := Lib.hid hl2
  have hM28 : M ≤ 28 := by omega
  have hrl : (p.rails.length : Int) ≤ 14 := by omega
  clear hP hF hs hv hm hn hvq hsq hmq hnq hM hMq km hkM hko hfM hc1 hF1 hR1 hc2 hF2 hR2 hsame hD1 hD2 hl1 hl2 hrow his ht htq hPq hr14
  unfold TurnedC
  go_enter Try.func8, Try.ntmps8
  go_wp2_with fail
  refine (HF.out _ H1.out.pl).mono ?_
  rintro e w2 ⟨rfl, hb2⟩
  have H2 := Lib.hid (H1.out.next hb2)
  clear hb2 H1 HF
  obtain ⟨k0, k1, m0, m1, n0, n1, _, _, hlt⟩ := H2.out
  go_wp2_with fail
  refine (C33.out _ H2.out.pl).mono ?_
  rintro e w3 ⟨⟨B, d, B2, d2, rfl, hq3⟩, hb3⟩
  have H3 := Lib.hid (H2.out.next hb3)
  have hba := (Below.refl _ w3).alloc (Nat.le_refl _) (.cells #[.slice B p.nodes.length d, .slice B2 p.rails.length d2] 25)
  have hx0 := cell_of_row _ _ 0 _ _ _ (heap_alloc_new w3 (.cells #[.slice B p.nodes.length d, .slice B2 p.rails.length d2] 25))
  have hx1 := cell_of_row _ _ 1 _ _ _ (heap_alloc_new w3 (.cells #[.slice B p.nodes.length d, .slice B2 p.rails.length d2] 25))
  have H4 := Lib.hid (show TT w (w3.alloc (.cells #[.slice B p.nodes.length d, .slice B2 p.rails.length d2] 25)) w.heap.size w3.heap.size A c A2 c2 p m n B d B2 d2 from
    ⟨H3.out.next hba, hx0, hx1, hq3.box _, by simp⟩)
  clear hb3 H2 k0 k1 m0 m1 n0 n1 hlt hq3 H3 hba hx0 hx1 C33
  obtain ⟨k0, k1, m0, m1, n0, n1, _, _, hlt⟩ := H4.out.g
  go_upto_region 4 with (fail)
  obtain ⟨w4, hw4⟩ : ∃ z, w3.alloc (.cells #[.slice B p.nodes.length d, .slice B2 p.rails.length d2] 25) = z := ⟨_, rfl⟩
  rw [hw4] at H4 k0 k1 m0 m1 n0 n1 hlt ⊢
  obtain ⟨Kq, hKq⟩ : ∃ z, w3.heap.size = z := ⟨_, rfl⟩
  rw [hKq] at H4 ⊢
  clear hw4 hKq
  go_wp2_with fail
  refine (C20.out _ H4.out.g.pl).mono ?_
  rintro e w5 ⟨rfl, hb5⟩
  have H5 := Lib.hid (H4.out.next hb5)
  clear hb5 H4 k0 k1 m0 m1 n0 n1 hlt C20
  go_upto_region 5 with (fail)
  have hbq : Below w5.heap.size w5 w5.drew := (Below.refl _ _).drew
  have HK := Lib.hid (show ∀ w', Below w5.heap.size w5 w' → ST w.heap.size Kq m n B p.nodes.length d B2 p.rails.length d2 w' from fun w' hb' => (H5.out.next hb').st)
  have HS := Lib.hid (HK.out _ hbq)
  refine wp_region_held_drew (S := ST w.heap.size Kq m n B p.nodes.length d B2 p.rails.length d2) (by kernel_rfl) HS.out (fun _ => ?_)
  refine hTake (i := 0) (d := 37) (v := .agg #[.slice B p.nodes.length d, .slice B2 p.rails.length d2]) rfl rfl (by kernel_rfl) (by kernel_rfl) (by kernel_rfl) (fun _ _ _ h => h) (Or.inl ⟨rfl, ?gr⟩) HS.out ?_
  case gr =>
    rintro W' ⟨s0, s1, s2, s3, s4, s5⟩
    go_simp
  simp only [Act.put, List.setIfInBounds_toArray, List.set_cons_zero, List.set_cons_succ]
  refine hTake (i := 1) (d := 38) (v := .agg #[.int .i64 m.rail, .bool m.last]) rfl rfl (by kernel_rfl) (by kernel_rfl) (by kernel_rfl) (fun _ _ _ h => h) (Or.inl ⟨rfl, ?gr⟩) HS.out ?_
  case gr =>
    rintro W' ⟨s0, s1, s2, s3, s4, s5⟩
    go_simp
  simp only [Act.put, List.setIfInBounds_toArray, List.set_cons_zero, List.set_cons_succ]
  refine hTake (i := 3) (d := 40) (v := .agg #[.int .i64 n.rail, .bool n.last]) rfl rfl (by kernel_rfl) (by kernel_rfl) (by kernel_rfl) (fun _ _ _ h => h) (Or.inl ⟨rfl, ?gr⟩) HS.out ?_
  case gr =>
    rintro W' ⟨s0, s1, s2, s3, s4, s5⟩
    go_simp
  simp only [Act.put, List.setIfInBounds_toArray, List.set_cons_zero, List.set_cons_succ]
  refine wpAnyH_ready (rs := [2]) (by kernel_rfl) (by simp) ?_
  refine AllReadyH.cons rfl (fun K hK => ?_) AllReadyH.nil
  rw [if_pos (by rfl)]
  go_simp
  go_at_call 26
  refine (Opposite_any m.rail m.last _).mono ?_
  rintro e v1 ⟨rfl, hbz⟩
  replace hbq := hbq.trans (hbz.mono hbq.size)
  have HS := Lib.hid (HK.out _ hbq)
  clear hbz
  refine hK.out _ _ HS.out (fun _ => ?_)
  clear hK K
  try simp only [Act.put, List.setIfInBounds_toArray, List.set_cons_zero, List.set_cons_succ]
  refine wpAnyH_ready (rs := [4]) (by kernel_rfl) (by simp) ?_
  refine AllReadyH.cons rfl (fun K hK => ?_) AllReadyH.nil
  rw [if_pos (by rfl)]
  go_simp
  go_at_call 26
  refine (Opposite_any n.rail n.last _).mono ?_
  rintro e v2 ⟨rfl, hbz⟩
  replace hbq := hbq.trans (hbz.mono hbq.size)
  have HS := Lib.hid (HK.out _ hbq)
  clear hbz
  refine hK.out _ _ HS.out (fun _ => ?_)
  clear hK K
  try simp only [Act.put, List.setIfInBounds_toArray, List.set_cons_zero, List.set_cons_succ]
  refine wpAnyH_ready (rs := [5]) (by kernel_rfl) (by simp) ?_
  refine AllReadyH.cons rfl (fun K hK => ?_) AllReadyH.nil
  rw [if_pos (by rfl)]
  go_simp
  go_at_call 20
  have hql := (H5.out.next hbq).ql
  refine (C20q.out B B2 d d2 _ hql).mono ?_
  rintro e v3 ⟨rfl, hbz⟩
  replace hbq := hbq.trans (hbz.mono hbq.size)
  have HS := Lib.hid (HK.out _ hbq)
  clear hbz hql
  refine hK.out _ _ HS.out (fun _ => ?_)
  clear hK K
  try simp only [Act.put, List.setIfInBounds_toArray, List.set_cons_zero, List.set_cons_succ]
  refine hTake (i := 6) (d := 36) (v := .tuple #[.bool is, .int .i64 0]) rfl rfl (by kernel_rfl) (by kernel_rfl) (by kernel_rfl) (fun _ _ _ h => h) (Or.inl ⟨rfl, ?gr⟩) HS.out ?_
  case gr =>
    rintro W' ⟨s0, s1, s2, s3, s4, s5⟩
    go_simp
  simp only [Act.put, List.setIfInBounds_toArray, List.set_cons_zero, List.set_cons_succ]
  refine hTake (i := 7) (d := 43) (v := .bool is) rfl rfl (by kernel_rfl) (by kernel_rfl) (by kernel_rfl) (fun _ _ _ h => h) (Or.inl ⟨rfl, ?gr⟩) HS.out ?_
  case gr =>
    rintro W' ⟨s0, s1, s2, s3, s4, s5⟩
    go_simp
  simp only [Act.put, List.setIfInBounds_toArray, List.set_cons_zero, List.set_cons_succ]
  refine hTake (i := 8) (d := 44) (v := .int .i64 0) rfl rfl (by kernel_rfl) (by kernel_rfl) (by kernel_rfl) (fun _ _ _ h => h) (Or.inl ⟨rfl, ?gr⟩) HS.out ?_
  case gr =>
    rintro W' ⟨s0, s1, s2, s3, s4, s5⟩
    go_simp
  simp only [Act.put, List.setIfInBounds_toArray, List.set_cons_zero, List.set_cons_succ]
  refine hTake (i := 9) (d := 10) (v := .bool is) rfl rfl (by kernel_rfl) (by kernel_rfl) (by kernel_rfl) (fun _ _ _ h => h) (Or.inl ⟨rfl, ?gr⟩) HS.out ?_
  case gr =>
    rintro W' ⟨s0, s1, s2, s3, s4, s5⟩
    go_simp
  simp only [Act.put, List.setIfInBounds_toArray, List.set_cons_zero, List.set_cons_succ]
  refine hTake (i := 10) (d := 11) (v := .int .i64 0) rfl rfl (by kernel_rfl) (by kernel_rfl) (by kernel_rfl) (fun _ _ _ h => h) (Or.inl ⟨rfl, ?gr⟩) HS.out ?_
  case gr =>
    rintro W' ⟨s0, s1, s2, s3, s4, s5⟩
    go_simp
  simp only [Act.put, List.setIfInBounds_toArray, List.set_cons_zero, List.set_cons_succ]
  refine wpAnyH_done (by kernel_rfl) ?_ _
  have H6a := Lib.hid (H5.out.next hbq)
  clear hbq HS HK H5 C20q
  obtain ⟨k0, k1, m0, m1, n0, n1, _, _, hlt⟩ := H6a.out.g
  go_wp2_with fail
  refine (C28.out _ H6a.out.g.pl).mono ?_
  rintro e w6 ⟨⟨ra, rfl, hra⟩, hb6⟩
  have H6 := Lib.hid (H6a.out.next hb6)
  have HRA := Lib.hid hra
  clear hb6 H6a hra k0 k1 m0 m1 n0 n1 hlt C28
  go_upto_region 7 with (fail)
  have hbq : Below w6.heap.size w6 w6.drew := (Below.refl _ _).drew
  have HK := Lib.hid (show ∀ w', Below w6.heap.size w6 w' → ST w.heap.size Kq m n B p.nodes.length d B2 p.rails.length d2 w' from fun w' hb' => (H6.out.next hb').st)
  have HS := Lib.hid (HK.out _ hbq)
  refine wp_region_held_drew (S := ST w.heap.size Kq m n B p.nodes.length d B2 p.rails.length d2) (by kernel_rfl) HS.out (fun _ => ?_)
  refine hTake (i := 0) (d := 52) (v := .agg #[.slice B p.nodes.length d, .slice B2 p.rails.length d2]) rfl rfl (by kernel_rfl) (by kernel_rfl) (by kernel_rfl) (fun _ _ _ h => h) (Or.inl ⟨rfl, ?gr⟩) HS.out ?_
  case gr =>
    rintro W' ⟨s0, s1, s2, s3, s4, s5⟩
    go_simp
  simp only [Act.put, List.setIfInBounds_toArray, List.set_cons_zero, List.set_cons_succ]
  refine hTake (i := 1) (d := 53) (v := .agg #[.int .i64 m.rail, .bool m.last]) rfl rfl (by kernel_rfl) (by kernel_rfl) (by kernel_rfl) (fun _ _ _ h => h) (Or.inl ⟨rfl, ?gr⟩) HS.out ?_
  case gr =>
    rintro W' ⟨s0, s1, s2, s3, s4, s5⟩
    go_simp
  simp only [Act.put, List.setIfInBounds_toArray, List.set_cons_zero, List.set_cons_succ]
  refine wpAnyH_ready (rs := [2]) (by kernel_rfl) (by simp) ?_
  refine AllReadyH.cons rfl (fun K hK => ?_) AllReadyH.nil
  rw [if_pos (by rfl)]
  go_simp
  go_at_call 26
  refine (Opposite_any m.rail m.last _).mono ?_
  rintro e v4 ⟨rfl, hbz⟩
  replace hbq := hbq.trans (hbz.mono hbq.size)
  have HS := Lib.hid (HK.out _ hbq)
  clear hbz
  refine hK.out _ _ HS.out (fun _ => ?_)
  clear hK K
  try simp only [Act.put, List.setIfInBounds_toArray, List.set_cons_zero, List.set_cons_succ]
  refine wpAnyH_ready (rs := [3]) (by kernel_rfl) (by simp) ?_
  refine AllReadyH.cons rfl (fun K hK => ?_) AllReadyH.nil
  rw [if_pos (by rfl)]
  go_simp
  go_at_call 28
  have hql := (H6.out.next hbq).ql
  refine (C28q.out B B2 d d2 _ hql).mono ?_
  rintro e v5 ⟨⟨rb, rfl, hrb⟩, hbz⟩
  have HRB := Lib.hid hrb
  replace hbq := hbq.trans (hbz.mono hbq.size)
  have HS := Lib.hid (HK.out _ hbq)
  clear hbz hql hrb
  refine hK.out _ _ HS.out (fun _ => ?_)
  clear hK K
  try simp only [Act.put, List.setIfInBounds_toArray, List.set_cons_zero, List.set_cons_succ]
  refine hTake (i := 4) (d := 51) (v := .tuple #[.slice (some ⟨rb, 0, none⟩) M M, .int .i64 0]) rfl rfl (by kernel_rfl) (by kernel_rfl) (by kernel_rfl) (fun _ _ _ h => h) (Or.inl ⟨rfl, ?gr⟩) HS.out ?_
  case gr =>
    rintro W' ⟨s0, s1, s2, s3, s4, s5⟩
    go_simp
  simp only [Act.put, List.setIfInBounds_toArray, List.set_cons_zero, List.set_cons_succ]
  refine hTake (i := 5) (d := 56) (v := .slice (some ⟨rb, 0, none⟩) M M) rfl rfl (by kernel_rfl) (by kernel_rfl) (by kernel_rfl) (fun _ _ _ h => h) (Or.inl ⟨rfl, ?gr⟩) HS.out ?_
  case gr =>
    rintro W' ⟨s0, s1, s2, s3, s4, s5⟩
    go_simp
  simp only [Act.put, List.setIfInBounds_toArray, List.set_cons_zero, List.set_cons_succ]
  refine hTake (i := 6) (d := 57) (v := .int .i64 0) rfl rfl (by kernel_rfl) (by kernel_rfl) (by kernel_rfl) (fun _ _ _ h => h) (Or.inl ⟨rfl, ?gr⟩) HS.out ?_
  case gr =>
    rintro W' ⟨s0, s1, s2, s3, s4, s5⟩
    go_simp
  simp only [Act.put, List.setIfInBounds_toArray, List.set_cons_zero, List.set_cons_succ]
  refine hTake (i := 7) (d := 14) (v := .slice (some ⟨rb, 0, none⟩) M M) rfl rfl (by kernel_rfl) (by kernel_rfl) (by kernel_rfl) (fun _ _ _ h => h) (Or.inl ⟨rfl, ?gr⟩) HS.out ?_
  case gr =>
    rintro W' ⟨s0, s1, s2, s3, s4, s5⟩
    go_simp
  simp only [Act.put, List.setIfInBounds_toArray, List.set_cons_zero, List.set_cons_succ]
  refine hTake (i := 8) (d := 15) (v := .int .i64 0) rfl rfl (by kernel_rfl) (by kernel_rfl) (by kernel_rfl) (fun _ _ _ h => h) (Or.inl ⟨rfl, ?gr⟩) HS.out ?_
  case gr =>
    rintro W' ⟨s0, s1, s2, s3, s4, s5⟩
    go_simp
  simp only [Act.put, List.setIfInBounds_toArray, List.set_cons_zero, List.set_cons_succ]
  refine wpAnyH_done (by kernel_rfl) ?_ _
  have H8 := Lib.hid (H6.out.next hbq)
  have HRA8 := Lib.hid (HRA.out.below hbq HRA.out.lt)
  clear hbq HS HK H6 C28q HRA
  obtain ⟨k0, k1, m0, m1, n0, n1, _, _, hlt⟩ := H8.out.g
  go_wp2_with fail
  refine (C34.out _ H8.out.g.pl).mono ?_
  rintro e w9 ⟨rfl, hb9⟩
  have H9 := Lib.hid (H8.out.next hb9)
  have HRA9 := Lib.hid (HRA8.out.below hb9 HRA8.out.lt)
  have HRB9 := Lib.hid (HRB.out.below hb9 HRB.out.lt)
  clear hb9 H8 HRA8 HRB k0 k1 m0 m1 n0 n1 hlt C34
  obtain ⟨k0, k1, m0, m1, n0, n1, _, _, hlt⟩ := H9.out.g
  have q0 := H9.out.q0; have q1 := H9.out.q1
  go_wp2_with fail
  refine (C34q.out B B2 d d2 _ H9.out.ql).mono ?_
  rintro e wa ⟨rfl, hba⟩
  have HA := Lib.hid (H9.out.next hba)
  have HRAa := Lib.hid (HRA9.out.below hba HRA9.out.lt)
  have HRBa := Lib.hid (HRB9.out.below hba HRB9.out.lt)
  clear hba H9 HRA9 HRB9 k0 k1 m0 m1 n0 n1 hlt q0 q1 C34q
  obtain ⟨k0, k1, m0, m1, n0, n1, hpl, _, hlt⟩ := HA.out.g
  have q0 := HA.out.q0; have q1 := HA.out.q1
  have hrc := hpl.rc; have hrm := hpl.rm
  go_wp2_with fail
  refine (C14.out B B2 d d2 _ HA.out.ql).mono ?_
  rintro e wb ⟨rfl, hbb⟩
  have HB := Lib.hid (HA.out.next hbb)
  have HRAb := Lib.hid (HRAa.out.below hbb HRAa.out.lt)
  have HRBb := Lib.hid (HRBa.out.below hbb HRBa.out.lt)
  clear hbb HA HRAa HRBa k0 k1 m0 m1 n0 n1 hlt q0 q1 hpl C14
  obtain ⟨k0, k1, m0, m1, n0, n1, _, _, hlt⟩ := HB.out.g
  have d1 : ((M : Int) != 2 * (p.rails.length : Int)) = false := by rw [HM.out]; simp
  have d2' : (!((M : Int) == 2 * (p.rails.length : Int))) = false := by rw [HM.out]; simp
  have d3 : (is != is) = false := by simp
  have d4 : (t != t) = false := by simp
  go_wp2
  clear k0 k1 m0 m1 n0 n1 hlt hrc hrm d1 d2' d3 d4
  go_loopw [20] (fun i wr => ∃ x : Nat, x ≤ M ∧ i = .int .i64 (x : Int) ∧ Below wb.heap.size wb wr) (fun i _ => M - (intOf i).toNat)
  case atStart => exact ⟨0, Nat.zero_le _, rfl, Below.refl _ _⟩
  case round =>
    obtain ⟨x, hx, rfl, hb⟩ := hrel
    have HBE := Lib.hid hb
    clear hb
    by_cases hxM : x < M
    · obtain ⟨v, hva, hvb⟩ := HROW.out x ra rb wr hxM (HRAb.out.below HBE.out HRAb.out.lt) (HRBb.out.below HBE.out HRBb.out.lt)
      have hfl := HFL.out x hxM
      have x0 : (0 : Int) ≤ (x : Int) := by omega
      have x1 : (x : Int) < (M : Int) := by omega
      have f0 : (0 : Int) ≤ ((flip x : Nat) : Int) := by omega
      have f1 : ((flip x : Nat) : Int) < (M : Int) := by omega
      have hra : ra < wr.heap.size := Nat.lt_of_lt_of_le HRAb.out.lt HBE.out.size
      have hrb : rb < wr.heap.size := Nat.lt_of_lt_of_le HRBb.out.lt HBE.out.size
      go_upto_region 15 with (fail)
      have hbq : Below wr.heap.size wr wr.drew := (Below.refl _ _).drew
      obtain ⟨S, hSd⟩ : ∃ S : World → Prop, S = fun w' => w'.cell? ⟨ra, x, none⟩ = some (.int .i64 v) ∧ w'.cell? ⟨rb, flip x, none⟩ = some (.int .i64 v) := ⟨_, rfl⟩
      have HK2 := Lib.hid (show ∀ w', Below wr.heap.size wr w' → S w' from fun w' hb' => by rw [hSd]; exact ⟨(hb'.cell (p := ⟨ra, x, none⟩) hra).trans hva, (hb'.cell (p := ⟨rb, flip x, none⟩) hrb).trans hvb⟩)
      have HS := Lib.hid (HK2.out _ hbq)
      refine wp_region_held_drew (S := S) (by kernel_rfl) HS.out (fun _ => ?_)
      refine hTake (i := 0) (d := 131) (v := .slice (some ⟨ra, 0, none⟩) M M) rfl rfl (by kernel_rfl) (by kernel_rfl) (by kernel_rfl) (fun _ _ _ h => h) (Or.inl ⟨rfl, ?gr⟩) HS.out ?_
      case gr =>
        intro W' hs'; rw [hSd] at hs'; obtain ⟨s0, s1⟩ := hs'
        go_simp
      simp only [Act.put, List.setIfInBounds_toArray, List.set_cons_zero, List.set_cons_succ]
      refine hTake (i := 1) (d := 132) (v := .int .i64 (x : Int)) rfl rfl (by kernel_rfl) (by kernel_rfl) (by kernel_rfl) (fun _ _ _ h => h) (Or.inl ⟨rfl, ?gr⟩) HS.out ?_
      case gr =>
        intro W' hs'; rw [hSd] at hs'; obtain ⟨s0, s1⟩ := hs'
        go_simp
      simp only [Act.put, List.setIfInBounds_toArray, List.set_cons_zero, List.set_cons_succ]
      refine hTake (i := 2) (d := 133) (v := .pointer (some ⟨ra, x, none⟩)) rfl rfl (by kernel_rfl) (by kernel_rfl) (by kernel_rfl) (fun _ _ _ h => h) (Or.inl ⟨rfl, ?gr⟩) HS.out ?_
      case gr =>
        intro W' hs'; rw [hSd] at hs'; obtain ⟨s0, s1⟩ := hs'
        go_simp
      simp only [Act.put, List.setIfInBounds_toArray, List.set_cons_zero, List.set_cons_succ]
      refine hTake (i := 3) (d := 134) (v := .int .i64 v) rfl rfl (by kernel_rfl) (by kernel_rfl) (by kernel_rfl) (fun _ _ _ h => h) (Or.inl ⟨rfl, ?gr⟩) HS.out ?_
      case gr =>
        intro W' hs'; rw [hSd] at hs'; obtain ⟨s0, s1⟩ := hs'
        go_simp
      simp only [Act.put, List.setIfInBounds_toArray, List.set_cons_zero, List.set_cons_succ]
      refine hTake (i := 4) (d := 135) (v := .slice (some ⟨rb, 0, none⟩) M M) rfl rfl (by kernel_rfl) (by kernel_rfl) (by kernel_rfl) (fun _ _ _ h => h) (Or.inl ⟨rfl, ?gr⟩) HS.out ?_
      case gr =>
        intro W' hs'; rw [hSd] at hs'; obtain ⟨s0, s1⟩ := hs'
        go_simp
      simp only [Act.put, List.setIfInBounds_toArray, List.set_cons_zero, List.set_cons_succ]
      refine hTake (i := 5) (d := 136) (v := .int .i64 (x : Int)) rfl rfl (by kernel_rfl) (by kernel_rfl) (by kernel_rfl) (fun _ _ _ h => h) (Or.inl ⟨rfl, ?gr⟩) HS.out ?_
      case gr =>
        intro W' hs'; rw [hSd] at hs'; obtain ⟨s0, s1⟩ := hs'
        go_simp
      simp only [Act.put, List.setIfInBounds_toArray, List.set_cons_zero, List.set_cons_succ]
      refine wpAnyH_ready (rs := [6]) (by kernel_rfl) (by simp) ?_
      refine AllReadyH.cons rfl (fun K hK => ?_) AllReadyH.nil
      rw [if_pos (by rfl)]
      go_simp
      go_at_call 32
      refine (C32.out x hxM _).mono ?_
      rintro e v7 ⟨rfl, hbz⟩
      replace hbq := hbq.trans (hbz.mono hbq.size)
      have HS := Lib.hid (HK2.out _ hbq)
      clear hbz
      refine hK.out _ _ HS.out (fun _ => ?_)
      clear hK K
      try simp only [Act.put, List.setIfInBounds_toArray, List.set_cons_zero, List.set_cons_succ]
      refine wpAnyH_ready (rs := [7]) (by kernel_rfl) (by simp) ?_
      refine AllReadyH.cons rfl (fun K hK => ?_) AllReadyH.nil
      rw [if_pos (by rfl)]
      go_simp
      go_at_call 26
      refine (Opposite_any _ _ _).mono ?_
      rintro e v8 ⟨rfl, hbz⟩
      replace hbq := hbq.trans (hbz.mono hbq.size)
      have HS := Lib.hid (HK2.out _ hbq)
      clear hbz
      refine hK.out _ _ HS.out (fun _ => ?_)
      clear hK K
      try simp only [Act.put, List.setIfInBounds_toArray, List.set_cons_zero, List.set_cons_succ]
      refine wpAnyH_ready (rs := [8]) (by kernel_rfl) (by simp) ?_
      refine AllReadyH.cons rfl (fun K hK => ?_) AllReadyH.nil
      rw [if_pos (by rfl)]
      go_simp
      go_at_call 30
      refine (C30.out x hxM _).mono ?_
      rintro e v9 ⟨rfl, hbz⟩
      replace hbq := hbq.trans (hbz.mono hbq.size)
      have HS := Lib.hid (HK2.out _ hbq)
      clear hbz
      refine hK.out _ _ HS.out (fun _ => ?_)
      clear hK K
      try simp only [Act.put, List.setIfInBounds_toArray, List.set_cons_zero, List.set_cons_succ]
      refine hTake (i := 9) (d := 140) (v := .pointer (some ⟨rb, flip x, none⟩)) rfl rfl (by kernel_rfl) (by kernel_rfl) (by kernel_rfl) (fun _ _ _ h => h) (Or.inl ⟨rfl, ?gr⟩) HS.out ?_
      case gr =>
        intro W' hs'; rw [hSd] at hs'; obtain ⟨s0, s1⟩ := hs'
        go_simp
      simp only [Act.put, List.setIfInBounds_toArray, List.set_cons_zero, List.set_cons_succ]
      refine hTake (i := 10) (d := 141) (v := .int .i64 v) rfl rfl (by kernel_rfl) (by kernel_rfl) (by kernel_rfl) (fun _ _ _ h => h) (Or.inl ⟨rfl, ?gr⟩) HS.out ?_
      case gr =>
        intro W' hs'; rw [hSd] at hs'; obtain ⟨s0, s1⟩ := hs'
        go_simp
      simp only [Act.put, List.setIfInBounds_toArray, List.set_cons_zero, List.set_cons_succ]
      refine hTake (i := 11) (d := 142) (v := .bool false) rfl rfl (by kernel_rfl) (by kernel_rfl) (by kernel_rfl) (fun _ _ _ h => h) (Or.inl ⟨rfl, ?gr⟩) HS.out ?_
      case gr =>
        intro W' hs'; rw [hSd] at hs'; obtain ⟨s0, s1⟩ := hs'
        go_simp
      simp only [Act.put, List.setIfInBounds_toArray, List.set_cons_zero, List.set_cons_succ]
      refine wpAnyH_done (by kernel_rfl) ?_ _
      go_wp2_with fail
      go_roundw
      case rel => exact ⟨x + 1, by omega, by go_num, HBE.out.trans (hbq.mono HBE.out.size)⟩
      case measure => simp [intOf]; omega
    · obtain rfl : x = M := by omega
      have hz : ¬ ((x : Nat) : Int) < ((x : Nat) : Int) := by omega
      have HE := Lib.hid (HB.out.next HBE.out)
      go_wp2_with fail
      refine (known_any _).mono ?_
      rintro e wc ⟨rfl, hbc⟩
      have HC := Lib.hid (HE.out.next hbc)
      clear hbc
      go_wp2
      go_ret
      exact ⟨rfl, HC.out.g.be⟩

theorem Turned_any (hP : PlAt w w.heap.size A c A2 c2 p) : TurnedC A A2 c c2 p m n w := by
  obtain ⟨v, hvv, hV⟩ : ∃ v : Bool, (v = true ↔ Vld p) ∧ ValB p v := by
    by_cases hv : Vld p
    · exact ⟨true, ⟨fun _ => hv, fun _ => rfl⟩, valB_yes hv⟩
    · exact ⟨false, ⟨fun h => (by cases h), fun h => absurd h hv⟩, valB_no hv⟩
  have hF := fun w hP => fine_of A A2 c c2 p m n w hP v (fun w hP => hV A A2 c c2 w hP)
  cases hf : fineB p v m n
  · rw [hf] at hF
    exact Turned_not A A2 c c2 p m n w hP hF
  · rw [hf] at hF
    simp only [fineB, Bool.and_eq_true] at hf
    obtain ⟨⟨⟨h0, h1⟩, h2⟩, h3⟩ := hf
    exact Turned_in A A2 c c2 p m n w hP h0 (hvv.1 h1) h2 h3 hF
end
end Go.Proofs.Ytcpanfpijljeaaa
namespace Go.Proofs.Ytcpanfpijljeaaa
set_option linter.unusedVariables false
set_option linter.unusedSimpArgs false
open Go.RowKit
section row
open Go.ChangeShapes Go.WideShapes Go.ChangeAt Go.Deep
theorem Try.c40q : Try.prog.cellsOf 40 = 2 := by kernel_rfl
theorem Try.b40q : 1 ≤ Try.prog.bytesOf 40 := by rw [show Try.prog.bytesOf 40 = 16 by kernel_rfl]; omega
section
variable {H : Type} {enc : TypeId × Value → H} {w : World} {fuel : Nat} {cs : List Value} {x : DataW H × List MemPlace}
set_option maxRecDepth 100000 in
theorem read_Mq (h : DataW.trod enc Try.prog w 0 (fun _ => true) true fuel 40 cs = some x) (hl : InReach Try.prog 40 x.1) : ∃ z : E, CE z cs := by
  have hn := read_len Try.underlying40 h
  rw [Try.c40q] at hn
  obtain ⟨n1, y1, h1, _⟩ := read_at Try.underlying40 h hl 0 rfl Try.c3
  obtain ⟨n2, y2, h2, _⟩ := read_at Try.underlying40 h hl 1 rfl Try.c4
  obtain ⟨a, ha, _, _⟩ := DataW.trod_int Try.underlying3 h1
  obtain ⟨b, hb, _⟩ := DataW.trod_bool Try.underlying4 h2
  match cs, hn with
  | [u, v], _ =>
    simp at ha hb
    subst ha; subst hb
    exact ⟨⟨a, b⟩, rfl⟩
theorem read_Msq (h : DataW.trod enc Try.prog w 0 (fun _ => true) true fuel 42 cs = some x) (hl : InReach Try.prog 42 x.1) :
    ∃ (A : Option Addr) (l : List E) (c : Nat), cs = [.slice A l.length c] ∧ Sl w w.heap.size 2 CE A l ∧ l.length ≤ c ∧ c ≤ 9223372036854775807 :=
  read_slice (C := CE) Try.underlying42 Try.c40q (by omega) Try.b40q h hl fun n cs' y h hl => read_Mq h hl
end

set_option maxRecDepth 100000 in
set_option maxHeartbeats 1600000 in
theorem trackTurned_lifted (os : Os) (started : os.Started) (H : Type) (enc : TypeId × Value → H) :
    ReturnsInHanded {} Try.checked os 8 .any (Rows.trackTurnedSpec.pre6 enc Try.prog Try.f8 Rows.trackTurnedRow.domain false) (Rows.trackTurnedSpec.post enc Try.prog Try.f8 false true false false) := by
  refine returnsInHanded_of_change_sized (C := Try.checked) (by kernel_rfl : ownKnob Try.prog.godebug = none) started (by kernel_rfl) Try.func8
    (ChangeSpec.witness6 (enc := enc) (C := Try.checked) false ⟨#[], #[.agg #[.slice none 0 0, .slice none 0 0], .agg #[.int .i64 0, .bool false], .agg #[.int .i64 0, .bool false]], []⟩ 8 (by kernel_rfl) (by kernel_rfl) (by kernel_rfl) (by kernel_rfl)) ?_
  intro W base args ds gs before hval0 hW _ hsz0 _
  have hsz : (DataW.weightsEach Try.prog (Try.f8.params.toList ++ Rows.trackTurnedSpec.plain.varTypes Try.prog) (ds ++ gs)).all (· ≤ reachBytes) = true := hsz0
  clear hsz0
  have hval : ∀ (j : Nat) t v, Try.f8.params[j]? = some t → args[j]? = some v → Value.okWide Try.prog W .any base t v := hval0
  have hW' := hW
  obtain ⟨p, q, hA0, hV, rfl, hfz, _⟩ := hW
  have hA : DataW.TrodAll enc Try.prog W 0 (fun _ => true) true Try.f8.params.toList args.toList ds p := hA0
  rw [Try.params8] at hA hval hsz
  obtain ⟨v0, v1, v2, d0, d1, d2, p0, p1, p2, rfl, rfl, rfl, h0, h1, h2⟩ := trodAll_three hA
  obtain ⟨rfl, rfl⟩ := trodVars_none hV
  obtain ⟨cs0, rfl, hcs0⟩ := okWide_struct Try.underlying25 (hval 0 25 v0 rfl rfl)
  obtain ⟨cs1, rfl, hcs1⟩ := okWide_struct Try.underlying40 (hval 1 40 v1 rfl rfl)
  obtain ⟨cs2, rfl, hcs2⟩ := okWide_struct Try.underlying40 (hval 2 40 v2 rfl rfl)
  have h0k := h0
  have h1k := h1
  have h2k := h2
  obtain ⟨fuel0, hf0⟩ := h0
  obtain ⟨fuel1, hf1⟩ := h1
  obtain ⟨fuel2, hf2⟩ := h2
  clear hA0 hval0 hA
  simp only [List.append_nil] at hW' hsz
  have hlt : ∀ x ∈ p0 ++ p1 ++ p2, x.block < W.heap.size := fun x hx => hW'.lt x (by simpa using hx)
  obtain ⟨pl, A, c, A2, c2, hq0, hP⟩ := read_Pl (enc := enc) (w := W) (x := (d0, p0)) hf0 (fun n hn => by
    have := List.all_eq_true.1 hsz n (DataW.weights_mem_each (j := 0) (t := 25) (d := d0) rfl rfl n hn)
    simpa using this)
  obtain ⟨m1, hq1⟩ := read_Mq (enc := enc) (w := W) (x := (d1, p1)) hf1 (fun n hn => by
    have := List.all_eq_true.1 hsz n (DataW.weights_mem_each (j := 1) (t := 40) (d := d1) rfl rfl n hn)
    simpa using this)
  obtain ⟨m2, hq2⟩ := read_Mq (enc := enc) (w := W) (x := (d2, p2)) hf2 (fun n hn => by
    have := List.all_eq_true.1 hsz n (DataW.weights_mem_each (j := 2) (t := 40) (d := d2) rfl rfl n hn)
    simpa using this)
  obtain rfl : cs0 = #[.slice A pl.nodes.length c, .slice A2 pl.rails.length c2] := by
    apply Array.toList_inj.1
    simpa [Value.cells] using hq0
  obtain rfl : cs1 = #[.int .i64 m1.rail, .bool m1.last] := by
    apply Array.toList_inj.1
    unfold CE at hq1
    simpa [Value.cells] using hq1
  obtain rfl : cs2 = #[.int .i64 m2.rail, .bool m2.last] := by
    apply Array.toList_inj.1
    unfold CE at hq2
    simpa [Value.cells] using hq2
  refine (Turned_any A A2 c c2 pl m1 m2 W hP).mono fun e W' ⟨he, hb⟩ => ?_
  subst he
  have hs : W.Since W.heap.size W' := ⟨hb.os, hb.tape, hb.output, hb.size, hb.block⟩
  have laid : laidOutB Try.prog = true := by kernel_rfl
  have ha0 : DataW.Trod enc Try.prog W' 0 (fun b => decide (b < W.heap.size)) true 25 (.agg #[.slice A pl.nodes.length c, .slice A2 pl.rails.length c2]) d0 p0 :=
    WideElems.Trod_stays laid (by kernel_rfl) (of_decide_eq_true (by kernel_rfl)) h0k (fun x hx => hs.sameAt (hlt x (by simp [hx]))) (fun x hx => by simpa using hlt x (by simp [hx]))
  have ha1 : DataW.Trod enc Try.prog W' 0 (fun b => decide (b < W.heap.size)) true 40 (.agg #[.int .i64 m1.rail, .bool m1.last]) d1 p1 :=
    WideElems.Trod_stays laid (by kernel_rfl) (of_decide_eq_true (by kernel_rfl)) h1k (fun x hx => hs.sameAt (hlt x (by simp [hx]))) (fun x hx => by simpa using hlt x (by simp [hx]))
  have ha2 : DataW.Trod enc Try.prog W' 0 (fun b => decide (b < W.heap.size)) true 40 (.agg #[.int .i64 m2.rail, .bool m2.last]) d2 p2 :=
    WideElems.Trod_stays laid (by kernel_rfl) (of_decide_eq_true (by kernel_rfl)) h2k (fun x hx => hs.sameAt (hlt x (by simp [hx]))) (fun x hx => by simpa using hlt x (by simp [hx]))
  exact ⟨_, rfl, _, _, _, [], p0 ++ p1 ++ p2, [], hW', trodAll_mk1 (shut_bool Try.underlying4 true), by have := trodAll_mk3 ha0 ha1 ha2; (try simp only [List.append_nil, List.nil_append, ← List.append_assoc] at this); exact this, rfl, hs.frame _, fun h => by cases h⟩

theorem trackTurned_holds : Rows.TrackTurnedSaid :=
  OpenClaim.holds_of_wide 8 Try.f8 rfl rfl rfl rfl rfl rfl rfl ⟨rfl, rfl, rfl, rfl, rfl⟩ rfl rfl rfl rfl rfl (by kernel_rfl) Try.func8 (by kernel_rfl)
    (of_decide_eq_true (by kernel_rfl)) (by unfold Func.isWrapper; rw [if_neg (of_decide_eq_false (by kernel_rfl))]; exact ⟨rfl, rfl⟩)
    (fun os started H enc _ => trackTurned_lifted os started H enc)
end row
end Go.Proofs.Ytcpanfpijljeaaa
