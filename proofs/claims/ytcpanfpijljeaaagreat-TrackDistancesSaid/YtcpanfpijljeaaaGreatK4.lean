/- TrackDistances returns true for every plan, every two moves and every list of numbers; its arguments read afterwards as they read before. No condition. -/
import Derived.BigRegion
import Derived.Deep.CondSized
import Derived.Deep.OwnRows
import Derived.Deep.RegionHeld3
import Derived.ProofKit
import Derived.ReadAgain
import Derived.Test.YtcpanfpijljeaaaGreatRows
import Derived.Test.YtcpanfpijljeaaaGreatT2
import Derived.Test.YtcpanfpijljeaaaGreatT4
import Derived.Test.YtcpanfpijljeaaaGreatW3
import Derived.Test.YtcpanfpijljeaaaGreatY3
import Derived.Test.YtcpanfpijljeaaaGreatZ5
import Derived.WalkKit
import Derived.WideKeyArgs
/-! partU7: Plain: each label of the search is the cost of a real way. -/
namespace Go.Proofs.YtcpanfpijljeaaaGreat
set_option linter.unusedVariables false
set_option linter.unusedSimpArgs false

/-- a way from a move to t: its length behind the first move, and its number of moves -/
inductive Wy (ln : Int → Int) (bef : Nat → List Int) (t : Nat) : Nat → Int → Int → Prop
  | nil : Wy ln bef t t 0 0
  | cons {u w : Nat} {l m : Int} : (w : Int) ∈ bef u → Wy ln bef t u l m → Wy ln bef t w (l + ln ((u : Int) / 2)) (m + 1)
def Real (M : Nat) (ln : Int → Int) (bef : Nat → List Int) (t : Nat) (cs : List C2) : Prop := cs.length = M ∧ ∀ u, u < M → (0 ≤ (gC cs u).1 ∨ (gC cs u).1 = -1) ∧ (0 ≤ (gC cs u).1 → Wy ln bef t u (gC cs u).1 (gC cs u).2)
def Its (M : Nat) (it : List V3) : Prop := ∀ y ∈ it, (∃ v : Nat, y.v = v ∧ v < M) ∧ 0 ≤ y.l
theorem relax_real {M t u : Nat} {ln : Int → Int} {bef : Nat → List Int} {cl : List Bool} {l m : Int} (h0 : 0 ≤ l + ln ((u : Int) / 2)) (hw : Wy ln bef t u l m) :
    ∀ (L : List Int) (s : List C2 × List V3), (∀ b ∈ L, b ∈ bef u ∧ ∃ w : Nat, b = w ∧ w < M) → Real M ln bef t s.1 → Its M s.2 →
      Real M ln bef t (L.foldl (relax cl (l + ln ((u : Int) / 2), m + 1)) s).1 ∧ Its M (L.foldl (relax cl (l + ln ((u : Int) / 2), m + 1)) s).2 := by
  intro L
  induction L with
  | nil => intro s _ h1 h2; exact ⟨h1, h2⟩
  | cons b L ih =>
    intro s hL h1 h2
    rw [List.foldl_cons]
    refine ih _ (fun b hb => hL b (by simp [hb])) ?_ ?_
    · obtain ⟨hb, w, rfl, hwM⟩ := hL b (by simp)
      unfold relax
      split
      · refine ⟨by rw [List.length_set]; exact h1.1, fun x hx => ?_⟩
        rw [Int.toNat_natCast]
        rw [gC_set (by rw [h1.1]; exact hwM)]
        by_cases e : x = w
        · subst e
          rw [if_pos rfl]
          exact ⟨.inl h0, fun _ => .cons hb hw⟩
        · rw [if_neg e]
          exact h1.2 x hx
      · exact h1
    · obtain ⟨hb, w, rfl, hwM⟩ := hL b (by simp)
      unfold relax
      split
      · intro y hy
        rcases mem_putL hy with hy | rfl
        · exact h2 y hy
        · exact ⟨⟨w, rfl, hwM⟩, h0⟩
      · exact h2
theorem search_real {M t : Nat} {ln : Int → Int} {bef : Nat → List Int} {cl : List Bool} (hln : ∀ z, 0 ≤ ln z) (hbf : ∀ u, u < M → ∀ b ∈ bef u, ∃ k : Nat, b = k ∧ k < M) :
    ∀ (n : Nat) (cs : List C2) (it : List V3) (res : List C2), Real M ln bef t cs → Its M it → search ln bef cl n cs it = some res → Real M ln bef t res := by
  intro n
  induction n with
  | zero => intro cs it res _ _ h; simp [search] at h
  | succ n ih =>
    intro cs it res h1 h2 h
    cases it with
    | nil =>
      rw [search] at h
      obtain rfl : cs = res := by simpa using h
      exact h1
    | cons x r =>
      rw [search] at h
      have hrest : Its M (restL x r) := fun y hy => h2 y (mem_restL hy)
      split at h
      · cases h
      split at h
      · rename_i he
        split at h
        · cases h
        · obtain ⟨⟨v, hv, hvM⟩, hl⟩ := h2 x (by simp)
          have hx2 : x.v.toNat = v := by rw [hv]; simp
          rw [hv, costAt_nat] at he
          have hw : Wy ln bef t v x.l x.m := by
            have := (h1.2 v hvM).2 (by rw [← he]; exact hl)
            rw [← he] at this
            exact this
          rw [hx2, hv] at h
          have := relax_real (M := M) (cl := cl) (by have := hln ((v : Int) / 2); omega) hw (bef v) (cs, restL x r) (fun b hb => ⟨hb, hbf v hvM b hb⟩) h1 hrest
          exact ih _ _ _ this.1 this.2 h
      · exact ih _ _ _ h1 hrest h
theorem costs_real {M t n : Nat} {ln : Int → Int} {bef : Nat → List Int} {cl : List Bool} {res : List C2} (hcl : ∀ b, shutAt cl b = false) (hln : ∀ z, 0 ≤ ln z) (hbf : ∀ u, u < M → ∀ b ∈ bef u, ∃ k : Nat, b = k ∧ k < M) (ht : t < M)
    (h : costsL ln bef cl M t n = some res) : Real M ln bef t res := by
  unfold costsL at h
  have hc := hcl (t : Int)
  unfold shutAt at hc
  rw [Int.toNat_natCast] at hc
  rw [hc, if_neg (by simp)] at h
  have hl : t < (List.replicate M ((-1, 0) : C2)).length := by simpa using ht
  refine search_real hln hbf n _ _ res ⟨by simp, fun u hu => ?_⟩ ?_ h
  · rw [gC_set hl]
    by_cases e : u = t
    · subst e
      rw [if_pos rfl]
      exact ⟨.inl (Int.le_refl _), fun _ => .nil⟩
    · rw [if_neg e]
      have h2 : gC (List.replicate M ((-1, 0) : C2)) u = (-1, 0) := by unfold gC; rw [List.getElem?_replicate, if_pos hu]; rfl
      rw [h2]
      exact ⟨.inr rfl, fun h => absurd h (by simp)⟩
  · intro y hy
    obtain rfl : y = ⟨0, 0, t⟩ := by simpa using hy
    exact ⟨⟨t, rfl, ht⟩, Int.le_refl _⟩
/-- what is found is at most what any way costs -/
theorem fin_wy {M t : Nat} {ln : Int → Int} {bef : Nat → List Int} {cs : List C2} (h : Fin M t ln bef cs) {w : Nat} {l m : Int} (hw : Wy ln bef t w l m) : w < M → (∀ u, u < M → ∀ b ∈ bef u, ∃ k : Nat, b = k ∧ k < M) → (∀ u (b : Nat), (b : Int) ∈ bef u → b < M → u < M) → 0 ≤ (gC cs w).1 ∧ (gC cs w).1 ≤ l := by
  induction hw with
  | nil =>
    intro _ _ _
    have := h.tgt
    unfold leC at this
    simp only at this
    omega
  | @cons u w l m hb _ ih =>
    intro hwM hbf hsrc
    have huM := hsrc u w hb hwM
    obtain ⟨a1, a2⟩ := ih huM hbf hsrc
    obtain ⟨w', e, _, b1, b2⟩ := h.rel u huM a1 _ hb
    obtain rfl : w = w' := by omega
    unfold leC at b2
    simp only at b2
    exact ⟨b1, by omega⟩
/-- two searches over ways that answer to each other find the same lengths -/
theorem same_len {M t t' : Nat} {ln : Int → Int} {bef bef' : Nat → List Int} {cs cs' : List C2} {f : Nat → Nat} (h : Fin M t ln bef cs) (h' : Fin M t' ln bef' cs') (hr : Real M ln bef t cs) (hr' : Real M ln bef' t' cs')
    (hbf : ∀ u, u < M → ∀ b ∈ bef u, ∃ k : Nat, b = k ∧ k < M) (hbf' : ∀ u, u < M → ∀ b ∈ bef' u, ∃ k : Nat, b = k ∧ k < M) (hsrc : ∀ u (b : Nat), (b : Int) ∈ bef u → b < M → u < M) (hsrc' : ∀ u (b : Nat), (b : Int) ∈ bef' u → b < M → u < M)
    (hf : ∀ u, u < M → f u < M) (hto : ∀ l m u, u < M → Wy ln bef t u l m → Wy ln bef' t' (f u) l m) (hback : ∀ l m u, u < M → Wy ln bef' t' (f u) l m → Wy ln bef t u l m) {u : Nat} (hu : u < M) : (gC cs u).1 = (gC cs' (f u)).1 := by
  have a := hr.2 u hu
  have b := hr'.2 (f u) (hf u hu)
  rcases a.1 with a1 | a1 <;> rcases b.1 with b1 | b1
  · have c1 := fin_wy h' (hto _ _ u hu (a.2 a1)) (hf u hu) hbf' hsrc'
    have c2 := fin_wy h (hback _ _ u hu (b.2 b1)) hu hbf hsrc
    omega
  · have c1 := fin_wy h' (hto _ _ u hu (a.2 a1)) (hf u hu) hbf' hsrc'
    omega
  · have c2 := fin_wy h (hback _ _ u hu (b.2 b1)) hu hbf hsrc
    omega
  · omega
end Go.Proofs.YtcpanfpijljeaaaGreat

/-! partM1: Plain: lists of distances: what they are, that they are one, and that looking at each move tells. -/
namespace Go.Proofs.YtcpanfpijljeaaaGreat
set_option linter.unusedVariables false
set_option linter.unusedSimpArgs false

def gI (l : List Int) (v : Nat) : Int := (l[v]?).getD 0
theorem gI_get {l : List Int} {v : Nat} (h : v < l.length) : gI l v = l[v] := by simp [gI, h]
theorem gI_set {l : List Int} {k u : Nat} {c : Int} (hk : k < l.length) : gI (l.set k c) u = if u = k then c else gI l u := by
  unfold gI
  rw [List.getElem?_set]
  by_cases h : k = u
  · subst h; simp [hk]
  · rw [if_neg h, if_neg (fun e => h e.symm)]
theorem gI_ext {l l' : List Int} {M : Nat} (h : l.length = M) (h' : l'.length = M) (he : ∀ u, u < M → gI l u = gI l' u) : l = l' := by
  apply List.ext_getElem (by omega)
  intro i h1 h2
  have := he i (by omega)
  rwa [gI_get h1, gI_get h2] at this
/-- the lists of lengths to a move -/
structure Dst (M t : Nat) (ln : Int → Int) (nx : Nat → List Nat) (D : List Int) : Prop where
  len : D.length = M
  tM : t < M
  tz : gI D t = 0
  val : ∀ u, u < M → gI D u = -1 ∨ 0 ≤ gI D u
  le : ∀ u, u < M → ∀ b ∈ nx u, 0 ≤ gI D b → 0 ≤ gI D u ∧ gI D u ≤ gI D b + ln ((b : Int) / 2)
  ex : ∀ u, u < M → u ≠ t → 0 ≤ gI D u → ∃ b ∈ nx u, 0 ≤ gI D b ∧ gI D u = gI D b + ln ((b : Int) / 2)
/-- what follows, and how long it is -/
structure Grf (M : Nat) (ln : Int → Int) (nx : Nat → List Nat) (Wm : Int) : Prop where
  nx : ∀ u, u < M → ∀ b ∈ nx u, b < M
  ln : ∀ u : Nat, u < M → 1 ≤ ln ((u : Int) / 2) ∧ ln ((u : Int) / 2) ≤ Wm
theorem dst_low {M t : Nat} {ln : Int → Int} {nx : Nat → List Nat} {Wm : Int} {D D' : List Int} (hg : Grf M ln nx Wm) (h : Dst M t ln nx D) (ht : gI D' t = 0) (hle : ∀ u, u < M → ∀ b ∈ nx u, 0 ≤ gI D' b → 0 ≤ gI D' u ∧ gI D' u ≤ gI D' b + ln ((b : Int) / 2)) :
    ∀ (n u : Nat), u < M → 0 ≤ gI D u → gI D u ≤ n → 0 ≤ gI D' u ∧ gI D' u ≤ gI D u := by
  intro n
  induction n with
  | zero =>
    intro u hu h0 hn
    by_cases e : u = t
    · subst e; rw [ht]; omega
    · obtain ⟨b, hb, b0, he⟩ := h.ex u hu e h0
      have := (hg.ln b (hg.nx u hu b hb)).1
      omega
  | succ n ih =>
    intro u hu h0 hn
    by_cases e : u = t
    · subst e; rw [ht]; omega
    · obtain ⟨b, hb, b0, he⟩ := h.ex u hu e h0
      have hbM := hg.nx u hu b hb
      have := (hg.ln b hbM).1
      obtain ⟨c0, c1⟩ := ih b hbM b0 (by omega)
      have := hle u hu b hb c0
      omega
theorem Dst.uniq {M t : Nat} {ln : Int → Int} {nx : Nat → List Nat} {Wm : Int} {D D' : List Int} (hg : Grf M ln nx Wm) (h : Dst M t ln nx D) (h' : Dst M t ln nx D') : D = D' := by
  refine gI_ext h.len h'.len fun u hu => ?_
  have a := dst_low hg h h'.tz h'.le
  have b := dst_low hg h' h.tz h.le
  rcases h.val u hu with x | x <;> rcases h'.val u hu with y | y
  · omega
  · have := b (gI D' u).toNat u hu y (by omega); omega
  · have := a (gI D u).toNat u hu x (by omega); omega
  · have := b (gI D' u).toNat u hu y (by omega)
    have := a (gI D u).toNat u hu x (by omega); omega
/-- the least of what follows -/
def wantS (ln : Int → Int) (l : List Int) (want : Int) (b : Nat) : Int := if gI l b = -1 then want else if want < 0 ∨ gI l b + ln ((b : Int) / 2) < want then gI l b + ln ((b : Int) / 2) else want
def wantL (ln : Int → Int) (l : List Int) (nx : List Nat) : Int := nx.foldl (wantS ln l) (-1)
theorem want_some {ln : Int → Int} {l : List Int} : ∀ (nx : List Nat) (x : Int), nx.foldl (wantS ln l) x = x ∨ ∃ b ∈ nx, gI l b ≠ -1 ∧ nx.foldl (wantS ln l) x = gI l b + ln ((b : Int) / 2) := by
  intro nx
  induction nx with
  | nil => intro x; exact .inl rfl
  | cons b nx ih =>
    intro x
    rw [List.foldl_cons]
    rcases ih (wantS ln l x b) with h | ⟨c, hc, h1, h2⟩
    · rw [h]
      unfold wantS
      split
      · exact .inl rfl
      · split
        · exact .inr ⟨b, by simp, by assumption, rfl⟩
        · exact .inl rfl
    · exact .inr ⟨c, by simp [hc], h1, h2⟩
theorem want_le {ln : Int → Int} {l : List Int} : ∀ (nx : List Nat) (x : Int), (∀ b ∈ nx, -1 ≤ gI l b ∧ 0 ≤ ln ((b : Int) / 2)) → -1 ≤ x →
    (0 ≤ x → 0 ≤ nx.foldl (wantS ln l) x ∧ nx.foldl (wantS ln l) x ≤ x) ∧ ∀ b ∈ nx, gI l b ≠ -1 → 0 ≤ nx.foldl (wantS ln l) x ∧ nx.foldl (wantS ln l) x ≤ gI l b + ln ((b : Int) / 2) := by
  intro nx
  induction nx with
  | nil => intro x _ _; exact ⟨fun h => ⟨h, Int.le_refl _⟩, fun b hb => by cases hb⟩
  | cons b nx ih =>
    intro x hn hx
    rw [List.foldl_cons]
    have hb := hn b (by simp)
    have hx' : -1 ≤ wantS ln l x b := by
      unfold wantS; split
      · exact hx
      · split <;> omega
    obtain ⟨h1, h2⟩ := ih (wantS ln l x b) (fun c hc => hn c (by simp [hc])) hx'
    refine ⟨fun h0 => ?_, fun c hc hne => ?_⟩
    · have : 0 ≤ wantS ln l x b ∧ wantS ln l x b ≤ x := by
        unfold wantS; split
        · omega
        · split <;> omega
      have := h1 this.1
      omega
    · rcases List.mem_cons.1 hc with rfl | hc
      · have : 0 ≤ wantS ln l x c ∧ wantS ln l x c ≤ gI l c + ln ((c : Int) / 2) := by
          unfold wantS; rw [if_neg hne]
          split <;> omega
        have := h1 this.1
        omega
      · exact h2 c hc hne
def Cons (M t : Nat) (ln : Int → Int) (nx : Nat → List Nat) (l : List Int) : Prop := l.length = M ∧ ∀ u, u < M → gI l u = if u = t then 0 else wantL ln l (nx u)
theorem min_of (f : Nat → Int) : ∀ M, 0 < M → ∃ u, u < M ∧ ∀ v, v < M → f u ≤ f v := by
  intro M
  induction M with
  | zero => intro h; omega
  | succ M ih =>
    intro _
    by_cases h : M = 0
    · subst h; exact ⟨0, by omega, fun v hv => by obtain rfl : v = 0 := by omega
                                                  exact Int.le_refl _⟩
    · obtain ⟨u, hu, hm⟩ := ih (by omega)
      by_cases hc : f u ≤ f M
      · refine ⟨u, by omega, fun v hv => ?_⟩
        by_cases e : v = M
        · subst e; exact hc
        · exact hm v (by omega)
      · refine ⟨M, by omega, fun v hv => ?_⟩
        by_cases e : v = M
        · subst e; exact Int.le_refl _
        · have := hm v (by omega); omega
theorem cons_dst {M t : Nat} {ln : Int → Int} {nx : Nat → List Nat} {Wm : Int} {l : List Int} (hg : Grf M ln nx Wm) (ht : t < M) (h : Cons M t ln nx l) : Dst M t ln nx l := by
  obtain ⟨hl, h⟩ := h
  have tz : gI l t = 0 := by rw [h t ht, if_pos rfl]
  have low : ∀ u, u < M → -1 ≤ gI l u := by
    obtain ⟨u, hu, hm⟩ := min_of (gI l) M (by omega)
    suffices -1 ≤ gI l u from fun v hv => by have := hm v hv; omega
    by_cases e : u = t
    · subst e; omega
    · rcases Int.lt_or_le (gI l u) (-1) with hlt | hge
      · exfalso
        have hw := h u hu
        rw [if_neg e] at hw
        rcases want_some (ln := ln) (l := l) (nx u) (-1) with h1 | ⟨b, hb, _, h2⟩
        · unfold wantL at hw; omega
        · unfold wantL at hw
          have := (hg.ln b (hg.nx u hu b hb)).1
          have := hm b (hg.nx u hu b hb)
          omega
      · exact hge
  have hwl := fun u hu => want_le (ln := ln) (l := l) (nx u) (-1) (fun b hb => ⟨low b (hg.nx u hu b hb), by have := (hg.ln b (hg.nx u hu b hb)).1; omega⟩) (Int.le_refl _)
  refine ⟨hl, ht, tz, fun u hu => ?_, fun u hu b hb h0 => ?_, fun u hu e h0 => ?_⟩
  · have := low u hu; omega
  · have hbM := hg.nx u hu b hb
    have := (hg.ln b hbM).1
    by_cases e : u = t
    · subst e; omega
    · have h2 := (hwl u hu).2 b hb (by omega)
      have hw := h u hu
      rw [if_neg e] at hw
      unfold wantL at hw
      omega
  · have hw := h u hu
    rw [if_neg e] at hw
    unfold wantL at hw
    rcases want_some (ln := ln) (l := l) (nx u) (-1) with h1 | ⟨b, hb, h1, h2⟩
    · omega
    · have := low b (hg.nx u hu b hb)
      exact ⟨b, hb, by omega, by omega⟩
theorem Dst.cons {M t : Nat} {ln : Int → Int} {nx : Nat → List Nat} {Wm : Int} {l : List Int} (hg : Grf M ln nx Wm) (h : Dst M t ln nx l) : Cons M t ln nx l := by
  refine ⟨h.len, fun u hu => ?_⟩
  by_cases e : u = t
  · subst e; rw [if_pos rfl, h.tz]
  · rw [if_neg e]
    have hwl := want_le (ln := ln) (l := l) (nx u) (-1) (fun b hb => ⟨by have := h.val b (hg.nx u hu b hb); omega, by have := (hg.ln b (hg.nx u hu b hb)).1; omega⟩) (Int.le_refl _)
    unfold wantL
    rcases want_some (ln := ln) (l := l) (nx u) (-1) with h1 | ⟨b, hb, h1, h2⟩
    · rw [h1]
      rcases h.val u hu with h3 | h3
      · exact h3
      · obtain ⟨b, hb, b0, _⟩ := h.ex u hu e h3
        have := hwl.2 b hb (by omega)
        omega
    · have hb0 := h.val b (hg.nx u hu b hb)
      obtain ⟨c0, c1⟩ := h.le u hu b hb (by omega)
      obtain ⟨d, hd, d0, d1⟩ := h.ex u hu e c0
      have := hwl.2 d hd (by omega)
      omega
theorem countP_lt {α : Type} {p q : α → Bool} : ∀ {l : List α}, (∀ a ∈ l, p a = true → q a = true) → (∃ a ∈ l, q a = true ∧ p a = false) → l.countP p + 1 ≤ l.countP q := by
  intro l
  induction l with
  | nil => intro _ h; obtain ⟨a, h, _⟩ := h; cases h
  | cons x l ih =>
    intro h1 h2
    have hm : l.countP p ≤ l.countP q := List.countP_mono_left fun a ha => h1 a (by simp [ha])
    rw [List.countP_cons, List.countP_cons]
    obtain ⟨a, ha, hq, hp⟩ := h2
    rcases List.mem_cons.1 ha with rfl | ha
    · rw [hq, hp]; simp; omega
    · have := ih (fun a ha => h1 a (by simp [ha])) ⟨a, ha, hq, hp⟩
      have := h1 x (by simp)
      by_cases e : p x = true
      · rw [e, this e]; simp; omega
      · rw [if_neg e]; split <;> omega
theorem dst_cnt {M t : Nat} {ln : Int → Int} {nx : Nat → List Nat} {Wm : Int} {D : List Int} (hg : Grf M ln nx Wm) (h : Dst M t ln nx D) : ∀ (n u : Nat), u < M → 0 ≤ gI D u → gI D u ≤ n →
    gI D u ≤ ((List.range M).countP fun v => decide (0 ≤ gI D v ∧ gI D v < gI D u) : Nat) * Wm := by
  intro n
  have hW : 0 ≤ Wm := by have := hg.ln t h.tM; omega
  induction n with
  | zero =>
    intro u hu h0 hn
    have := Int.mul_nonneg (Int.natCast_nonneg ((List.range M).countP fun v => decide (0 ≤ gI D v ∧ gI D v < gI D u))) hW
    omega
  | succ n ih =>
    intro u hu h0 hn
    by_cases e : u = t
    · have := Int.mul_nonneg (Int.natCast_nonneg ((List.range M).countP fun v => decide (0 ≤ gI D v ∧ gI D v < gI D u))) hW
      subst e
      rw [h.tz] at *
      omega
    · obtain ⟨b, hb, b0, he⟩ := h.ex u hu e h0
      have hbM := hg.nx u hu b hb
      have hl := hg.ln b hbM
      have h1 := ih b hbM b0 (by omega)
      have h2 : ((List.range M).countP fun v => decide (0 ≤ gI D v ∧ gI D v < gI D b)) + 1 ≤ ((List.range M).countP fun v => decide (0 ≤ gI D v ∧ gI D v < gI D u)) := by
        refine countP_lt (fun a _ ha => ?_) ⟨b, by simpa using hbM, ?_, ?_⟩
        · simp only [decide_eq_true_eq] at ha ⊢; omega
        · simp only [decide_eq_true_eq]; omega
        · simp
      have h3 : ((((List.range M).countP fun v => decide (0 ≤ gI D v ∧ gI D v < gI D b)) + 1 : Nat) : Int) * Wm ≤ (((List.range M).countP fun v => decide (0 ≤ gI D v ∧ gI D v < gI D u)) : Nat) * Wm :=
        Int.mul_le_mul_of_nonneg_right (by omega) hW
      rw [Int.natCast_add, Int.add_mul] at h3
      omega
theorem Dst.bd {M t : Nat} {ln : Int → Int} {nx : Nat → List Nat} {Wm : Int} {D : List Int} (hg : Grf M ln nx Wm) (h : Dst M t ln nx D) {u : Nat} (hu : u < M) : -1 ≤ gI D u ∧ gI D u ≤ (M : Int) * Wm := by
  have hW : 0 ≤ Wm := by have := hg.ln t h.tM; omega
  have hM := Int.mul_nonneg (Int.natCast_nonneg M) hW
  rcases h.val u hu with h0 | h0
  · omega
  · have h1 := dst_cnt hg h (gI D u).toNat u hu h0 (by omega)
    have h2 : ((List.range M).countP fun v => decide (0 ≤ gI D v ∧ gI D v < gI D u)) ≤ M := by
      have := List.countP_le_length (p := fun v => decide (0 ≤ gI D v ∧ gI D v < gI D u)) (l := List.range M)
      rwa [List.length_range] at this
    have h3 : (((List.range M).countP fun v => decide (0 ≤ gI D v ∧ gI D v < gI D u) : Nat) : Int) * Wm ≤ (M : Int) * Wm := Int.mul_le_mul_of_nonneg_right (by omega) hW
    omega
/-- from what the search gives -/
theorem fin_next {M t : Nat} {ln : Int → Int} {bef : Nat → List Int} {nx : Nat → List Nat} {cs : List C2} (h : Fin M t ln bef cs) (hr : Real M ln bef t cs) (hbn : ∀ u b : Nat, (u : Int) ∈ bef b → b ∈ nx u ∧ b < M) {u : Nat} (hu : u < M) (ht : u ≠ t) (h0 : 0 ≤ (gC cs u).1) :
    ∃ b ∈ nx u, 0 ≤ (gC cs b).1 ∧ (gC cs b).1 + ln ((b : Int) / 2) = (gC cs u).1 ∧ (gC cs b).2 + 1 = (gC cs u).2 := by
  have hw := (hr.2 u hu).2 h0
  generalize hl : (gC cs u).1 = L at hw
  generalize hm : (gC cs u).2 = K at hw
  cases hw with
  | nil => exact (ht rfl).elim
  | @cons b _ l m hb hw =>
    obtain ⟨hbn1, hbM⟩ := hbn u b hb
    -- b's label is at most what the way costs
    have key : ∀ {w : Nat} {l m : Int}, Wy ln bef t w l m → w < M → 0 ≤ (gC cs w).1 ∧ leC (gC cs w) (l, m) := by
      intro w l m hw
      induction hw with
      | nil => intro _; exact ⟨h.tgt.2.1, h.tgt.2.2⟩
      | @cons u w l m hb _ ih =>
        intro hwM
        obtain ⟨a1, a2⟩ := ih (hbn _ _ hb).2
        obtain ⟨w', e, _, b1, b2⟩ := h.rel u (hbn _ _ hb).2 a1 _ hb
        obtain rfl : w = w' := by omega
        refine ⟨b1, ?_⟩
        unfold leC at *
        simp only at *
        omega
    obtain ⟨k0, k1⟩ := key hw hbM
    obtain ⟨w', e, _, b1, b2⟩ := h.rel b hbM k0 _ hb
    obtain rfl : u = w' := by omega
    refine ⟨b, hbn1, k0, ?_⟩
    unfold leC at *
    simp only at *
    omega
def gC_len (cs : List C2) : List Int := cs.map (·.1)
theorem gI_map {cs : List C2} {u : Nat} : gI (cs.map (·.1)) u = (gC cs u).1 := by
  unfold gI gC
  rw [List.getElem?_map]
  cases cs[u]? <;> rfl
theorem fin_dst {M t : Nat} {ln : Int → Int} {bef : Nat → List Int} {nx : Nat → List Nat} {cs : List C2} (h : Fin M t ln bef cs) (hr : Real M ln bef t cs) (hbn : ∀ u b : Nat, (u : Int) ∈ bef b → b ∈ nx u ∧ b < M) (hnb : ∀ u b : Nat, u < M → b ∈ nx u → (u : Int) ∈ bef b ∧ b < M) : Dst M t ln nx (cs.map (·.1)) := by
  refine ⟨by rw [List.length_map, h.len], h.tgt.1, ?_, fun u hu => ?_, fun u hu b hb h0 => ?_, fun u hu e h0 => ?_⟩
  · rw [gI_map]; have := h.tgt.2; unfold leC at this; simp only at this; omega
  · rw [gI_map]; have := (hr.2 u hu).1; omega
  · rw [gI_map] at h0 ⊢
    obtain ⟨hb1, hbM⟩ := hnb u b hu hb
    obtain ⟨w', e, _, b1, b2⟩ := h.rel b hbM h0 _ hb1
    obtain rfl : u = w' := by omega
    rw [gI_map]
    unfold leC at b2
    simp only at b2
    omega
  · rw [gI_map] at h0
    obtain ⟨b, hb, b0, b1, _⟩ := fin_next h hr hbn hu e h0
    exact ⟨b, hb, by rw [gI_map]; exact b0, by rw [gI_map, gI_map]; omega⟩
/-- the lists on the way there -/
structure Rlx (M t : Nat) (D : List Int) (Wm : Int) (l : List Int) : Prop where
  len : l.length = M
  tM : t < M
  tz : gI l t = 0
  val : ∀ u, u < M → gI l u = -1 ∨ (0 ≤ gI D u ∧ gI D u ≤ gI l u)
  bd : ∀ u, u < M → gI l u + Wm ≤ (l.countP fun x => decide (0 ≤ x) : Nat) * Wm
def potI (B : Nat) (x : Int) : Nat := if x < 0 then B + 1 else x.toNat
def pot (B : Nat) (l : List Int) : Nat := (l.map (potI B)).sum
theorem sum_set {f : Int → Nat} {v : Int} : ∀ {l : List Int} {i : Nat} (h : i < l.length), ((l.set i v).map f).sum + f l[i] = (l.map f).sum + f v := by
  intro l
  induction l with
  | nil => intro i h; simp at h
  | cons x l ih =>
    intro i h
    cases i with
    | zero => simp; omega
    | succ i =>
      have := ih (i := i) (by simpa using h)
      simp only [List.set_cons_succ, List.map_cons, List.sum_cons, List.getElem_cons_succ]
      omega
theorem cnt_set {p : Int → Bool} {v : Int} : ∀ {l : List Int} {i : Nat} (h : i < l.length), (l.set i v).countP p + (if p l[i] then 1 else 0) = l.countP p + (if p v then 1 else 0) := by
  intro l
  induction l with
  | nil => intro i h; simp at h
  | cons x l ih =>
    intro i h
    cases i with
    | zero => simp [List.countP_cons]; omega
    | succ i =>
      have := ih (i := i) (by simpa using h)
      simp only [List.set_cons_succ, List.countP_cons, List.getElem_cons_succ]
      omega
theorem Rlx.bdM {M t : Nat} {D : List Int} {Wm : Int} {l : List Int} (h : Rlx M t D Wm l) (hW : 0 ≤ Wm) {u : Nat} (hu : u < M) : gI l u + Wm ≤ (M : Int) * Wm := by
  have h1 := h.bd u hu
  have h2 : (l.countP fun x => decide (0 ≤ x)) ≤ M := by have := List.countP_le_length (p := fun x : Int => decide (0 ≤ x)) (l := l); rwa [h.len] at this
  have h3 : (((l.countP fun x => decide (0 ≤ x)) : Nat) : Int) * Wm ≤ (M : Int) * Wm := Int.mul_le_mul_of_nonneg_right (by omega) hW
  omega
theorem Rlx.set {M t : Nat} {ln : Int → Int} {nx : Nat → List Nat} {Wm : Int} {D : List Int} {l : List Int} (hg : Grf M ln nx Wm) (hD : Dst M t ln nx D) (h : Rlx M t D Wm l) {u b : Nat} (hu : u < M) (hb : b ∈ nx u) (h0 : 0 ≤ gI l b) (hx : gI l u < 0 ∨ gI l b + ln ((b : Int) / 2) < gI l u) :
    Rlx M t D Wm (l.set u (gI l b + ln ((b : Int) / 2))) ∧ pot ((M : Int) * Wm).toNat (l.set u (gI l b + ln ((b : Int) / 2))) < pot ((M : Int) * Wm).toNat l := by
  have hbM := hg.nx u hu b hb
  have hl := hg.ln b hbM
  have hW : 0 ≤ Wm := by omega
  have hut : u ≠ t := by
    rintro rfl
    have := h.tz
    omega
  have hul : u < l.length := by rw [h.len]; exact hu
  have hv := h.val b hbM
  have hle := hD.le u hu b hb (by omega)
  have hgu := gI_get hul
  have hcs := cnt_set (p := fun x : Int => decide (0 ≤ x)) (v := gI l b + ln ((b : Int) / 2)) hul
  rw [← hgu] at hcs
  have hnn : decide (0 ≤ gI l b + ln ((b : Int) / 2)) = true := by rw [decide_eq_true_eq]; omega
  rw [hnn, if_pos rfl] at hcs
  have hbb := h.bd b hbM
  have hbbM := h.bdM hW hbM
  have hv' := h.val u hu
  refine ⟨⟨by rw [List.length_set, h.len], h.tM, by rw [gI_set hul, if_neg (fun e => hut e.symm), h.tz], fun x hxM => ?_, fun x hxM => ?_⟩, ?_⟩
  · rw [gI_set hul]
    split
    · rename_i e; subst e; exact .inr (by omega)
    · exact h.val x hxM
  · have hgx : gI (l.set u (gI l b + ln ((b : Int) / 2))) x = if x = u then gI l b + ln ((b : Int) / 2) else gI l x := gI_set hul
    rw [hgx]
    have hbx := h.bd x hxM
    have hbu := h.bd u hu
    by_cases hn : 0 ≤ gI l u
    · have : decide (0 ≤ gI l u) = true := by rw [decide_eq_true_eq]; exact hn
      rw [this, if_pos rfl] at hcs
      have e : ((l.set u (gI l b + ln ((b : Int) / 2))).countP fun x => decide (0 ≤ x)) = l.countP fun x => decide (0 ≤ x) := by omega
      rw [e]
      split <;> omega
    · have : decide (0 ≤ gI l u) = false := by rw [decide_eq_false_iff_not]; exact hn
      rw [this] at hcs
      have e : ((l.set u (gI l b + ln ((b : Int) / 2))).countP fun x => decide (0 ≤ x)) = (l.countP fun x => decide (0 ≤ x)) + 1 := by simpa using hcs
      rw [e, Int.natCast_add, Int.add_mul]
      split <;> omega
  · unfold pot
    have := sum_set (f := potI ((M : Int) * Wm).toNat) (v := gI l b + ln ((b : Int) / 2)) hul
    rw [← hgu] at this
    have h1 : potI ((M : Int) * Wm).toNat (gI l b + ln ((b : Int) / 2)) < potI ((M : Int) * Wm).toNat (gI l u) := by
      unfold potI
      rw [if_neg (by omega)]
      split <;> omega
    omega
theorem Rlx.done {M t : Nat} {ln : Int → Int} {nx : Nat → List Nat} {Wm : Int} {D : List Int} {l : List Int} (hg : Grf M ln nx Wm) (hD : Dst M t ln nx D) (h : Rlx M t D Wm l) (hle : ∀ u, u < M → ∀ b ∈ nx u, 0 ≤ gI l b → 0 ≤ gI l u ∧ gI l u ≤ gI l b + ln ((b : Int) / 2)) : l = D := by
  refine gI_ext h.len hD.len fun u hu => ?_
  have a := dst_low hg hD h.tz hle
  have v := h.val u hu
  rcases hD.val u hu with x | x
  · omega
  · have := a (gI D u).toNat u hu x (by omega); omega
theorem Rlx.start {M t : Nat} {ln : Int → Int} {nx : Nat → List Nat} {Wm : Int} {D : List Int} (hg : Grf M ln nx Wm) (hD : Dst M t ln nx D) : Rlx M t D Wm ((List.replicate M (-1)).set t 0) := by
  have hW : 0 ≤ Wm := by have := hg.ln t hD.tM; omega
  have ht : t < (List.replicate M (-1 : Int)).length := by simpa using hD.tM
  have hc := cnt_set (p := fun x : Int => decide (0 ≤ x)) (v := 0) ht
  have h1 : ((List.replicate M (-1 : Int)).set t 0).countP (fun x => decide (0 ≤ x)) = 1 := by
    rw [List.countP_replicate] at hc
    simpa using hc
  refine ⟨by simp, hD.tM, by rw [gI_set ht, if_pos rfl], fun u hu => ?_, fun u hu => ?_⟩
  · rw [gI_set ht]
    split
    · rename_i e; subst e; exact .inr (by rw [hD.tz]; omega)
    · left; simp [gI, hu]
  · rw [h1, gI_set ht]
    split
    · omega
    · have : gI (List.replicate M (-1)) u = -1 := by simp [gI, hu]
      rw [this]; omega

/-- the moves that follow, as numbers -/
def nxN (p : Pl) (u : Nat) : List Nat := (nextL p u).map Int.toNat
theorem mem_nxN {p : Pl} (hv : Vld p) {u b : Nat} (hu : u < 2 * p.rails.length) : b ∈ nxN p u ↔ (b : Int) ∈ nextL p u := by
  unfold nxN
  rw [List.mem_map]
  constructor
  · rintro ⟨z, hz, rfl⟩
    have := nextL_bd hv hu z hz
    rwa [show ((z.toNat : Nat) : Int) = z by omega]
  · intro h; exact ⟨_, h, by simp⟩
theorem lenTo_ok {l : List S} : ∀ k, (∀ j, j < k → 1 ≤ far (sAt l j) (sAt l (j + 1)) ∧ far (sAt l j) (sAt l (j + 1)) ≤ 1000000) → k ≤ lenTo l k ∧ lenTo l k ≤ k * 1000000 := by
  intro k
  induction k with
  | zero => intro _; simp [lenTo]
  | succ k ih =>
    intro h
    have := ih fun j hj => h j (by omega)
    have := h k (by omega)
    simp only [lenTo]
    omega
theorem lenAt_ok {p : Pl} (hv : Vld p) {r : Nat} (hr : r < p.rails.length) : 1 ≤ lenAt p (r : Int) ∧ lenAt p (r : Int) ≤ 31000000 := by
  have h1 := hv.rail hr
  have h2 := (railB_ix h1.1).2.2
  have hA := allR_line (spots_ok hv.nodes) h1.1
  have h3 := (okL_iff _).1 h1.2
  have hl : (lineOf p p.rails[r]).length = p.rails[r].shape.length + 2 := by simp [lineOf]
  have h4 := lenTo_ok (l := lineOf p p.rails[r]) ((lineOf p p.rails[r]).length - 1) fun j hj => by
    have h5 := h3 j hj
    rw [okD_far (sqd_lt (hA j (by omega)) (hA (j + 1) (by omega)))] at h5
    exact of_decide_eq_true h5
  have h6 : lenAt p (r : Int) = ((lenOf (lineOf p p.rails[r]) : Nat) : Int) := by simp [lenAt, lensOf, lenZ, hr]
  rw [h6]
  unfold lenOf
  omega
theorem plan_gr {p : Pl} (hv : Vld p) : Grf (2 * p.rails.length) (lenAt p) (nxN p) 31000000 := by
  refine ⟨fun u hu b hb => ?_, fun u hu => ?_⟩
  · have := nextL_bd hv hu _ ((mem_nxN hv hu).1 hb)
    omega
  · have := lenAt_ok hv (r := u / 2) (by omega)
    rwa [show (((u / 2 : Nat)) : Int) = (u : Int) / 2 by omega] at this
end Go.Proofs.YtcpanfpijljeaaaGreat

/-! partM2: Contract: the specification's Distances. -/
namespace Go.Proofs.YtcpanfpijljeaaaGreat
set_option linter.unusedVariables false
set_option linter.unusedSimpArgs false
open Go.RowKit

theorem endNo_moveU {x : Int} : endNo (moveE x) = x := by
  unfold endNo moveE
  by_cases h : x % 2 = 1
  · simp [h]; omega
  · simp [h]; omega
theorem keyE_moveU (k : Nat) : keyE (moveE (k : Int)) = k := by
  unfold keyE; rw [endNo_moveU]; simp
theorem moveE_in {p : Pl} {k : Nat} (h : k < 2 * p.rails.length) : railIn p (moveE (k : Int)).rail = true := by
  unfold moveE railIn; simp; omega
theorem rLength_in (A A2 : Option Addr) (c c2 : Nat) (p : Pl) (r : Int) (w : World) (hP : PlAt w w.heap.size A c A2 c2 p) (hv : Vld p) (hr : railIn p r = true) :
    Calls Tryz.prog 35 #[.agg #[.slice A p.nodes.length c, .slice A2 p.rails.length c2], .int .i64 r] w (PlainPost (.int .i64 (lenAt p r)) w) := by
  have h2 := of_decide_eq_true hr
  obtain ⟨k, rfl⟩ := Int.eq_ofNat_of_zero_le h2.1
  have hk : k < p.rails.length := by omega
  have h1 := railB_ix (hv.rail hk).1
  refine (rLength_any A A2 c c2 p k w hP hk h1.1 h1.2.1 (by omega) (allR_line (spots_ok hv.nodes) (hv.rail hk).1)).mono ?_
  rintro e w' ⟨rfl, hb⟩
  exact ⟨by rw [show lenAt p (k : Int) = ((lenOf (lineOf p p.rails[k]) : Nat) : Int) by simp [lenAt, lensOf, lenZ, hk]], hb⟩

/-- the first k are -1, the others 0 -/
def ngTo (M k : Nat) : List Int := List.replicate k (-1) ++ List.replicate (M - k) 0
theorem ngTo_len {M k : Nat} (h : k ≤ M) : (ngTo M k).length = M := by simp [ngTo]; omega
theorem ngTo_set {M k : Nat} (h : k < M) : (ngTo M k).set k (-1) = ngTo M (k + 1) := by
  unfold ngTo
  rw [List.set_append_right _ _ (by simp)]
  simp only [List.length_replicate, Nat.sub_self]
  rw [show M - k = (M - (k + 1)) + 1 by omega, List.replicate_succ, List.set_cons_zero, List.replicate_succ', List.append_assoc]
  rfl
theorem ngTo_all {M : Nat} : ngTo M M = List.replicate M (-1) := by simp [ngTo]

def potW (B : Nat) (w : World) (b : Nat) : Nat := match w.heap[b]? with
  | some (.cells cs _ _) => (cs.toList.map fun v => match v with | .int _ n => potI B n | _ => 0).sum
  | _ => 0
theorem potW_is {B : Nat} {w : World} {b : Nat} {l : List Int} (h : IRow w b l) : potW B w b = pot B l := by
  unfold potW pot
  unfold IRow at h
  rw [h]
  simp only
  clear h
  induction l with
  | nil => rfl
  | cons x l ih =>
    simp only [List.map_cons, List.sum_cons] at ih ⊢
    rw [ih]
def flagV : Value → Nat
  | .bool true => 0
  | _ => 1

/-- the row of 'Distances' -/
structure DS (M t : Nat) (D : List Int) (Wm : Int) (W1 wr : World) (S : Nat) (l : List Int) : Prop where
  r : IRow wr S l
  x : Rlx M t D Wm l
  be : Below S W1 wr
section
variable {M t : Nat} {D : List Int} {Wm : Int} {W1 wr w2 : World} {S : Nat} {l : List Int}
theorem DS.sz (h : DS M t D Wm W1 wr S l) : S + 1 ≤ wr.heap.size := h.r.lt
theorem DS.next (h : DS M t D Wm W1 wr S l) (hb : Below wr.heap.size wr w2) : DS M t D Wm W1 w2 S l :=
  ⟨h.r.below hb h.r.lt, h.x, h.be.trans (hb.mono (by have := h.sz; omega))⟩
theorem DS.set {k : Nat} {x : Int} (h : DS M t D Wm W1 wr S l) (hx : Rlx M t D Wm (l.set k x)) : DS M t D Wm W1 (wr.setCell ⟨S, k, none⟩ (.int .i64 x)) S (l.set k x) :=
  ⟨h.r.set k x, hx, h.be.setCell (p := ⟨S, k, none⟩) (Nat.le_refl _) _⟩
end
/-- the first moves are right -/
def okTo1 (ln : Int → Int) (nx : Nat → List Nat) (l : List Int) (i : Nat) : Prop := ∀ u, u < i → ∀ b ∈ nx u, 0 ≤ gI l b → 0 ≤ gI l u ∧ gI l u ≤ gI l b + ln ((b : Int) / 2)
def okUp (ln : Int → Int) (nx : Nat → List Nat) (l : List Int) (u j : Nat) : Prop := ∀ i, i < j → ∀ b, (nx u)[i]? = some b → 0 ≤ gI l b → 0 ≤ gI l u ∧ gI l u ≤ gI l b + ln ((b : Int) / 2)
theorem okUp_all {ln : Int → Int} {nx : Nat → List Nat} {l : List Int} {u : Nat} (h : okTo1 ln nx l u) (h2 : okUp ln nx l u (nx u).length) : okTo1 ln nx l (u + 1) := by
  intro v hv b hb h0
  by_cases e : v = u
  · subst e
    obtain ⟨i, hi, rfl⟩ := List.getElem_of_mem hb
    exact h2 i hi _ (List.getElem?_eq_getElem hi) h0
  · exact h v (by omega) b hb h0

set_option maxRecDepth 100000 in
set_option maxHeartbeats 4000000 in
theorem rDistances_any (A A2 : Option Addr) (c c2 M : Nat) (D : List Int) (p : Pl) (m : E) (w : World) (hM : 2 * p.rails.length = M) (hP : PlAt w w.heap.size A c A2 c2 p) (hv : Vld p) (hm : railIn p m.rail = true)
    (hD : Dst M (keyE m) (lenAt p) (nxN p) D) :
    Calls Tryz.prog 31 #[.agg #[.slice A p.nodes.length c, .slice A2 p.rails.length c2], .agg #[.int .i64 m.rail, .bool m.last]] w fun e w' => (∃ rb, e = .returned (.slice (some ⟨rb, 0, none⟩) M M) ∧ IRow w' rb D ∧ w.heap.size ≤ rb) ∧ Below w.heap.size w w' := by
  obtain ⟨i1, hi1, hy0, hy1, hy2⟩ := info_parts inf3
  have hsz := of_decide_eq_true hv.sizes
  have hM8 : M ≤ 800 := by omega
  have hMM : 2 * (p.rails.length : Int) = (M : Int) := by omega
  have hg : Grf M (lenAt p) (nxN p) 31000000 := by rw [← hM]; exact plan_gr hv
  have hmb : ∀ W : World, (Instr.makeSlice 50 (.int .i64 (M : Int)) (.int .i64 (M : Int))).run Tryz.prog W = .ok (.slice (some ⟨W.heap.size, 0, none⟩) M M) (W.alloc (.cells (madeCells #[.int .i64 0] M) 3)) := fun W => by
    have := run_mk (P := Tryz.prog) 50 3 i1 _ 1 Tryz.underlying50 hi1 hy0 hy1 (M : Int) (M : Int) M M rfl rfl (by omega) (by rw [hy2]; omega) (by omega) W
    rw [this, Nat.mul_one]; rfl
  have hk1 := key_in hm
  have hkm : keyE m < M := by omega
  have hr0 : 0 ≤ m.rail := hk1.1
  have hr1 : m.rail ≤ 1000000 := by have := of_decide_eq_true hm; omega
  have HKE := Lib.hid (show endNo ⟨m.rail, m.last⟩ = ((keyE m : Nat) : Int) from hk1.2.2)
  obtain ⟨t, ht⟩ : ∃ t, keyE m = t := ⟨_, rfl⟩
  rw [ht] at hD hkm HKE
  clear ht hk1
  have HD := Lib.hid hD; have HG := Lib.hid hg; have HV := Lib.hid hv
  have HMM := Lib.hid hM
  have HNL := Lib.hid (show ∀ k, k < M → ∀ j, j < (nextL p k).length → ∃ b : Nat, (nextL p k)[j]? = some (b : Int) ∧ (nxN p k)[j]? = some b ∧ b < M ∧ b ∈ nxN p k from fun k hk j hj => by
    have hz := nextL_bd hv (by omega) _ (List.getElem_mem hj)
    refine ⟨(nextL p k)[j].toNat, ?_, ?_, by omega, ?_⟩
    · rw [List.getElem?_eq_getElem hj]; congr 1; omega
    · unfold nxN; rw [List.getElem?_map, List.getElem?_eq_getElem hj]; rfl
    · unfold nxN; exact List.mem_map.2 ⟨_, List.getElem_mem hj, rfl⟩)
  have HNN := Lib.hid (show ∀ k, (nxN p k).length = (nextL p k).length from fun k => by simp [nxN])
  have hb0 : Below w.heap.size w (((w.alloc (.cells #[.slice A p.nodes.length c, .slice A2 p.rails.length c2] 25)).alloc (.cells #[.int .i64 m.rail, .bool m.last] 27)).alloc (.cells (madeCells #[.int .i64 0] M) 3)) := (((Below.refl _ w).alloc (Nat.le_refl _) _).alloc (by simp) _).alloc (by simp; omega) _
  have HPA0 := Lib.hid hP
  have HX := Lib.hid (show ∀ j : Nat, (((w.alloc (.cells #[.slice A p.nodes.length c, .slice A2 p.rails.length c2] 25)).alloc (.cells #[.int .i64 m.rail, .bool m.last] 27)).alloc (.cells (madeCells #[.int .i64 0] M) 3)).cell? ⟨w.heap.size, j, none⟩ = #[.slice A p.nodes.length c, .slice A2 p.rails.length c2][j]? ∧ (((w.alloc (.cells #[.slice A p.nodes.length c, .slice A2 p.rails.length c2] 25)).alloc (.cells #[.int .i64 m.rail, .bool m.last] 27)).alloc (.cells (madeCells #[.int .i64 0] M) 3)).cell? ⟨w.heap.size + 1, j, none⟩ = #[.int .i64 m.rail, .bool m.last][j]? from fun j => by
    have h1 := cell_keep1 (o := .cells #[.int .i64 m.rail, .bool m.last] 27) (cell_new1 w #[.slice A p.nodes.length c, .slice A2 p.rails.length c2] 25 j) (by simp)
    have h2 := cell_new1 (w.alloc (.cells #[.slice A p.nodes.length c, .slice A2 p.rails.length c2] 25)) #[.int .i64 m.rail, .bool m.last] 27 j
    rw [show (w.alloc (.cells #[.slice A p.nodes.length c, .slice A2 p.rails.length c2] 25)).heap.size = w.heap.size + 1 by simp] at h2
    exact ⟨cell_keep1 h1 (by simp; omega), cell_keep1 h2 (by simp)⟩)
  have hbr := IRow.made ((w.alloc (.cells #[.slice A p.nodes.length c, .slice A2 p.rails.length c2] 25)).alloc (.cells #[.int .i64 m.rail, .bool m.last] 27)) M
  rw [show ((w.alloc (.cells #[.slice A p.nodes.length c, .slice A2 p.rails.length c2] 25)).alloc (.cells #[.int .i64 m.rail, .bool m.last] 27)).heap.size = w.heap.size + 2 by simp] at hbr
  have hz3 : (((w.alloc (.cells #[.slice A p.nodes.length c, .slice A2 p.rails.length c2] 25)).alloc (.cells #[.int .i64 m.rail, .bool m.last] 27)).alloc (.cells (madeCells #[.int .i64 0] M) 3)).heap.size = w.heap.size + 3 := by simp
  have HB0 := Lib.hid hb0
  have HBR := Lib.hid hbr
  clear hP hv hm hsz hb0 hbr hM hD hg
  go_enter Tryz.func31, Tryz.ntmps31
  go_wp2
  clear hmb
  generalize (((w.alloc (.cells #[.slice A p.nodes.length c, .slice A2 p.rails.length c2] 25)).alloc (.cells #[.int .i64 m.rail, .bool m.last] 27)).alloc (.cells (madeCells #[.int .i64 0] M) 3)) = W1 at *
  have HPA := Lib.hid (show ∀ w7 : World, Below (w.heap.size + 2) W1 w7 → PlAt w7 w7.heap.size A c A2 c2 p from fun w7 hb => (HPA0.out.below (HB0.out.trans (hb.mono (by omega)))).more (by have := hb.size; omega))
  have HKP := Lib.hid (show ∀ wx : World, Below (w.heap.size + 2) W1 wx → wx.cell? ⟨w.heap.size, 0, none⟩ = some (.slice A p.nodes.length c) ∧ wx.cell? ⟨w.heap.size, 1, none⟩ = some (.slice A2 p.rails.length c2) ∧ wx.cell? ⟨w.heap.size + 1, 0, none⟩ = some (.int .i64 m.rail) ∧ wx.cell? ⟨w.heap.size + 1, 1, none⟩ = some (.bool m.last) from fun wx hb =>
    ⟨(hb.cell (p := ⟨w.heap.size, 0, none⟩) (by simp)).trans (HX.out 0).1, (hb.cell (p := ⟨w.heap.size, 1, none⟩) (by simp)).trans (HX.out 1).1, (hb.cell (p := ⟨w.heap.size + 1, 0, none⟩) (by simp)).trans (HX.out 0).2, (hb.cell (p := ⟨w.heap.size + 1, 1, none⟩) (by simp)).trans (HX.out 1).2⟩)
  clear HX HPA0
  obtain ⟨S, hS⟩ : ∃ S, w.heap.size + 2 = S := ⟨_, rfl⟩
  have hS' : w.heap.size + 1 + 1 = S := hS
  rw [hS] at HPA HKP HBR
  have hSa : S < w.heap.size + 3 := by omega
  have hSb : w.heap.size + 1 < S := by omega
  simp only [hS'] at *
  clear hS'
  go_loopw [6] (fun i wr => ∃ k : Nat, k ≤ M ∧ i = .int .i64 (k : Int) ∧ IRow wr S (ngTo M k) ∧ Below S W1 wr) (fun i _ => M - (intOf i).toNat)
  case atStart => exact ⟨0, Nat.zero_le _, rfl, by simpa [ngTo] using HBR.out, Below.refl _ _⟩
  case round =>
    obtain ⟨k, hk, rfl, hrow, hbe⟩ := hrel
    have HR := Lib.hid hrow; have HB := Lib.hid hbe
    have hzr := hbe.size
    have hlr := hrow.lt
    clear hrow hbe
    by_cases hlt : k < M
    · have hk0 : (0 : Int) ≤ (k : Int) := by omega
      have hk1 : (k : Int) < (M : Int) := by omega
      have hkl : k < (ngTo M k).length := by rw [ngTo_len hk]; exact hlt
      have r0 := HR.out.cell hkl
      have r1 := HR.out.frozen k
      obtain ⟨x0, hx0⟩ : ∃ z, (ngTo M k)[k]'hkl = z := ⟨_, rfl⟩
      rw [hx0] at r0
      clear hx0 hkl
      go_wp2
      go_roundw
      case rel => exact ⟨k + 1, by omega, by go_num, by rw [← ngTo_set hlt]; exact HR.out.set k _, HB.out.setCell (p := ⟨S, k, none⟩) (Nat.le_refl _) _⟩
      case measure => simp [intOf]; omega
    · obtain rfl : M = k := by omega
      rename_i nM
      obtain ⟨m0, m1, m2, m3⟩ := HKP.out wr HB.out
      have HR2 := Lib.hid (show IRow wr S (List.replicate M (-1)) by have := HR.out; rwa [ngTo_all] at this)
      have hzr2 := HB.out.size
      clear HR HBR
      go_wp2_with fail
      (with_reducible refine (rNumber_any m.rail m.last _ hr0 hr1).mono ?_)
      rintro e w5 ⟨rfl, hb5⟩
      rw [HKE.out]
      have hrow5 := HR2.out.below hb5 HR2.out.lt
      have HB5 := Lib.hid (HB.out.trans (hb5.mono (by omega)))
      have ht5 : t < (List.replicate M (-1 : Int)).length := by simpa using hkm
      have t0 := hrow5.cell ht5
      have t1 := hrow5.frozen t
      rw [List.getElem_replicate] at t0
      have i0 : (0 : Int) ≤ (t : Int) := by omega
      have i1' : (t : Int) < (M : Int) := by omega
      have HD0 := Lib.hid (show DS M t D 31000000 W1 (w5.setCell ⟨S, t, none⟩ (.int .i64 0)) S ((List.replicate M (-1)).set t 0) from
        ⟨hrow5.set t 0, Rlx.start HG.out HD.out, HB5.out.setCell (p := ⟨S, t, none⟩) (Nat.le_refl _) _⟩)
      clear hb5 hrow5 m0 m1 m2 m3 HR2 ht5
      go_wp2
      clear t0 t1
      generalize w5.setCell ⟨S, t, none⟩ (.int .i64 0) = W6 at *
      obtain ⟨BB, hBB⟩ : ∃ B : Nat, ((M : Int) * 31000000).toNat = B := ⟨_, rfl⟩
      have HBB := Lib.hid hBB
      clear hBB
      go_loopw [7] (fun s7 wr => ∃ (b : Bool) (l : List Int), s7 = .bool b ∧ DS M t D 31000000 W1 wr S l ∧ (b = true → okTo1 (lenAt p) (nxN p) l M)) (fun s7 wr => 2 * potW BB wr S + flagV s7)
      case atStart => exact ⟨false, _, rfl, HD0.out, fun h => by cases h⟩
      case round =>
        obtain ⟨b, l0, rfl, hds, hok⟩ := hrel
        cases b
        case true =>
          have HL := Lib.hid (show l0 = D from hds.x.done HG.out HD.out (hok rfl))
          have HDS := Lib.hid hds
          clear hds hok
          go_wp2
          go_ret
          exact ⟨⟨S, rfl, by rw [← HL.out]; exact HDS.out.r, by omega⟩, HB0.out.trans (HDS.out.be.mono (by omega))⟩
        case false =>
        have HDS := Lib.hid hds
        have HP0 := Lib.hid (potW_is (B := BB) hds.r)
        obtain ⟨wb, hwb⟩ : ∃ x, wr = x := ⟨_, rfl⟩
        rw [hwb] at HP0
        have HWB := Lib.hid hwb
        clear hds hok hwb
        go_wp2
        go_loopw [7, 8] (fun s7 s8 wr => ∃ (k : Nat) (b : Bool) (l : List Int), k ≤ M ∧ s8 = .int .i64 (k : Int) ∧ s7 = .bool b ∧ DS M t D 31000000 W1 wr S l ∧ (b = true → okTo1 (lenAt p) (nxN p) l k ∧ pot BB l ≤ pot BB l0) ∧ (b = false → pot BB l < pot BB l0)) (fun _ s8 _ => M - (intOf s8).toNat)
        case atStart => exact ⟨0, true, l0, Nat.zero_le _, rfl, rfl, HDS.out, (fun _ => ⟨(fun u hu => by omega), Nat.le_refl _⟩), fun h => by cases h⟩
        case round =>
          obtain ⟨k, b, l, hk, rfl, rfl, hds, hb1, hb2⟩ := hrel
          have HDS3 := Lib.hid hds; have HB1 := Lib.hid hb1; have HB2 := Lib.hid hb2
          have hzr := hds.be.size
          have hsr := hds.sz
          clear hds hb1 hb2
          by_cases hlt : k < M
          · have hk0 : (0 : Int) ≤ (k : Int) := by omega
            have hk1 : (k : Int) < (M : Int) := by omega
            have hk2 : (k : Int) ≤ 1000000 := by omega
            have HC65 := Lib.hid (show ∀ wx : World, Below S W1 wx → Calls Tryz.prog 65 #[.agg #[.slice A p.nodes.length c, .slice A2 p.rails.length c2], .agg #[.int .i64 (moveE (k : Int)).rail, .bool (moveE (k : Int)).last]] wx fun e w' => (∃ v, e = .returned v ∧ Own w' wx.heap.size 27 2 fE v ((nextL p k).map moveE)) ∧ Below wx.heap.size wx w' from fun wx hb => by
              have := rNext_any A A2 c c2 p (moveE (k : Int)) wx (HPA.out wx hb) HV.out (moveE_in (by have := HMM.out; omega))
              rw [keyE_moveU] at this
              exact this)
            go_upto_region 13 with (fail)
            go_cut [9] from 38 to 41 (fun s9 wx => (∃ Am cm, s9 = .slice Am ((nextL p k).map moveE).length cm ∧ Own wx (S + 1) 27 2 fE s9 ((nextL p k).map moveE)) ∧ Below wr.heap.size wr wx)
            case first =>
              have hbq : Below wr.heap.size wr wr.drew := (Below.refl _ _).drew
              go_region_held3 (fun w' => w'.cell? ⟨w.heap.size, 0, none⟩ = some (.slice A p.nodes.length c) ∧ w'.cell? ⟨w.heap.size, 1, none⟩ = some (.slice A2 p.rails.length c2))
                ((have hkk := HKP.out _ (HDS3.out.be.trans (hbq.mono (by omega))); exact ⟨hkk.1, hkk.2.1⟩))
                ((first
                  | (go_at_call 66; (with_reducible refine (Of_any (k : Int) _ hk0 hk2).mono ?_); rintro e w6 ⟨rfl, hb6⟩; replace hbq := hbq.trans (hb6.mono hbq.size))
                  | (go_at_call 65; have hpw := HC65.out _ (HDS3.out.be.trans (hbq.mono (by omega))); have hbs := hbq.size; (with_reducible refine hpw.mono ?_); rintro e w7 ⟨⟨v7, rfl, hown⟩, hb7⟩; replace hbq := hbq.trans (hb7.mono hbq.size))))
              all_goals
                go_wp2_with fail
                go_meet
                obtain ⟨Am, cm, hvm, _, _, _⟩ := hown.form
                exact ⟨⟨Am, cm, hvm, hown.lower (by omega)⟩, hbq⟩
            case rest =>
            obtain ⟨⟨Am, cm, rfl, hsl⟩, hbq⟩ := hcut
            have HS := Lib.hid hsl
            have HDS4 := Lib.hid (HDS3.out.next hbq)
            have hz2 := HDS4.out.be.size
            have HNLk := Lib.hid (HNL.out k hlt)
            have hmm2 : ((nextL p k).map moveE).length ≤ 2 := by rw [List.length_map]; exact nextL_len p k
            have HLL := Lib.hid (show (nxN p k).length = ((nextL p k).map moveE).length by rw [List.length_map]; exact HNN.out k)
            have HMG := Lib.hid (show ∀ j (hj : j < ((nextL p k).map moveE).length), ∃ b : Nat, ((nextL p k).map moveE)[j] = moveE (b : Int) ∧ (nxN p k)[j]? = some b ∧ b < M ∧ b ∈ nxN p k from fun j hj => by
              obtain ⟨b, h1, h2, h3, h4⟩ := HNLk.out j (by simpa using hj)
              have hj' : j < (nextL p k).length := by simpa using hj
              rw [List.getElem?_eq_getElem hj'] at h1
              exact ⟨b, by rw [List.getElem_map, Option.some.inj h1], h2, h3, h4⟩)
            obtain ⟨mm, hmm⟩ : ∃ z, (nextL p k).map moveE = z := ⟨_, rfl⟩
            rw [hmm] at HS hmm2 HLL HMG ⊢
            clear hsl hbq hmm HDS3 HC65 HNLk
            go_wp2_with fail
            go_loopw [7, 10] (fun s7 s10 wr => ∃ (j : Nat) (b : Bool) (l : List Int), j ≤ mm.length ∧ s10 = .int .i64 (j : Int) ∧ s7 = .bool b ∧ DS M t D 31000000 W1 wr S l ∧ Own wr (S + 1) 27 2 fE (.slice Am mm.length cm) mm ∧ (b = true → okTo1 (lenAt p) (nxN p) l k ∧ okUp (lenAt p) (nxN p) l k j ∧ pot BB l ≤ pot BB l0) ∧ (b = false → pot BB l < pot BB l0)) (fun _ s10 _ => mm.length - (intOf s10).toNat)
            case atStart => exact ⟨0, b, l, Nat.zero_le _, rfl, rfl, HDS4.out, HS.out, (fun h => ⟨(HB1.out h).1, (fun i hi => by omega), (HB1.out h).2⟩), HB2.out⟩
            case round =>
              obtain ⟨j, b, l, hj, rfl, rfl, hds, how, hc1, hc2⟩ := hrel
              have HDS5 := Lib.hid hds; have HOW := Lib.hid how; have HC1 := Lib.hid hc1; have HC2 := Lib.hid hc2
              have hz5r := hds.sz
              clear hds how hc1 hc2 HS HDS4
              by_cases hjt : j < mm.length
              · obtain ⟨z, hmz, hXz, hzM, hzn⟩ := HMG.out j hjt
                obtain ⟨b1, o1, e1, g1, q0, q1⟩ := end_at (HOW.out.sl fE_len rfl) hjt
                rw [hmz] at q0 q1
                have hrx := moveE_in (p := p) (k := z) (by have := HMM.out; omega)
                have hex : endNo (moveE (z : Int)) = (z : Int) := endNo_moveU
                have hrr : (moveE (z : Int)).rail = ((z / 2 : Nat) : Int) := by unfold moveE; simp
                obtain ⟨xr, hxr⟩ : ∃ x, (moveE (z : Int)).rail = x := ⟨_, rfl⟩
                obtain ⟨xl, hxl⟩ : ∃ x, (moveE (z : Int)).last = x := ⟨_, rfl⟩
                have hmv : moveE (z : Int) = ⟨xr, xl⟩ := by rw [← hxr, ← hxl]
                rw [hxr] at q0 hrx hrr
                rw [hxl] at q1
                rw [hmv] at hex
                have hx0 : 0 ≤ xr := by omega
                have hx1 : xr ≤ 1000000 := by omega
                have HRX := Lib.hid hrx; have HEX := Lib.hid hex
                have hz0 : (0 : Int) ≤ (z : Int) := by omega
                have hz1 : (z : Int) < (M : Int) := by omega
                have hj0 : (0 : Int) ≤ (j : Int) := by omega
                have hj1 : (j : Int) < (mm.length : Int) := by omega
                have HZZ := Lib.hid (And.intro hXz hzn)
                have hzl : z < l.length := by rw [HDS5.out.x.len]; exact hzM
                have hkl : k < l.length := by rw [HDS5.out.x.len]; exact hlt
                have hzb := HDS5.out.x.val z hzM
                have hzb2 := HDS5.out.x.bdM (by omega) hzM
                have hgz := gI_get hzl
                have hgk := gI_get hkl
                obtain ⟨x, hx⟩ : ∃ x, gI l z = x := ⟨_, rfl⟩
                obtain ⟨yk, hyk⟩ : ∃ x, gI l k = x := ⟨_, rfl⟩
                have hyb := lenAt_ok HV.out (r := z / 2) (by have := HMM.out; omega)
                rw [← hrr] at hyb
                have hrh : ((z : Int) / 2) = xr := by rw [hrr]; omega
                obtain ⟨y, hy⟩ : ∃ y, lenAt p xr = y := ⟨_, rfl⟩
                have HY := Lib.hid hy
                rw [hy] at hyb
                rw [hx] at hzb hzb2 hgz
                rw [hyk] at hgk
                have HGX := Lib.hid (And.intro hx (And.intro hyk (show lenAt p ((z : Int) / 2) = y by rw [hrh, hy])))
                have hxb : x ≤ 24800000000 := by have : (M : Int) * 31000000 ≤ 800 * 31000000 := by omega
                                                 omega
                have hb1r : b1 < wr.heap.size := g1
                have HCL := Lib.hid (show ∀ w', Below wr.heap.size wr w' → w'.cell? ⟨S, z, none⟩ = some (.int .i64 x) ∧ w'.cell? ⟨S, k, none⟩ = some (.int .i64 yk) ∧ w'.frozen? ⟨S, k, none⟩ = false from fun w' hb => by
                  have h2 := HDS5.out.r.below hb HDS5.out.r.lt
                  exact ⟨by rw [h2.cell hzl, ← hgz], by rw [h2.cell hkl, ← hgk], h2.frozen k⟩)
                obtain ⟨hy0, hy1⟩ := hyb
                have hxm : -1 ≤ x := by rcases hzb with h | h <;> omega
                subst e1
                clear hx hyk hy hmz hXz hzn hxr hxl hmv hrx hex hrr hrh hgz hgk hzb hzb2 hzl hkl
                go_wp2_with fail
                (with_reducible refine (rNumber_any xr xl _ hx0 hx1).mono ?_)
                rintro e w5 ⟨rfl, hb5⟩
                rw [HEX.out]
                have hz5 := hb5.size
                obtain ⟨r0, r1, r2⟩ := HCL.out w5 hb5
                have HDS6 := Lib.hid (HDS5.out.next hb5)
                have HOW6 := Lib.hid (HOW.out.below hb5 (Nat.le_refl _))
                replace q0 := (hb5.cell (p := ⟨b1, o1 + j * 2, none⟩) hb1r).trans q0
                clear hb5 q1 HCL HDS5 HOW
                by_cases hxx : x < 0
                · have hlt0 : decide (x < 0) = true := by simpa using hxx
                  have HST := Lib.hid (show b = true → okTo1 (lenAt p) (nxN p) l k ∧ okUp (lenAt p) (nxN p) l k (j + 1) ∧ pot BB l ≤ pot BB l0 from fun h => by
                    obtain ⟨h1, h2, h3⟩ := HC1.out h
                    refine ⟨h1, fun i hi bb hbb h0 => ?_, h3⟩
                    by_cases e : i = j
                    · subst e
                      rw [HZZ.out.1] at hbb
                      obtain rfl := Option.some.inj hbb
                      rw [HGX.out.1] at h0; omega
                    · exact h2 i (by omega) bb hbb h0)
                  go_wp2_with fail
                  go_roundw
                  case rel => exact ⟨j + 1, b, l, by omega, by go_num, rfl, HDS6.out, HOW6.out, HST.out, HC2.out⟩
                  case measure => simp [intOf]; omega
                · have hlt0 : decide (x < 0) = false := by rw [decide_eq_false_iff_not]; exact hxx
                  have hwr : IntKind.i64.wrap (x + y) = x + y := by rw [IntKind.wrap_i64]; omega
                  obtain ⟨k0, k1, k2', k3⟩ := HKP.out w5 HDS6.out.be
                  go_upto_region 19 with (fail)
                  go_cut [11] from 58 to 66 (fun s11 wx => s11 = .int .i64 (x + y) ∧ Below w5.heap.size w5 wx)
                  case first =>
                    have hbq : Below w5.heap.size w5 w5.drew := (Below.refl _ _).drew
                    have hs5 := HDS6.out.sz
                    have HK5 := Lib.hid (show ∀ w', Below w5.heap.size w5 w' → w'.cell? ⟨w.heap.size, 0, none⟩ = some (.slice A p.nodes.length c) ∧ w'.cell? ⟨w.heap.size, 1, none⟩ = some (.slice A2 p.rails.length c2) ∧ w'.cell? ⟨b1, o1 + j * 2, none⟩ = some (.int .i64 xr) from fun w' hb' =>
                      ⟨(hb'.cell (p := ⟨w.heap.size, 0, none⟩) (by simp; omega)).trans k0, (hb'.cell (p := ⟨w.heap.size, 1, none⟩) (by simp; omega)).trans k1, (hb'.cell (p := ⟨b1, o1 + j * 2, none⟩) (by simp; omega)).trans q0⟩)
                    go_region_held3 (fun w' => w'.cell? ⟨w.heap.size, 0, none⟩ = some (.slice A p.nodes.length c) ∧ w'.cell? ⟨w.heap.size, 1, none⟩ = some (.slice A2 p.rails.length c2) ∧ w'.cell? ⟨b1, o1 + j * 2, none⟩ = some (.int .i64 xr))
                      (exact HK5.out _ hbq)
                      ((first
                        | (go_at_call 35; have hpw := HPA.out _ (HDS6.out.be.trans (hbq.mono (by omega))); have hlc := rLength_in A A2 c c2 p xr _ hpw HV.out HRX.out; rw [HY.out] at hlc; (with_reducible refine hlc.mono ?_); rintro e w6 ⟨rfl, hb6⟩; replace hbq := hbq.trans (hb6.mono hbq.size))))
                    all_goals
                      go_wp2_with fail
                      go_meet
                      exact ⟨rfl, hbq⟩
                  case rest =>
                  obtain ⟨rfl, hbq⟩ := hcut
                  have HDS7 := Lib.hid (HDS6.out.next hbq)
                  have HOW7 := Lib.hid (HOW6.out.below hbq (Nat.le_refl _))
                  have hr7 := HDS7.out.r
                  have hkl : k < l.length := by rw [HDS7.out.x.len]; exact hlt
                  have s0 := hr7.cell hkl
                  have s1 := hr7.frozen k
                  rw [← gI_get hkl, HGX.out.2.1] at s0
                  have HSET := Lib.hid (show yk < 0 ∨ x + y < yk → DS M t D 31000000 W1 (wc.setCell ⟨S, k, none⟩ (.int .i64 (x + y))) S (l.set k (x + y)) ∧ pot BB (l.set k (x + y)) < pot BB l0 from fun h => by
                    have h1 := Rlx.set HG.out HD.out HDS7.out.x hlt HZZ.out.2 (by rw [HGX.out.1]; omega) (by rw [HGX.out.1, HGX.out.2.1, HGX.out.2.2]; exact h)
                    rw [HGX.out.1, HGX.out.2.2, HBB.out] at h1
                    refine ⟨HDS7.out.set h1.1, Nat.lt_of_lt_of_le h1.2 ?_⟩
                    cases b
                    · exact Nat.le_of_lt (HC2.out rfl)
                    · exact (HC1.out rfl).2.2)
                  have HOWS := Lib.hid (show Own (wc.setCell ⟨S, k, none⟩ (.int .i64 (x + y))) (S + 1) 27 2 fE (.slice (some ⟨b1, o1, none⟩) mm.length cm) mm from HOW7.out.of_blocks fun i hi => Below.heap_setCell _ _ _ _ (by have := (HOW7.out.lt i hi).1; simp; omega))
                  clear hbq q0 r0 r1 r2 k0 k1 k2' k3 HDS6 HOW6 hr7 hkl
                  by_cases hc : yk < 0
                  · have HS1 := Lib.hid (HSET.out (Or.inl hc))
                    have hcd : decide (yk < 0) = true := by simpa using hc
                    go_wp2_with fail
                    go_roundw
                    case rel => exact ⟨j + 1, false, l.set k (x + y), by omega, by go_num, rfl, HS1.out.1, HOWS.out, (fun h => by cases h), fun _ => HS1.out.2⟩
                    case measure => simp [intOf]; omega
                  · have d1 : decide (yk < 0) = false := by rw [decide_eq_false_iff_not]; exact hc
                    by_cases hd : x + y < yk
                    · have HS1 := Lib.hid (HSET.out (Or.inr hd))
                      have hdd : decide (x + y < yk) = true := by simpa using hd
                      go_wp2_with fail
                      go_roundw
                      case rel => exact ⟨j + 1, false, l.set k (x + y), by omega, by go_num, rfl, HS1.out.1, HOWS.out, (fun h => by cases h), fun _ => HS1.out.2⟩
                      case measure => simp [intOf]; omega
                    · have d2 : decide (x + y < yk) = false := by rw [decide_eq_false_iff_not]; exact hd
                      have HST := Lib.hid (show b = true → okTo1 (lenAt p) (nxN p) l k ∧ okUp (lenAt p) (nxN p) l k (j + 1) ∧ pot BB l ≤ pot BB l0 from fun h => by
                        obtain ⟨h1, h2, h3⟩ := HC1.out h
                        refine ⟨h1, fun i hi bb hbb h0 => ?_, h3⟩
                        by_cases e : i = j
                        · subst e
                          rw [HZZ.out.1] at hbb
                          obtain rfl := Option.some.inj hbb
                          rw [HGX.out.1, HGX.out.2.1, HGX.out.2.2]; omega
                        · exact h2 i (by omega) bb hbb h0)
                      go_wp2_with fail
                      go_roundw
                      case rel => exact ⟨j + 1, b, l, by omega, by go_num, rfl, HDS7.out, HOW7.out, HST.out, HC2.out⟩
                      case measure => simp [intOf]; omega
              · obtain rfl : j = mm.length := by omega
                have HST := Lib.hid (show b = true → okTo1 (lenAt p) (nxN p) l (k + 1) ∧ pot BB l ≤ pot BB l0 from fun h => by
                  obtain ⟨h1, h2, h3⟩ := HC1.out h
                  exact ⟨okUp_all h1 (by rw [HLL.out]; exact h2), h3⟩)
                have hjn : ¬ ((mm.length : Nat) : Int) < ((mm.length : Nat) : Int) := by omega
                go_wp2_with fail
                go_roundw
                case rel => exact ⟨k + 1, b, l, by omega, by go_num, rfl, HDS5.out, HST.out, HC2.out⟩
                case measure => simp [intOf]; omega
          · obtain rfl : M = k := by omega
            go_wp2_with fail
            go_roundw
            case rel => exact ⟨b, l, rfl, HDS3.out, fun h => (HB1.out h).1⟩
            case measure =>
              have h1 := potW_is (B := BB) HDS3.out.r
              have h2 := HP0.out
              rw [h1, HWB.out, h2]
              cases b
              · have := HB2.out rfl
                simp only [flagV]; omega
              · have := (HB1.out rfl).2
                simp only [flagV]; omega
end Go.Proofs.YtcpanfpijljeaaaGreat

/-! partM3: Contracts: leastBeyond, consistent, Consistent. -/
namespace Go.Proofs.YtcpanfpijljeaaaGreat
set_option linter.unusedVariables false
set_option linter.unusedSimpArgs false
open Go.RowKit

theorem wantL_succ {ln : Int → Int} {l : List Int} {nx : List Nat} {k : Nat} (h : k < nx.length) : wantL ln l (nx.take (k + 1)) = wantS ln l (wantL ln l (nx.take k)) nx[k] := by
  unfold wantL
  rw [List.take_succ_eq_append_getElem h, List.foldl_append]; rfl
/-- no number is so great that sums overflow -/
def Bd50 (l : List Int) : Prop := ∀ u, u < l.length → -9223372036854775808 ≤ gI l u ∧ gI l u ≤ 1125899906842624
theorem want_bd {ln : Int → Int} {l : List Int} (h : Bd50 l) (hl : ∀ z, 0 ≤ ln z ∧ ln z ≤ 1107296256) : ∀ (nx : List Nat) (x : Int), (∀ b ∈ nx, b < l.length) → -9223372036854775808 ≤ x → x ≤ 2251799813685248 → -9223372036854775808 ≤ nx.foldl (wantS ln l) x ∧ nx.foldl (wantS ln l) x ≤ 2251799813685248 := by
  intro nx
  induction nx with
  | nil => intro x _ h1 h2; exact ⟨h1, h2⟩
  | cons b nx ih =>
    intro x hb h1 h2
    rw [List.foldl_cons]
    have hb0 := h b (hb b (by simp))
    have hl0 := hl ((b : Int) / 2)
    refine ih _ (fun c hc => hb c (by simp [hc])) ?_ ?_
    · unfold wantS; split
      · exact h1
      · split <;> omega
    · unfold wantS; split
      · exact h2
      · split <;> omega

set_option maxRecDepth 100000 in
set_option maxHeartbeats 2000000 in
theorem leastBeyond_any (B g M m : Nat) (A : Option Addr) (l : List Int) (c : Nat) (p : Pl) (w : World) (hM : 2 * p.rails.length = M) (h : Nw w B g p) (hB : B ≤ w.heap.size) (hm : m < M) (hA : Sl w w.heap.size 1 CI A l) (hl : l.length = M) (hbd : Bd50 l) :
    Calls Tryz.prog 88 #[.pointer (some ⟨g, 0, none⟩), .int .i64 (m : Int), .slice A M c] w fun e w' => e = .returned (.int .i64 (wantL (lenAt p) l (nxN p m))) ∧ Below w.heap.size w w' := by
  have hsz := h.sizes
  have hgB := h.gB
  have hv := h.v
  obtain ⟨A1, c1, A2, c2, lb, sb, nb, bb, hN, x1, x2, x3, x4, x5, x6⟩ := h.net
  obtain ⟨_, _, k2, _, k4, _⟩ := hN.cell
  rw [hM] at k4 x5
  have hM8 : M ≤ 800 := by omega
  obtain ⟨Ab, cb, m0, m1, m2, m3⟩ := x5.2 m hm
  have hLl : (nextL p m).length ≤ 2 := nextL_len p m
  have HLO := Lib.hid (show ∀ j (hj : j < (nextL p m).length), ∃ b : Nat, (nextL p m)[j] = (b : Int) ∧ ∃ h2 : j < (nxN p m).length, (nxN p m)[j] = b ∧ b < M from fun j hj => by
    have hz := nextL_bd hv (by omega) _ (List.getElem_mem hj)
    exact ⟨(nextL p m)[j].toNat, by omega, by simpa [nxN] using hj, by simp [nxN], by omega⟩)
  have HNN := Lib.hid (show (nxN p m).length = (nextL p m).length by simp [nxN])
  have HWB := Lib.hid (show ∀ j, -9223372036854775808 ≤ wantL (lenAt p) l ((nxN p m).take j) ∧ wantL (lenAt p) l ((nxN p m).take j) ≤ 2251799813685248 from fun j => by
    refine want_bd hbd (lenAt_bd hv) _ _ (fun b hb => ?_) (by omega) (by omega)
    rw [hl, ← hM]
    exact (plan_gr hv).nx m (by omega) b (List.mem_of_mem_take hb))
  obtain ⟨L, hL⟩ : ∃ L, nextL p m = L := ⟨_, rfl⟩
  rw [hL] at m0 m1 m3 hLl HLO HNN
  obtain ⟨X, hX⟩ : ∃ X, nxN p m = X := ⟨_, rfl⟩
  rw [hX] at HLO HNN HWB ⊢
  have HM3 := Lib.hid m3
  have HBD := Lib.hid hbd; have HV := Lib.hid hv
  have H3 := Lib.hid x3
  have HA := Lib.hid hA
  have HL := Lib.hid hl
  have HMM := Lib.hid hM
  have hm0 : (0 : Int) ≤ (m : Int) := by omega
  have hm1 : (m : Int) < (M : Int) := by omega
  clear hN h x3 x4 x5 x6 hA hbd m3 hL hX hl hM
  go_enter Tryz.func88, Tryz.ntmps88
  go_wp2
  go_loopw [7, 19] (fun s i wr => ∃ k : Nat, k ≤ L.length ∧ i = .int .i64 (k : Int) ∧ s = .int .i64 (wantL (lenAt p) l (X.take k)) ∧ Below w.heap.size w wr) (fun _ i _ => L.length - (intOf i).toNat)
  case atStart => exact ⟨0, Nat.zero_le _, rfl, by simp [wantL], Below.refl _ _⟩
  case round =>
    obtain ⟨k, hk, rfl, rfl, hb⟩ := hrel
    have HB := Lib.hid hb
    by_cases hlt : k < L.length
    · obtain ⟨z, hLz, hz2, hXz, hzM⟩ := HLO.out k hlt
      obtain ⟨b3, o3, rfl, g3, q3⟩ := int_at HM3.out hlt
      obtain ⟨b4, o4, rfl, g4, q4⟩ := int_at HA.out (i := z) (by rw [HL.out]; exact hzM)
      replace q3 := (hb.cell (p := ⟨b3, o3 + k, none⟩) (by simp; omega)).trans q3
      replace q4 := (hb.cell (p := ⟨b4, o4 + z, none⟩) (by simp; omega)).trans q4
      rw [hLz] at q3
      have hzh : z / 2 < p.rails.length := by have := HMM.out; omega
      have q5 := H3.out.cell (i := z / 2) (by rw [lens_len]; exact hzh)
      rw [lens_get hzh] at q5
      replace q5 := (hb.cell (p := ⟨lb, z / 2, none⟩) (by simp; omega)).trans q5
      have p2 := (hb.cell (p := ⟨g, 2, none⟩) (by simp; omega)).trans k2
      have hst := wantL_succ (ln := lenAt p) (l := l) hz2
      rw [hXz] at hst
      have hgz : gI l z = l[z]'(by rw [HL.out]; exact hzM) := gI_get _
      have hxb := HBD.out z (by rw [HL.out]; exact hzM)
      rw [← hgz] at q4
      obtain ⟨x, hx⟩ : ∃ x, gI l z = x := ⟨_, rfl⟩
      rw [hx] at q4 hxb
      have hyb := lenAt_bd HV.out ((z / 2 : Nat) : Int)
      obtain ⟨y, hy⟩ : ∃ y, lenAt p ((z / 2 : Nat) : Int) = y := ⟨_, rfl⟩
      rw [hy] at q5 hyb
      have hWb := HWB.out k
      obtain ⟨W, hW⟩ : ∃ W, wantL (lenAt p) l (X.take k) = W := ⟨_, rfl⟩
      rw [hW] at hst hWb ⊢
      have HST := Lib.hid (show wantL (lenAt p) l (X.take (k + 1)) = if x = -1 then W else if W < 0 ∨ y + x < W then y + x else W by
        rw [hst]; unfold wantS
        rw [hx, show ((z : Int) / 2) = ((z / 2 : Nat) : Int) by omega, hy, Int.add_comm x y])
      obtain ⟨hx0, hx1⟩ := hxb
      obtain ⟨hy0, hy1⟩ := hyb
      obtain ⟨hW0, hW1⟩ := hWb
      have hz0 : (0 : Int) ≤ (z : Int) := by omega
      have hz1 : (z : Int) < (M : Int) := by omega
      have hk0 : (0 : Int) ≤ (k : Int) := by omega
      have hk1 : (k : Int) < (L.length : Int) := by omega
      clear hst hx hy hW hgz hLz hXz hz2 hb
      by_cases hx : x = -1
      · subst hx
        have HS1 := Lib.hid (show wantL (lenAt p) l (X.take (k + 1)) = W by rw [HST.out, if_pos rfl])
        go_wp2
        go_roundw
        case rel => exact ⟨k + 1, by omega, by go_num, by rw [HS1.out], HB.out⟩
        case measure => simp [intOf]; omega
      · have hxe : (x == -1) = false := by simpa using hx
        have hwr : IntKind.i64.wrap (y + x) = y + x := by rw [IntKind.wrap_i64]; omega
        have HS0 := Lib.hid (HST.out.trans (if_neg hx))
        clear hx
        by_cases hc : W < 0
        · have HS1 := Lib.hid (show wantL (lenAt p) l (X.take (k + 1)) = y + x by rw [HS0.out, if_pos (Or.inl hc)])
          go_wp2
          go_quiet (fail)
          obtain ⟨nA, rfl⟩ : ∃ n, n = nq := ⟨_, rfl⟩
          go_wp2
          go_roundw
          case rel => exact ⟨k + 1, by omega, by go_num, by rw [HS1.out], bDrewN HB.out _⟩
          case measure => simp [intOf]; omega
        · have d1 : decide (W < 0) = false := by rw [decide_eq_false_iff_not]; exact hc
          by_cases hd : y + x < W
          · have HS1 := Lib.hid (show wantL (lenAt p) l (X.take (k + 1)) = y + x by rw [HS0.out, if_pos (Or.inr hd)])
            go_wp2
            go_quiet (fail)
            obtain ⟨nA, rfl⟩ : ∃ n, n = nq := ⟨_, rfl⟩
            go_wp2
            go_roundw
            case rel => exact ⟨k + 1, by omega, by go_num, by rw [HS1.out], bDrewN HB.out _⟩
            case measure => simp [intOf]; omega
          · have d2 : decide (y + x < W) = false := by rw [decide_eq_false_iff_not]; exact hd
            have HS1 := Lib.hid (show wantL (lenAt p) l (X.take (k + 1)) = W by rw [HS0.out, if_neg (by omega)])
            go_wp2
            go_quiet (fail)
            obtain ⟨nA, rfl⟩ : ∃ n, n = nq := ⟨_, rfl⟩
            go_wp2
            go_roundw
            case rel => exact ⟨k + 1, by omega, by go_num, by rw [HS1.out], bDrewN HB.out _⟩
            case measure => simp [intOf]; omega
    · obtain rfl : k = L.length := by omega
      have HQ := Lib.hid (show wantL (lenAt p) l (X.take L.length) = wantL (lenAt p) l X by rw [← HNN.out, List.take_length])
      go_wp2
      go_ret
      exact ⟨by rw [HQ.out]; rfl, HB.out⟩

def IffPost (Q : Prop) (w : World) (e : Ending) (w' : World) : Prop := (∃ b, e = .returned (.bool b) ∧ (b = true ↔ Q)) ∧ Below w.heap.size w w'
/-- what 'consistent' looks at -/
def TCon (p : Pl) (M t : Nat) (l : List Int) (k : Nat) : Prop := ∀ u, u < k → -1 ≤ gI l u ∧ gI l u ≤ (M : Int) * 31000000 ∧ (u ≠ t → gI l u = wantL (lenAt p) l (nxN p u))
def TCons (p : Pl) (M t : Nat) (l : List Int) : Prop := l.length = M ∧ gI l t = 0 ∧ TCon p M t l M
theorem TCon.succ {p : Pl} {M t k : Nat} {l : List Int} (h : TCon p M t l k) (h1 : -1 ≤ gI l k ∧ gI l k ≤ (M : Int) * 31000000) (h2 : k ≠ t → gI l k = wantL (lenAt p) l (nxN p k)) : TCon p M t l (k + 1) := fun u hu => by
  by_cases e : u = k
  · subst e; exact ⟨h1.1, h1.2, h2⟩
  · exact h u (by omega)

set_option maxRecDepth 100000 in
set_option maxHeartbeats 2000000 in
theorem consistent_any (B g M t : Nat) (A : Option Addr) (l : List Int) (c : Nat) (p : Pl) (w : World) (hM : 2 * p.rails.length = M) (h : Nw w B g p) (hB : B ≤ w.heap.size) (ht : t < M) (hA : Sl w w.heap.size 1 CI A l) (hl9 : l.length ≤ 1000) (hbd : Bd50 l) :
    Calls Tryz.prog 62 #[.pointer (some ⟨g, 0, none⟩), .int .i64 (t : Int), .slice A l.length c] w (IffPost (TCons p M t l) w) := by
  have hsz := h.sizes
  have hgB := h.gB
  have HN := Lib.hid h
  have hpl := h
  obtain ⟨A1, c1, A2, c2, lb, sb, nb, bb, hN, x1, x2, x3, x4, x5, x6⟩ := h.net
  obtain ⟨_, k1, _, _, k4, _⟩ := hN.cell
  rw [hM] at k4
  have hM8 : M ≤ 800 := by omega
  have hMM : 2 * (p.rails.length : Int) = (M : Int) := by omega
  have HMQ := Lib.hid hMM
  have hrc := hN.pl.rc
  have hrm := hN.pl.rm
  have ht0 : (0 : Int) ≤ (t : Int) := by omega
  clear hN h x3 x4 x5 x6 hpl hMM
  by_cases hlen : l.length = M
  · have HC := Lib.hid (show ∀ (m : Nat) (w2 : World), m < M → Below w.heap.size w w2 → Calls Tryz.prog 88 #[.pointer (some ⟨g, 0, none⟩), .int .i64 (m : Int), .slice A M c] w2 fun e w' => e = .returned (.int .i64 (wantL (lenAt p) l (nxN p m))) ∧ Below w2.heap.size w2 w' from fun m w2 hm hb =>
      leastBeyond_any _ g M m A l c p w2 hM ((HN.out.below (hb.mono hB)).more (Nat.le_trans hB hb.size)) (Nat.le_refl _) hm ((hA.below hb).more (fun _ _ h => h) hb.size) hlen hbd)
    rw [hlen]
    have ht1 : (t : Int) < (M : Int) := by omega
    obtain ⟨b4, o4, e4, g4, q4⟩ := int_at hA (i := t) (by omega)
    rw [← gI_get (by omega)] at q4
    have HBD := Lib.hid (show ∀ u, u < M → -9223372036854775808 ≤ gI l u ∧ gI l u ≤ 1125899906842624 from fun u hu => hbd u (by omega))
    have HCELL := Lib.hid (show ∀ u, u < M → w.cell? ⟨b4, o4 + u, none⟩ = some (.int .i64 (gI l u)) from fun u hu => by
      obtain ⟨b5, o5, e5, g5, q5⟩ := int_at hA (i := u) (by omega)
      rw [e4] at e5
      obtain ⟨rfl, rfl⟩ : b4 = b5 ∧ o4 = o5 := by simpa using e5
      rw [q5, gI_get (by omega)])
    have HLN := Lib.hid hlen
    have hn1 : ((M : Int) != (M : Int)) = false := by simp
    have hn2 : (!((M : Int) == (M : Int))) = false := by simp
    subst e4
    clear hA hbd hlen
    by_cases hx : gI l t = 0
    · have HT := Lib.hid hx
      rw [hx] at q4
      clear hx
      go_enter Tryz.func62, Tryz.ntmps62
      go_wp2
      go_loopw [26] (fun i wr => ∃ k : Nat, k ≤ M ∧ i = .int .i64 (k : Int) ∧ TCon p M t l k ∧ Below w.heap.size w wr) (fun i _ => M - (intOf i).toNat)
      case atStart => exact ⟨0, Nat.zero_le _, rfl, (fun u hu => by omega), Below.refl _ _⟩
      case round =>
        obtain ⟨k, hk, rfl, htc, hb⟩ := hrel
        have HB := Lib.hid hb; have HTC := Lib.hid htc
        have hzw := hb.size
        by_cases hlt : k < M
        · have r1 := (hb.cell (p := ⟨b4, o4 + k, none⟩) (by simp; omega)).trans (HCELL.out k hlt)
          have p1 := (hb.cell (p := ⟨g, 1, none⟩) (by simp; omega)).trans k1
          have hxb := HBD.out k hlt
          obtain ⟨x, hx⟩ : ∃ x, gI l k = x := ⟨_, rfl⟩
          rw [hx] at r1 hxb
          have HX := Lib.hid hx
          obtain ⟨hx0, hx1⟩ := hxb
          have hk0 : (0 : Int) ≤ (k : Int) := by omega
          have hk1 : (k : Int) < (M : Int) := by omega
          obtain ⟨R, hR⟩ : ∃ R, p.rails.length = R := ⟨_, rfl⟩
          have HRM := Lib.hid (show 2 * (R : Int) = (M : Int) by rw [← hR]; exact HMQ.out)
          rw [hR] at p1
          have hR4 : R ≤ 400 := by omega
          have hrc2 : R ≤ c2 := by omega
          clear hb htc hx
          by_cases hlow : x < -1
          · have HNO := Lib.hid (show ¬ TCons p M t l from fun h => by have := (h.2.2 k hlt).1; rw [HX.out] at this; omega)
            go_wp2
            go_ret
            exact ⟨⟨_, rfl, (fun h => by cases h), fun h => absurd h HNO.out⟩, HB.out⟩
          · have d1 : decide (x < -1) = false := by rw [decide_eq_false_iff_not]; exact hlow
            by_cases hhi : (R : Int) * 62000000 < x
            · have HNO := Lib.hid (show ¬ TCons p M t l from fun h => by have := (h.2.2 k hlt).2.1; rw [HX.out] at this; have := HRM.out; omega)
              have d2 : 2 * (R : Int) * 31 * 1000000 < x := by omega
              go_wp2
              go_ret
              exact ⟨⟨_, rfl, (fun h => by cases h), fun h => absurd h HNO.out⟩, HB.out⟩
            · have d2 : decide (2 * (R : Int) * 31 * 1000000 < x) = false := by rw [decide_eq_false_iff_not]; omega
              have d3 : ¬ 2 * (R : Int) * 31 * 1000000 < x := by omega
              have HRG := Lib.hid (show -1 ≤ x ∧ x ≤ (M : Int) * 31000000 by have := HRM.out; omega)
              by_cases hkt : k = t
              · subst hkt
                have n1 : ((k : Int) != (k : Int)) = false := by simp
                have n2 : (!((k : Int) == (k : Int))) = false := by simp
                go_wp2
                go_roundw
                case rel => exact ⟨k + 1, by omega, by go_num, HTC.out.succ (by rw [HX.out]; exact HRG.out) (fun h => (h rfl).elim), HB.out⟩
                case measure => simp [intOf]; omega
              · have n1 : ((k : Int) != (t : Int)) = true := by simp; omega
                have n2 : (!((k : Int) == (t : Int))) = true := by simp; omega
                have HKT := Lib.hid hkt
                clear hkt
                obtain ⟨W, hW⟩ : ∃ W, wantL (lenAt p) l (nxN p k) = W := ⟨_, rfl⟩
                have hcc := HC.out k wr hlt HB.out
                rw [hW] at hcc
                have HCC := Lib.hid hcc
                have HW := Lib.hid hW
                clear hcc hW
                go_wp2_with fail
                refine HCC.out.mono ?_
                rintro e w5 ⟨rfl, hb5⟩
                have HB5 := Lib.hid (HB.out.trans (hb5.mono hzw))
                clear hb5
                by_cases hxw : x = W
                · subst hxw
                  have v1 : (x != x) = false := by simp
                  have v2 : (!(x == x)) = false := by simp
                  go_wp2
                  go_roundw
                  case rel => exact ⟨k + 1, by omega, by go_num, HTC.out.succ (by rw [HX.out]; exact HRG.out) (fun _ => by rw [HX.out, HW.out]), HB5.out⟩
                  case measure => simp [intOf]; omega
                · have v1 : (x != W) = true := by simpa using hxw
                  have v2 : (!(x == W)) = true := by simpa using hxw
                  have HNO := Lib.hid (show ¬ TCons p M t l from fun h => by have := (h.2.2 k hlt).2.2 HKT.out; rw [HX.out, HW.out] at this; exact hxw this)
                  clear hxw
                  go_wp2
                  go_ret
                  exact ⟨⟨_, rfl, (fun h => by cases h), fun h => absurd h HNO.out⟩, HB5.out⟩
        · obtain rfl : M = k := by omega
          have HYES := Lib.hid (show TCons p M t l from ⟨HLN.out, HT.out, HTC.out⟩)
          go_wp2
          go_ret
          exact ⟨⟨_, rfl, (fun _ => HYES.out), fun _ => rfl⟩, HB.out⟩
    · have HNO := Lib.hid (show ¬ TCons p M t l from fun h => hx h.2.1)
      obtain ⟨x, hx2⟩ : ∃ x, gI l t = x := ⟨_, rfl⟩
      rw [hx2] at q4 hx
      have v1 : (x != 0) = true := by simpa using hx
      have v2 : (!(x == 0)) = true := by simpa using hx
      clear hx hx2
      go_enter Tryz.func62, Tryz.ntmps62
      go_wp2
      go_ret
      exact ⟨⟨_, rfl, (fun h => by cases h), fun h => absurd h HNO.out⟩, Below.refl _ _⟩
  · have HNO := Lib.hid (show ¬ TCons p M t l from fun h => hlen h.1)
    have v1 : ((l.length : Int) != (M : Int)) = true := by simp; omega
    have v2 : (!((l.length : Int) == (M : Int))) = true := by simp; omega
    clear hlen hA hbd
    go_enter Tryz.func62, Tryz.ntmps62
    go_wp2
    go_ret
    exact ⟨⟨_, rfl, (fun h => by cases h), fun h => absurd h HNO.out⟩, Below.refl _ _⟩

set_option maxRecDepth 100000 in
set_option maxHeartbeats 2000000 in
theorem Consistent_any (A A2 A3 : Option Addr) (c c2 c3 M : Nat) (l : List Int) (p : Pl) (m : E) (w : World) (hM : 2 * p.rails.length = M) (hP : PlAt w w.heap.size A c A2 c2 p) (hv : Vld p) (hm : railIn p m.rail = true) (hA : Sl w w.heap.size 1 CI A3 l) (hl9 : l.length ≤ 1000) (hbd : Bd50 l) :
    Calls Tryz.prog 23 #[.agg #[.slice A p.nodes.length c, .slice A2 p.rails.length c2], .agg #[.int .i64 m.rail, .bool m.last], .slice A3 l.length c3] w (IffPost (TCons p M (keyE m) l) w) := by
  have HP := Lib.hid ((hP.box (.cells #[.slice A p.nodes.length c, .slice A2 p.rails.length c2] 25)).box (.cells #[.int .i64 m.rail, .bool m.last] 27))
  have hb0 : Below w.heap.size w ((w.alloc (.cells #[.slice A p.nodes.length c, .slice A2 p.rails.length c2] 25)).alloc (.cells #[.int .i64 m.rail, .bool m.last] 27)) := ((Below.refl _ w).alloc (Nat.le_refl _) _).alloc (by simp) _
  have HB0 := Lib.hid hb0
  have HS := Lib.hid ((hA.below hb0).more (fun _ _ h => h) hb0.size)
  have HV := Lib.hid hv; have HM := Lib.hid hM; have HBD := Lib.hid hbd; have HR := Lib.hid hm
  have hk := key_in hm
  have hr0 := hk.1
  have hr1 : m.rail ≤ 1000000 := by have := of_decide_eq_true hm; have := of_decide_eq_true hv.sizes; omega
  have HK := Lib.hid hk.2.2
  have htM : keyE m < M := by omega
  obtain ⟨t, ht⟩ : ∃ t, keyE m = t := ⟨_, rfl⟩
  rw [ht] at HK htM
  rw [ht]
  clear hP hA hb0 hv hm hM hbd hk ht
  go_enter Tryz.func23, Tryz.ntmps23
  go_wp2_with fail
  refine (survey_any A A2 c c2 p _ HP.out).mono ?_
  rintro e w1 ⟨hb, ⟨hv, rfl⟩ | ⟨hv, g, rfl, hg, hN⟩⟩
  · exact absurd HV.out hv
  have HB := Lib.hid (HB0.out.trans (hb.mono (by simp; omega))); have HN := Lib.hid hN
  have HS1 := Lib.hid ((HS.out.below hb).more (fun _ _ h => h) hb.size)
  obtain ⟨hc2, hf2⟩ := bcell hb
  have hz1 := hb.size
  simp at hz1
  have y0 := hc2 (w.heap.size + 1) 0 (by simp)
  have y1 := hc2 (w.heap.size + 1) 1 (by simp)
  rw [show ((w.alloc (.cells #[.slice A p.nodes.length c, .slice A2 p.rails.length c2] 25)).alloc (.cells #[.int .i64 m.rail, .bool m.last] 27)).cell? ⟨w.heap.size + 1, 0, none⟩ = some (.int .i64 m.rail) by simp] at y0
  rw [show ((w.alloc (.cells #[.slice A p.nodes.length c, .slice A2 p.rails.length c2] 25)).alloc (.cells #[.int .i64 m.rail, .bool m.last] 27)).cell? ⟨w.heap.size + 1, 1, none⟩ = some (.bool m.last) by simp] at y1
  clear hb hv hN hc2 hf2
  go_wp2_with fail
  refine (hasRail_any _ g p m.rail _ HN.out).mono ?_
  rintro e w2 ⟨rfl, rfl⟩
  rw [HR.out]
  go_wp2_with fail
  refine (number_any m _ hr0 hr1).mono ?_
  rintro e w3 ⟨rfl, hb3⟩
  rw [HK.out]
  have HN3 := Lib.hid ((HN.out.below hb3).more hb3.size)
  have HS3 := Lib.hid ((HS1.out.below hb3).more (fun _ _ h => h) hb3.size)
  have HB3 := Lib.hid (HB.out.trans (hb3.mono HB.out.size))
  clear hb3
  go_wp2_with fail
  refine (consistent_any _ g M t A3 l c3 p _ HM.out HN3.out (Nat.le_refl _) htM HS3.out hl9 HBD.out).mono ?_
  rintro e w4 ⟨⟨b, rfl, hbb⟩, hb4⟩
  have HBB := Lib.hid hbb
  have HB4 := Lib.hid (HB3.out.trans (hb4.mono HB3.out.size))
  clear hbb hb4
  go_wp2
  go_ret
  exact ⟨⟨_, rfl, HBB.out⟩, HB4.out⟩
end Go.Proofs.YtcpanfpijljeaaaGreat

/-! partM4: Contract: the specification's Consistent. -/
namespace Go.Proofs.YtcpanfpijljeaaaGreat
set_option linter.unusedVariables false
set_option linter.unusedSimpArgs false
open Go.RowKit

set_option maxRecDepth 100000 in
set_option maxHeartbeats 4000000 in
theorem rConsistent_any (A A2 A3 : Option Addr) (c c2 c3 M : Nat) (l : List Int) (p : Pl) (m : E) (w : World) (hM : 2 * p.rails.length = M) (hP : PlAt w w.heap.size A c A2 c2 p) (hv : Vld p) (hm : railIn p m.rail = true)
    (hA : Sl w w.heap.size 1 CI A3 l) (hl9 : l.length ≤ 1000) (hbd : Bd50 l) :
    Calls Tryz.prog 33 #[.agg #[.slice A p.nodes.length c, .slice A2 p.rails.length c2], .agg #[.int .i64 m.rail, .bool m.last], .slice A3 l.length c3] w (IffPost (Cons M (keyE m) (lenAt p) (nxN p) l) w) := by
  have hsz := of_decide_eq_true hv.sizes
  have hM8 : M ≤ 800 := by omega
  have hMM : 2 * (p.rails.length : Int) = (M : Int) := by omega
  have hR4 : p.rails.length ≤ 400 := by omega
  have hg : Grf M (lenAt p) (nxN p) 31000000 := by rw [← hM]; exact plan_gr hv
  have hk1 := key_in hm
  have hkm : keyE m < M := by omega
  have hr0 : 0 ≤ m.rail := hk1.1
  have hr1 : m.rail ≤ 1000000 := by have := of_decide_eq_true hm; omega
  have HKE := Lib.hid (show endNo ⟨m.rail, m.last⟩ = ((keyE m : Nat) : Int) from hk1.2.2)
  obtain ⟨t, ht⟩ : ∃ t, keyE m = t := ⟨_, rfl⟩
  rw [ht] at hkm HKE
  rw [ht]
  clear ht hk1
  have hb0 : Below w.heap.size w ((w.alloc (.cells #[.slice A p.nodes.length c, .slice A2 p.rails.length c2] 25)).alloc (.cells #[.int .i64 m.rail, .bool m.last] 27)) := ((Below.refl _ w).alloc (Nat.le_refl _) _).alloc (by simp) _
  have HX := Lib.hid (show ∀ j : Nat, ((w.alloc (.cells #[.slice A p.nodes.length c, .slice A2 p.rails.length c2] 25)).alloc (.cells #[.int .i64 m.rail, .bool m.last] 27)).cell? ⟨w.heap.size, j, none⟩ = #[.slice A p.nodes.length c, .slice A2 p.rails.length c2][j]? ∧ ((w.alloc (.cells #[.slice A p.nodes.length c, .slice A2 p.rails.length c2] 25)).alloc (.cells #[.int .i64 m.rail, .bool m.last] 27)).cell? ⟨w.heap.size + 1, j, none⟩ = #[.int .i64 m.rail, .bool m.last][j]? from fun j => by
    have h1 := cell_keep1 (o := .cells #[.int .i64 m.rail, .bool m.last] 27) (cell_new1 w #[.slice A p.nodes.length c, .slice A2 p.rails.length c2] 25 j) (by simp)
    have h2 := cell_new1 (w.alloc (.cells #[.slice A p.nodes.length c, .slice A2 p.rails.length c2] 25)) #[.int .i64 m.rail, .bool m.last] 27 j
    rw [show (w.alloc (.cells #[.slice A p.nodes.length c, .slice A2 p.rails.length c2] 25)).heap.size = w.heap.size + 1 by simp] at h2
    exact ⟨h1, h2⟩)
  have hz3 : ((w.alloc (.cells #[.slice A p.nodes.length c, .slice A2 p.rails.length c2] 25)).alloc (.cells #[.int .i64 m.rail, .bool m.last] 27)).heap.size = w.heap.size + 2 := by simp
  have HB0 := Lib.hid hb0
  have HPA0 := Lib.hid hP
  have HV := Lib.hid hv; have HG := Lib.hid hg
  by_cases hlen : l.length = M
  case neg =>
    have HNO := Lib.hid (show ¬ Cons M t (lenAt p) (nxN p) l from fun h => hlen h.1)
    have v1 : ((l.length : Int) != 2 * (p.rails.length : Int)) = true := by simp; omega
    have v2 : (!((l.length : Int) == 2 * (p.rails.length : Int))) = true := by simp; omega
    clear hlen hA hbd hP hv hm hM hg hb0 hMM hsz
    go_enter Tryz.func33, Tryz.ntmps33
    go_wp2
    go_ret
    exact ⟨⟨_, rfl, (fun h => by cases h), fun h => absurd h HNO.out⟩, HB0.out⟩
  case pos =>
  have v1 : ((M : Int) != 2 * (p.rails.length : Int)) = false := by simp; omega
  have v2 : (!((M : Int) == 2 * (p.rails.length : Int))) = false := by simp; omega
  have v3 : ((M : Int) != (M : Int)) = false := by simp
  have v4 : (!((M : Int) == (M : Int))) = false := by simp
  rw [hlen]
  have HCELL := Lib.hid (show M = 0 ∨ ∃ b4 o4, A3 = some ⟨b4, o4, none⟩ ∧ b4 < w.heap.size ∧ ∀ u, u < M → w.cell? ⟨b4, o4 + u, none⟩ = some (.int .i64 (gI l u)) from .inr (by
    obtain ⟨b4, o4, e4, g4, _⟩ := int_at hA (i := t) (by omega)
    refine ⟨b4, o4, e4, g4, fun u hu => ?_⟩
    obtain ⟨b5, o5, e5, g5, q5⟩ := int_at hA (i := u) (by omega)
    rw [e4] at e5
    obtain ⟨rfl, rfl⟩ : b4 = b5 ∧ o4 = o5 := by simpa using e5
    rw [q5, gI_get (by omega)]))
  have HWB := Lib.hid (show ∀ u, u < M → ∀ j, -9223372036854775808 ≤ wantL (lenAt p) l ((nxN p u).take j) ∧ wantL (lenAt p) l ((nxN p u).take j) ≤ 2251799813685248 from fun u hu j => by
    refine want_bd hbd (lenAt_bd hv) _ _ (fun b hb => ?_) (by omega) (by omega)
    rw [hlen]
    exact hg.nx u hu b (List.mem_of_mem_take hb))
  have HBD := Lib.hid (show ∀ u, u < M → -9223372036854775808 ≤ gI l u ∧ gI l u ≤ 1125899906842624 from fun u hu => hbd u (by omega))
  have HNL := Lib.hid (show ∀ k, k < M → ∀ j (hj : j < ((nextL p k).map moveE).length), ∃ b : Nat, ((nextL p k).map moveE)[j] = moveE (b : Int) ∧ ∃ h2 : j < (nxN p k).length, (nxN p k)[j] = b ∧ b < M from fun k hk j hj => by
    have hj' : j < (nextL p k).length := by simpa using hj
    have hz := nextL_bd hv (by omega) _ (List.getElem_mem hj')
    exact ⟨(nextL p k)[j].toNat, by rw [List.getElem_map]; congr 1; omega, by simpa [nxN] using hj, by simp [nxN], by omega⟩)
  have HNN := Lib.hid (show ∀ k, (nxN p k).length = ((nextL p k).map moveE).length ∧ ((nextL p k).map moveE).length ≤ 2 from fun k => ⟨by simp [nxN], by rw [List.length_map]; exact nextL_len p k⟩)
  have HLN := Lib.hid hlen
  have HMQ := Lib.hid hM
  clear hP hv hm hsz hb0 hM hg hA hbd hlen
  go_enter Tryz.func33, Tryz.ntmps33
  go_wp2
  clear v1 v2 v3 v4
  generalize ((w.alloc (.cells #[.slice A p.nodes.length c, .slice A2 p.rails.length c2] 25)).alloc (.cells #[.int .i64 m.rail, .bool m.last] 27)) = W1 at *
  have HPA := Lib.hid (show ∀ w7 : World, Below W1.heap.size W1 w7 → PlAt w7 w7.heap.size A c A2 c2 p from fun w7 hb => (HPA0.out.below (HB0.out.trans (hb.mono (by omega)))).more (by have := hb.size; omega))
  have HKP := Lib.hid (show ∀ wx : World, Below W1.heap.size W1 wx → wx.cell? ⟨w.heap.size, 0, none⟩ = some (.slice A p.nodes.length c) ∧ wx.cell? ⟨w.heap.size, 1, none⟩ = some (.slice A2 p.rails.length c2) ∧ wx.cell? ⟨w.heap.size + 1, 0, none⟩ = some (.int .i64 m.rail) ∧ wx.cell? ⟨w.heap.size + 1, 1, none⟩ = some (.bool m.last) from fun wx hb =>
    ⟨(hb.cell (p := ⟨w.heap.size, 0, none⟩) (by simp; omega)).trans (HX.out 0).1, (hb.cell (p := ⟨w.heap.size, 1, none⟩) (by simp; omega)).trans (HX.out 1).1, (hb.cell (p := ⟨w.heap.size + 1, 0, none⟩) (by simp; omega)).trans (HX.out 0).2, (hb.cell (p := ⟨w.heap.size + 1, 1, none⟩) (by simp; omega)).trans (HX.out 1).2⟩)
  have HLC := Lib.hid (show ∃ b4 o4, A3 = some ⟨b4, o4, none⟩ ∧ ∀ wx : World, Below W1.heap.size W1 wx → ∀ u, u < M → wx.cell? ⟨b4, o4 + u, none⟩ = some (.int .i64 (gI l u)) from by
    rcases HCELL.out with h | ⟨b4, o4, e4, g4, h⟩
    · omega
    · exact ⟨b4, o4, e4, fun wx hb u hu => ((HB0.out.trans (hb.mono (by omega))).cell (p := ⟨b4, o4 + u, none⟩) (by simp; omega)).trans (h u hu)⟩)
  obtain ⟨b4, o4, rfl, hlc⟩ := HLC.out
  have HLC2 := Lib.hid hlc
  clear HX HPA0 HCELL HLC hlc
  go_loopw [7] (fun i wr => ∃ k : Nat, k ≤ M ∧ i = .int .i64 (k : Int) ∧ (∀ u, u < k → gI l u = if u = t then 0 else wantL (lenAt p) l (nxN p u)) ∧ Below W1.heap.size W1 wr) (fun i _ => M - (intOf i).toNat)
  case atStart => exact ⟨0, Nat.zero_le _, rfl, (fun u hu => by omega), Below.refl _ _⟩
  case round =>
    obtain ⟨k, hk, rfl, hok, hbe⟩ := hrel
    have HOK := Lib.hid hok; have HB := Lib.hid hbe
    have hzr := hbe.size
    clear hok hbe
    by_cases hlt : k < M
    · have hk0 : (0 : Int) ≤ (k : Int) := by omega
      have hk1 : (k : Int) < (M : Int) := by omega
      have hk2 : (k : Int) ≤ 1000000 := by omega
      have HC65 := Lib.hid (show ∀ wx : World, Below W1.heap.size W1 wx → Calls Tryz.prog 65 #[.agg #[.slice A p.nodes.length c, .slice A2 p.rails.length c2], .agg #[.int .i64 (moveE (k : Int)).rail, .bool (moveE (k : Int)).last]] wx fun e w' => (∃ v, e = .returned v ∧ Own w' wx.heap.size 27 2 fE v ((nextL p k).map moveE)) ∧ Below wx.heap.size wx w' from fun wx hb => by
        have := rNext_any A A2 c c2 p (moveE (k : Int)) wx (HPA.out wx hb) HV.out (moveE_in (by have := HMQ.out; omega))
        rw [keyE_moveU] at this
        exact this)
      go_upto_region 7 with (fail)
      go_cut [9] from 25 to 28 (fun s9 wx => (∃ Am cm, s9 = .slice Am ((nextL p k).map moveE).length cm ∧ Sl wx wx.heap.size 2 CE Am ((nextL p k).map moveE)) ∧ Below wr.heap.size wr wx)
      case first =>
        have hbq : Below wr.heap.size wr wr.drew := (Below.refl _ _).drew
        go_region_held3 (fun w' => w'.cell? ⟨w.heap.size, 0, none⟩ = some (.slice A p.nodes.length c) ∧ w'.cell? ⟨w.heap.size, 1, none⟩ = some (.slice A2 p.rails.length c2))
          ((have hkk := HKP.out _ (HB.out.trans (hbq.mono hzr)); exact ⟨hkk.1, hkk.2.1⟩))
          ((first
            | (go_at_call 66; (with_reducible refine (Of_any (k : Int) _ hk0 hk2).mono ?_); rintro e w6 ⟨rfl, hb6⟩; replace hbq := hbq.trans (hb6.mono hbq.size))
            | (go_at_call 65; have hpw := HC65.out _ (HB.out.trans (hbq.mono hzr)); have hbs := hbq.size; (with_reducible refine hpw.mono ?_); rintro e w7 ⟨⟨v7, rfl, hown⟩, hb7⟩; replace hbq := hbq.trans (hb7.mono hbq.size))))
        all_goals
          go_wp2_with fail
          go_meet
          obtain ⟨Am, cm, hvm, _, _, _⟩ := hown.form
          exact ⟨⟨Am, cm, hvm, hown.sl fE_len hvm⟩, hbq⟩
      case rest =>
      obtain ⟨⟨Am, cm, rfl, hsl⟩, hbq⟩ := hcut
      have HS := Lib.hid hsl
      have HB2 := Lib.hid (HB.out.trans (hbq.mono hzr))
      have hz2 := HB2.out.size
      have hnn := HNN.out k
      have HNLk := Lib.hid (HNL.out k hlt)
      have HWBk := Lib.hid (HWB.out k hlt)
      have HLL := Lib.hid hnn.1
      have hmm2 := hnn.2
      obtain ⟨mm, hmm⟩ : ∃ z, (nextL p k).map moveE = z := ⟨_, rfl⟩
      rw [hmm] at HS HNLk hmm2 HLL ⊢
      obtain ⟨X, hX⟩ : ∃ z, nxN p k = z := ⟨_, rfl⟩
      rw [hX] at HNLk HWBk HLL
      have HX := Lib.hid hX
      clear hsl hbq hnn hmm hX HB HC65
      go_wp2_with fail
      go_loopw [8, 10] (fun s8 s10 wr => ∃ j : Nat, j ≤ mm.length ∧ s10 = .int .i64 (j : Int) ∧ s8 = .int .i64 (wantL (lenAt p) l (X.take j)) ∧ Below wc.heap.size wc wr) (fun _ s10 _ => mm.length - (intOf s10).toNat)
      case atStart => exact ⟨0, Nat.zero_le _, rfl, by simp [wantL], Below.refl _ _⟩
      case round =>
        obtain ⟨j, hj, rfl, rfl, hbj⟩ := hrel
        have HBJ := Lib.hid hbj
        have hzj := hbj.size
        have HB3 := Lib.hid (HB2.out.trans (hbj.mono hz2))
        clear hbj
        obtain ⟨k0, k1, k2', k3⟩ := HKP.out wr HB3.out
        by_cases hjt : j < mm.length
        · obtain ⟨z, hmz, hz2x, hXz, hzM⟩ := HNLk.out j hjt
          obtain ⟨b1, o1, e1, g1, q0, q1⟩ := end_at HS.out hjt
          replace q0 := (HBJ.out.cell (p := ⟨b1, o1 + j * 2, none⟩) (by simp; omega)).trans q0
          replace q1 := (HBJ.out.cell (p := ⟨b1, o1 + j * 2 + 1, none⟩) (by simp; omega)).trans q1
          rw [hmz] at q0 q1
          have hrx := moveE_in (p := p) (k := z) (by have := HMQ.out; omega)
          have hex : endNo (moveE (z : Int)) = (z : Int) := endNo_moveU
          have hrr : (moveE (z : Int)).rail = ((z / 2 : Nat) : Int) := by unfold moveE; simp
          obtain ⟨xr, hxr⟩ : ∃ x, (moveE (z : Int)).rail = x := ⟨_, rfl⟩
          obtain ⟨xl, hxl⟩ : ∃ x, (moveE (z : Int)).last = x := ⟨_, rfl⟩
          have hmv : moveE (z : Int) = ⟨xr, xl⟩ := by rw [← hxr, ← hxl]
          rw [hxr] at q0 hrx hrr
          rw [hxl] at q1
          rw [hmv] at hex
          have hx0 : 0 ≤ xr := by omega
          have hx1 : xr ≤ 1000000 := by omega
          have HRX := Lib.hid hrx; have HEX := Lib.hid hex
          have hst := wantL_succ (ln := lenAt p) (l := l) hz2x
          rw [hXz] at hst
          have q4 := fun wx hb => HLC2.out wx hb z hzM
          have hxb := HBD.out z hzM
          obtain ⟨x, hx⟩ : ∃ x, gI l z = x := ⟨_, rfl⟩
          rw [hx] at hxb
          simp only [hx] at q4
          have Q4 := Lib.hid q4
          have hyb := lenAt_bd HV.out xr
          obtain ⟨y, hy⟩ : ∃ y, lenAt p xr = y := ⟨_, rfl⟩
          have HY := Lib.hid hy
          rw [hy] at hyb
          have hWb := HWBk.out j
          obtain ⟨W, hW⟩ : ∃ W, wantL (lenAt p) l (X.take j) = W := ⟨_, rfl⟩
          rw [hW] at hst hWb ⊢
          have HST := Lib.hid (show wantL (lenAt p) l (X.take (j + 1)) = if x = -1 then W else if W < 0 ∨ x + y < W then x + y else W by
            rw [hst]; unfold wantS
            rw [hx, show ((z : Int) / 2) = xr by rw [hrr]; omega, hy])
          obtain ⟨hxb0, hxb1⟩ := hxb
          obtain ⟨hy0, hy1⟩ := hyb
          obtain ⟨hW0, hW1⟩ := hWb
          have hz0 : (0 : Int) ≤ (z : Int) := by omega
          have hz1 : (z : Int) < (M : Int) := by omega
          have hj0 : (0 : Int) ≤ (j : Int) := by omega
          have hj1 : (j : Int) < (mm.length : Int) := by omega
          have hb1r : b1 < wr.heap.size := by omega
          subst e1
          clear hst hx hy hW hmz hXz hz2x hxr hxl hmv hrx hex hrr q4
          go_wp2_with fail
          (with_reducible refine (rNumber_any xr xl _ hx0 hx1).mono ?_)
          rintro e w5 ⟨rfl, hb5⟩
          rw [HEX.out]
          have hz5 := hb5.size
          have HB5 := Lib.hid (HB3.out.trans (hb5.mono (by omega)))
          have HBJ5 := Lib.hid (HBJ.out.trans (hb5.mono hzj))
          have q4 := Q4.out w5 HB5.out
          replace q0 := (hb5.cell (p := ⟨b1, o1 + j * 2, none⟩) hb1r).trans q0
          clear hb5 q1 HB3 HBJ k0 k1 k2' k3
          obtain ⟨k0, k1, k2', k3⟩ := HKP.out w5 HB5.out
          by_cases hxx : x = -1
          · subst hxx
            have HS1 := Lib.hid (show wantL (lenAt p) l (X.take (j + 1)) = W by rw [HST.out, if_pos rfl])
            go_wp2_with fail
            go_roundw
            case rel => exact ⟨j + 1, by omega, by go_num, by rw [HS1.out], HBJ5.out⟩
            case measure => simp [intOf]; omega
          · have hxe : (x == -1) = false := by simpa using hxx
            have hwr : IntKind.i64.wrap (x + y) = x + y := by rw [IntKind.wrap_i64]; omega
            have HS0 := Lib.hid (HST.out.trans (if_neg hxx))
            clear hxx
            go_upto_region 13 with (fail)
            go_cut [11] from 45 to 53 (fun s11 wx => s11 = .int .i64 (x + y) ∧ Below w5.heap.size w5 wx)
            case first =>
              have hbq : Below w5.heap.size w5 w5.drew := (Below.refl _ _).drew
              have HK5 := Lib.hid (show ∀ w', Below w5.heap.size w5 w' → w'.cell? ⟨w.heap.size, 0, none⟩ = some (.slice A p.nodes.length c) ∧ w'.cell? ⟨w.heap.size, 1, none⟩ = some (.slice A2 p.rails.length c2) ∧ w'.cell? ⟨b1, o1 + j * 2, none⟩ = some (.int .i64 xr) from fun w' hb' =>
                ⟨(hb'.cell (p := ⟨w.heap.size, 0, none⟩) (by simp; omega)).trans k0, (hb'.cell (p := ⟨w.heap.size, 1, none⟩) (by simp; omega)).trans k1, (hb'.cell (p := ⟨b1, o1 + j * 2, none⟩) (by simp; omega)).trans q0⟩)
              go_region_held3 (fun w' => w'.cell? ⟨w.heap.size, 0, none⟩ = some (.slice A p.nodes.length c) ∧ w'.cell? ⟨w.heap.size, 1, none⟩ = some (.slice A2 p.rails.length c2) ∧ w'.cell? ⟨b1, o1 + j * 2, none⟩ = some (.int .i64 xr))
                (exact HK5.out _ hbq)
                ((first
                  | (go_at_call 35; have hpw := HPA.out _ (HB5.out.trans (hbq.mono (by omega))); have hlc := rLength_in A A2 c c2 p xr _ hpw HV.out HRX.out; rw [HY.out] at hlc; (with_reducible refine hlc.mono ?_); rintro e w6 ⟨rfl, hb6⟩; replace hbq := hbq.trans (hb6.mono hbq.size))))
              all_goals
                go_wp2_with fail
                go_meet
                exact ⟨rfl, hbq⟩
            case rest =>
            obtain ⟨rfl, hbq⟩ := hcut
            have HBJ6 := Lib.hid (HBJ5.out.trans (hbq.mono (by omega)))
            clear hbq q0 q4 k0 k1 k2' k3 HB5 HBJ5
            by_cases hc : W < 0
            · have HS1 := Lib.hid (show wantL (lenAt p) l (X.take (j + 1)) = x + y by rw [HS0.out, if_pos (Or.inl hc)])
              go_wp2_with fail
              go_roundw
              case rel => exact ⟨j + 1, by omega, by go_num, by rw [HS1.out], HBJ6.out⟩
              case measure => simp [intOf]; omega
            · have d1 : decide (W < 0) = false := by rw [decide_eq_false_iff_not]; exact hc
              by_cases hd : x + y < W
              · have HS1 := Lib.hid (show wantL (lenAt p) l (X.take (j + 1)) = x + y by rw [HS0.out, if_pos (Or.inr hd)])
                go_wp2_with fail
                go_roundw
                case rel => exact ⟨j + 1, by omega, by go_num, by rw [HS1.out], HBJ6.out⟩
                case measure => simp [intOf]; omega
              · have d2 : decide (x + y < W) = false := by rw [decide_eq_false_iff_not]; exact hd
                have HS1 := Lib.hid (show wantL (lenAt p) l (X.take (j + 1)) = W by rw [HS0.out, if_neg (by omega)])
                go_wp2_with fail
                go_roundw
                case rel => exact ⟨j + 1, by omega, by go_num, by rw [HS1.out], HBJ6.out⟩
                case measure => simp [intOf]; omega
        · obtain rfl : j = mm.length := by omega
          have HQ := Lib.hid (show wantL (lenAt p) l (X.take mm.length) = wantL (lenAt p) l X by rw [← HLL.out, List.take_length])
          rw [HQ.out]
          have hWb := HWBk.out X.length
          rw [List.take_length] at hWb
          obtain ⟨W, hW⟩ : ∃ W, wantL (lenAt p) l X = W := ⟨_, rfl⟩
          rw [hW] at hWb ⊢
          have hxb := HBD.out k hlt
          obtain ⟨x, hx⟩ : ∃ x, gI l k = x := ⟨_, rfl⟩
          rw [hx] at hxb
          have HWX := Lib.hid (And.intro hW hx)
          obtain ⟨hxb0, hxb1⟩ := hxb
          obtain ⟨hW0, hW1⟩ := hWb
          have hjn : ¬ ((mm.length : Nat) : Int) < ((mm.length : Nat) : Int) := by omega
          clear hW hx
          go_wp2_with fail
          (with_reducible refine (rNumber_any m.rail m.last _ hr0 hr1).mono ?_)
          rintro e w5 ⟨rfl, hb5⟩
          rw [HKE.out]
          have HB5 := Lib.hid (HB3.out.trans (hb5.mono (by omega)))
          clear hb5 k0 k1 k2' k3
          have q4 := HLC2.out w5 HB5.out k hlt
          rw [HWX.out.2] at q4
          by_cases hkt : k = t
          · subst hkt
            have n1 : ((k : Int) == (k : Int)) = true := by simp
            by_cases hx0 : x = 0
            · subst hx0
              have n2 : ((0 : Int) != 0) = false := by simp
              go_wp2_with fail
              go_roundw
              case rel => exact ⟨k + 1, by omega, by go_num, (fun u hu => by
                by_cases e : u = k
                · subst e; rw [if_pos rfl]; exact HWX.out.2
                · exact HOK.out u (by omega)), HB5.out⟩
              case measure => simp [intOf]; omega
            · have n2 : (x != 0) = true := by simpa using hx0
              have n3 : (!(x == 0)) = true := by simpa using hx0
              have HNO := Lib.hid (show ¬ Cons M k (lenAt p) (nxN p) l from fun h => by
                have := h.2 k hlt
                rw [if_pos rfl, HWX.out.2] at this
                exact hx0 this)
              clear hx0
              go_wp2_with fail
              go_ret
              exact ⟨⟨_, rfl, (fun h => by cases h), fun h => absurd h HNO.out⟩, HB0.out.trans (HB5.out.mono (by omega))⟩
          · have n1 : ((k : Int) == (t : Int)) = false := by simp; omega
            have HKT := Lib.hid hkt
            clear hkt
            by_cases hx0 : x = W
            · subst hx0
              have n2 : (x != x) = false := by simp
              have n3 : (!(x == x)) = false := by simp
              go_wp2_with fail
              go_roundw
              case rel => exact ⟨k + 1, by omega, by go_num, (fun u hu => by
                by_cases e : u = k
                · subst e; rw [if_neg HKT.out, HX.out, HWX.out.1, HWX.out.2]
                · exact HOK.out u (by omega)), HB5.out⟩
              case measure => simp [intOf]; omega
            · have n2 : (x != W) = true := by simpa using hx0
              have n3 : (!(x == W)) = true := by simpa using hx0
              have HNO := Lib.hid (show ¬ Cons M t (lenAt p) (nxN p) l from fun h => by
                have := h.2 k hlt
                rw [if_neg HKT.out, HX.out, HWX.out.1, HWX.out.2] at this
                exact hx0 this)
              clear hx0
              go_wp2_with fail
              go_ret
              exact ⟨⟨_, rfl, (fun h => by cases h), fun h => absurd h HNO.out⟩, HB0.out.trans (HB5.out.mono (by omega))⟩
    · obtain rfl : M = k := by omega
      have HYES := Lib.hid (show Cons M t (lenAt p) (nxN p) l from ⟨HLN.out, HOK.out⟩)
      go_wp2
      go_ret
      exact ⟨⟨_, rfl, (fun _ => HYES.out), fun _ => rfl⟩, HB0.out.trans (HB.out.mono (by omega))⟩
end Go.Proofs.YtcpanfpijljeaaaGreat

/-! partM5: Contracts: the predicate of descend, IndexFunc at it, descend. -/
namespace Go.Proofs.YtcpanfpijljeaaaGreat
set_option linter.unusedVariables false
set_option linter.unusedSimpArgs false
open Go.RowKit

/-- the step of descend -/
def stepB (ln : Int → Int) (cs : List C2) (u z : Nat) : Bool := decide (0 ≤ (gC cs z).1) && decide ((gC cs z).1 + ln ((z : Int) / 2) = (gC cs u).1) && decide ((gC cs z).2 + 1 = (gC cs u).2)
/-- costs that fit into integers -/
def BdC (cs : List C2) : Prop := ∀ u, u < cs.length → -1 ≤ (gC cs u).1 ∧ (gC cs u).1 ≤ 1000000000000 ∧ (0 ≤ (gC cs u).1 → 0 ≤ (gC cs u).2 ∧ (gC cs u).2 ≤ 1000000000000)
theorem gC_get {cs : List C2} {v : Nat} (h : v < cs.length) : gC cs v = cs[v] := by simp [gC, h]
theorem CRow.gc {w : World} {b : Nat} {l : List C2} (h : CRow w b l) {i : Nat} (hi : i < l.length) : w.cell? ⟨b, i * 2, none⟩ = some (.int .i64 (gC l i).1) ∧ w.cell? ⟨b, i * 2 + 1, none⟩ = some (.int .i64 (gC l i).2) := by
  rw [gC_get hi]; exact h.cell hi

set_option maxRecDepth 100000 in
set_option maxHeartbeats 2000000 in
theorem step_any (B g M u z cb b7 b4 b10 : Nat) (cs : List C2) (p : Pl) (w : World) (hM : 2 * p.rails.length = M) (h : Nw w B g p) (hc : CRow w cb cs) (hl : cs.length = M) (hu : u < M) (hz : z < M) (hbd : BdC cs) (hu0 : 0 ≤ (gC cs u).1)
    (e7 : w.cell? ⟨b7, 0, none⟩ = some (.slice (some ⟨cb, 0, none⟩) M M)) (e4 : w.cell? ⟨b4, 0, none⟩ = some (.pointer (some ⟨g, 0, none⟩))) (e10 : w.cell? ⟨b10, 0, none⟩ = some (.int .i64 (u : Int))) :
    Calls Tryz.prog 84 #[.int .i64 (z : Int), .pointer (some ⟨b7, 0, none⟩), .pointer (some ⟨b4, 0, none⟩), .pointer (some ⟨b10, 0, none⟩)] w fun e w' => e = .returned (.bool (stepB (lenAt p) cs u z)) ∧ Below w.heap.size w w' := by
  have hsz := h.sizes
  have hv := h.v
  obtain ⟨A1, c1, A2, c2, lb, sb, nb, bb, hN, x1, x2, x3, x4, x5, x6⟩ := h.net
  obtain ⟨_, _, k2, _, _, _⟩ := hN.cell
  have hM8 : M ≤ 800 := by omega
  have hzh : z / 2 < p.rails.length := by omega
  have q5 := x3.cell (i := z / 2) (by rw [lens_len]; exact hzh)
  rw [lens_get hzh] at q5
  obtain ⟨r0, r1⟩ := hc.gc (i := z) (by omega)
  obtain ⟨s0, s1⟩ := hc.gc (i := u) (by omega)
  have hbz := hbd z (by omega)
  have hbu := hbd u (by omega)
  have hby := lenAt_bd hv ((z / 2 : Nat) : Int)
  obtain ⟨zl, hzl⟩ : ∃ x, (gC cs z).1 = x := ⟨_, rfl⟩
  obtain ⟨zm, hzm⟩ : ∃ x, (gC cs z).2 = x := ⟨_, rfl⟩
  obtain ⟨ul, hul⟩ : ∃ x, (gC cs u).1 = x := ⟨_, rfl⟩
  obtain ⟨um, hum⟩ : ∃ x, (gC cs u).2 = x := ⟨_, rfl⟩
  obtain ⟨y, hy⟩ : ∃ x, lenAt p ((z / 2 : Nat) : Int) = x := ⟨_, rfl⟩
  rw [hzl] at r0; rw [hzm] at r1; rw [hul] at s0 hu0; rw [hum] at s1; rw [hy] at q5 hby
  rw [hzl, hzm] at hbz
  rw [hul, hum] at hbu
  have HST := Lib.hid (show stepB (lenAt p) cs u z = (decide (0 ≤ zl) && decide (zl + y = ul) && decide (zm + 1 = um)) by
    unfold stepB; rw [hzl, hzm, hul, hum, show ((z : Int) / 2) = ((z / 2 : Nat) : Int) by omega, hy])
  obtain ⟨hz0, hz1, hz2⟩ := hbz
  obtain ⟨_, hu1, hu2⟩ := hbu
  obtain ⟨hu3, hu4⟩ := hu2 hu0
  obtain ⟨hy0, hy1⟩ := hby
  have i0 : (0 : Int) ≤ (z : Int) := by omega
  have i1 : (z : Int) < (M : Int) := by omega
  have i2 : (0 : Int) ≤ (u : Int) := by omega
  have i3 : (u : Int) < (M : Int) := by omega
  clear hN h x3 x4 x5 x6 hc hbd hzl hzm hul hum hy hu2
  by_cases c1 : 0 ≤ zl
  · obtain ⟨hz3, hz4⟩ := hz2 c1
    have w1 : IntKind.i64.wrap (zl + y) = zl + y := by rw [IntKind.wrap_i64]; omega
    have w2 : IntKind.i64.wrap (zm + 1) = zm + 1 := by rw [IntKind.wrap_i64]; omega
    clear hz2
    by_cases c2 : zl + y = ul
    · subst c2
      have d2 : ((zl + y : Int) == zl + y) = true := by simp
      by_cases c3 : zm + 1 = um
      · subst c3
        have HF := Lib.hid (show stepB (lenAt p) cs u z = true by rw [HST.out]; simp [c1])
        have d3 : ((zm + 1 : Int) == zm + 1) = true := by simp
        go_enter Tryz.func84, Tryz.ntmps84
        go_wp2
        go_quiet (fail)
        go_wp2
        go_ret
        exact ⟨by rw [HF.out]; rfl, bDrewN (Below.refl _ _) _⟩
      · have HF := Lib.hid (show stepB (lenAt p) cs u z = false by rw [HST.out]; simp [c1, c3])
        have d3 : ((zm + 1 : Int) == um) = false := by simpa using c3
        clear c3
        go_enter Tryz.func84, Tryz.ntmps84
        go_wp2
        go_quiet (fail)
        go_wp2
        go_ret
        exact ⟨by rw [HF.out]; rfl, bDrewN (Below.refl _ _) _⟩
    · have HF := Lib.hid (show stepB (lenAt p) cs u z = false by rw [HST.out]; simp [c1, c2])
      have d2 : ((zl + y : Int) == ul) = false := by simpa using c2
      clear c2
      go_enter Tryz.func84, Tryz.ntmps84
      go_wp2
      go_quiet (fail)
      go_wp2
      go_ret
      exact ⟨by rw [HF.out]; rfl, bDrewN (Below.refl _ _) _⟩
  · have HF := Lib.hid (show stepB (lenAt p) cs u z = false by rw [HST.out]; simp [c1])
    have d1 : decide (0 ≤ zl) = false := by rw [decide_eq_false_iff_not]; exact c1
    have d1' : decide (zl ≥ 0) = false := by rw [decide_eq_false_iff_not]; exact c1
    clear hz2
    go_enter Tryz.func84, Tryz.ntmps84
    go_wp2
    go_quiet (fail)
    go_wp2
    go_ret
    exact ⟨by rw [HF.out]; rfl, bDrewN (Below.refl _ _) _⟩

set_option maxRecDepth 100000 in
set_option maxHeartbeats 2000000 in
theorem indexFn_any (A : Option Addr) (L : List Int) (c : Nat) (lb : Array Value) (f : Int → Bool) (w : World) (hA : Sl w w.heap.size 1 CI A L) (hl : L.length ≤ 1000) (k : Nat) (hk : k < L.length) (hfk : f L[k] = true) (hf : ∀ j (hj : j < k), f (L[j]'(by omega)) = false)
    (hC : ∀ z ∈ L, ∀ w', Below w.heap.size w w' → Calls Tryz.prog 84 (#[.int .i64 z] ++ lb) w' fun e w2 => e = .returned (.bool (f z)) ∧ Below w'.heap.size w' w2) :
    Calls Tryz.prog 83 #[.slice A L.length c, .func (.func 84) #[] lb] w fun e w' => e = .returned (.int .i64 (k : Int)) ∧ Below w.heap.size w w' := by
  have HC := Lib.hid (show ∀ j (hj : j < L.length) (x : Int) (b : Bool), L[j] = x → f x = b → ∀ w', Below w.heap.size w w' → Calls Tryz.prog 84 (#[.int .i64 x] ++ lb) w' fun e w2 => e = .returned (.bool b) ∧ Below w'.heap.size w' w2 from fun j hj x b hx hb w' hw => by
    subst hx; subst hb
    exact hC _ (List.getElem_mem hj) w' hw)
  have HFK := Lib.hid hfk; have HF := Lib.hid hf; have HA := Lib.hid hA
  clear hC hfk hf hA
  go_enter Tryz.func83, Tryz.ntmps83
  go_wp2
  go_loopw [5, 8] (fun _ i wr => ∃ j : Nat, j ≤ k ∧ i = .int .i64 (j : Int) ∧ Below w.heap.size w wr) (fun _ i _ => L.length - (intOf i).toNat)
  case atStart => exact ⟨0, Nat.zero_le _, rfl, Below.refl _ _⟩
  case round =>
    obtain ⟨j, hj, rfl, hb⟩ := hrel
    have HB := Lib.hid hb
    have hjl : j < L.length := by omega
    obtain ⟨b3, o3, e3, g3, q3⟩ := int_at HA.out hjl
    replace q3 := (hb.cell (p := ⟨b3, o3 + j, none⟩) (by simp; omega)).trans q3
    obtain ⟨x, hx⟩ : ∃ x, L[j] = x := ⟨_, rfl⟩
    rw [hx] at q3
    have j0 : (0 : Int) ≤ (j : Int) := by omega
    have j1 : (j : Int) < (L.length : Int) := by omega
    have hzw := hb.size
    by_cases hjk : j = k
    · subst hjk
      have hcall := HC.out j hjl x true hx (by rw [← hx]; exact HFK.out) wr hb
      have HCC := Lib.hid hcall
      subst e3
      clear hx hb hcall
      go_wp2_with fail
      refine HCC.out.mono ?_
      rintro e w5 ⟨rfl, hb5⟩
      have HB5 := Lib.hid (HB.out.trans (hb5.mono hzw))
      clear hb5
      go_wp2
      go_ret
      exact ⟨rfl, HB5.out⟩
    · have hcall := HC.out j hjl x false hx (by rw [← hx]; exact HF.out j (by omega)) wr hb
      have HCC := Lib.hid hcall
      subst e3
      clear hx hb hcall
      go_wp2_with fail
      refine HCC.out.mono ?_
      rintro e w5 ⟨rfl, hb5⟩
      have HB5 := Lib.hid (HB.out.trans (hb5.mono hzw))
      clear hb5
      go_wp2
      go_roundw
      case rel => exact ⟨j + 1, by omega, by go_num, HB5.out⟩
      case measure => simp [intOf]; omega

/-- what descend has gone so far -/
structure Pth (M : Nat) (ln : Int → Int) (nx : Nat → List Nat) (cs : List C2) (f u : Nat) (q : List Nat) : Prop where
  hd : q.head? = some f
  la : q.getLast? = some u
  st : ∀ i (hi : i + 1 < q.length), q[i + 1] ∈ nx (q[i]'(by omega))
  pw : q.Pairwise fun a b => (gC cs b).1 < (gC cs a).1
  mM : ∀ x ∈ q, x < M ∧ (gC cs u).1 ≤ (gC cs x).1
  sm : (gC cs f).1 + ln ((f : Int) / 2) = (q.map fun x : Nat => ln ((x : Int) / 2)).sum + (gC cs u).1
theorem Pth.start {M : Nat} {ln : Int → Int} {nx : Nat → List Nat} {cs : List C2} {f : Nat} (hf : f < M) : Pth M ln nx cs f f [f] :=
  ⟨rfl, rfl, fun i hi => by simp at hi, by simp, fun x hx => by
    obtain rfl : x = f := by simpa using hx
    exact ⟨hf, Int.le_refl _⟩, by simp; omega⟩
theorem Pth.len {M : Nat} {ln : Int → Int} {nx : Nat → List Nat} {cs : List C2} {f u : Nat} {q : List Nat} (h : Pth M ln nx cs f u q) : 1 ≤ q.length ∧ q.length ≤ M := by
  refine ⟨?_, nodup_le (h.pw.imp fun {a b} hab e => by subst e; omega) fun x hx => (h.mM x hx).1⟩
  rcases q with _ | ⟨x, r⟩
  · have := h.hd; simp at this
  · simp
theorem Pth.last {M : Nat} {ln : Int → Int} {nx : Nat → List Nat} {cs : List C2} {f u : Nat} {q : List Nat} (h : Pth M ln nx cs f u q) : u ∈ q := List.mem_of_getLast? h.la
theorem Pth.step {M : Nat} {ln : Int → Int} {nx : Nat → List Nat} {cs : List C2} {f u v : Nat} {q : List Nat} (h : Pth M ln nx cs f u q) (hv : v ∈ nx u) (hvM : v < M) (h1 : 1 ≤ ln ((v : Int) / 2)) (he : (gC cs v).1 + ln ((v : Int) / 2) = (gC cs u).1) : Pth M ln nx cs f v (q ++ [v]) := by
  have hq := h.len.1
  refine ⟨?_, by simp, fun i hi => ?_, ?_, fun x hx => ?_, ?_⟩
  · rcases q with _ | ⟨x, r⟩
    · simp at hq
    · have := h.hd; simpa using this
  · have hi2 : i < q.length := by simpa using hi
    by_cases e : i + 1 < q.length
    · rw [List.getElem_append_left e, List.getElem_append_left hi2]
      exact h.st i e
    · rw [List.getElem_append_right (show q.length ≤ i + 1 by omega), List.getElem_append_left hi2]
      have hl := h.la
      rw [List.getLast?_eq_getElem?, show q.length - 1 = i by omega, List.getElem?_eq_getElem hi2] at hl
      rw [Option.some.inj hl]
      simpa using hv
  · rw [List.pairwise_append]
    refine ⟨h.pw, by simp, fun a ha b hb => ?_⟩
    obtain rfl : b = v := by simpa using hb
    have := (h.mM a ha).2
    omega
  · rcases List.mem_append.1 hx with hx | hx
    · have := h.mM x hx; exact ⟨this.1, by omega⟩
    · obtain rfl : x = v := by simpa using hx
      exact ⟨hvM, Int.le_refl _⟩
  · have := h.sm
    rw [List.map_append, List.sum_append]
    simp only [List.map_cons, List.map_nil, List.sum_cons, List.sum_nil]
    omega
/-- the measure: what is left -/
def muD (cs : List C2) (v : Value) (w : World) : Nat := match v with
  | .pointer (some a) => (match w.cell? a with
    | some (.int _ n) => (gC cs n.toNat).1.toNat
    | _ => 0)
  | _ => 0
/-- a first one of which something holds -/
theorem first_of (L : List Int) (f : Int → Bool) : (∃ x ∈ L, f x = true) → ∃ k, ∃ hk : k < L.length, f L[k] = true ∧ ∀ j (hj : j < k), f (L[j]'(by omega)) = false := by
  induction L with
  | nil => rintro ⟨x, hx, _⟩; cases hx
  | cons y L ih =>
    intro h
    cases hy : f y
    · obtain ⟨k, hk, h1, h2⟩ := ih (by
        obtain ⟨x, hx, hf⟩ := h
        rcases List.mem_cons.1 hx with rfl | hx
        · rw [hy] at hf; cases hf
        · exact ⟨x, hx, hf⟩)
      refine ⟨k + 1, by simpa using hk, by simpa using h1, fun j hj => ?_⟩
      cases j with
      | zero => simpa using hy
      | succ j => have := h2 j (by omega); simpa using this
    · exact ⟨0, by simp, by simpa using hy, fun j hj => by omega⟩

/-- what lies in memory while descend goes -/
structure DG (w wr : World) (W1 : World) (bm : Nat) (v : Value) (u : Nat) (q : List Nat) : Prop where
  ro : wr.heap[bm]? = some (.cells #[.int .i64 (u : Int)] 3)
  bo : W1.heap.size ≤ bm
  ow : Own wr W1.heap.size 3 1 fI v (q.map fun x : Nat => (x : Int))
  ne : ∀ k, v.ownBlock = some k → k ≠ bm
  be : Below W1.heap.size W1 wr

set_option maxRecDepth 100000 in
set_option maxHeartbeats 4000000 in
theorem descend_any (B g M f t cb : Nat) (cs : List C2) (p : Pl) (w : World) (hM : 2 * p.rails.length = M) (h : Nw w B g p) (hB : B ≤ w.heap.size) (hc : CRow w cb cs) (hl : cs.length = M) (hf : f < M) (ht : t < M) (hbd : BdC cs)
    (hnx : ∀ u, u < M → u ≠ t → 0 ≤ (gC cs u).1 → ∃ b ∈ nxN p u, stepB (lenAt p) cs u b = true) (hf0 : 0 ≤ (gC cs f).1) :
    Calls Tryz.prog 58 #[.pointer (some ⟨g, 0, none⟩), .int .i64 (f : Int), .int .i64 (t : Int), .slice (some ⟨cb, 0, none⟩) M M] w fun e w' => (∃ v q, e = .returned v ∧ Own w' w.heap.size 3 1 fI v (q.map fun x : Nat => (x : Int)) ∧ Pth M (lenAt p) (nxN p) cs f t q) ∧ Below w.heap.size w w' := by
  have hsz := h.sizes
  have hgB := h.gB
  have hv := h.v
  have hM8 : M ≤ 800 := by omega
  have hcl := hc.lt
  obtain ⟨i0, hi, hz0, hz1, hz2⟩ := info_parts inf3
  have hg : Grf M (lenAt p) (nxN p) 31000000 := by rw [← hM]; exact plan_gr hv
  have HG := Lib.hid hg
  have HPTH := Lib.hid (fun (u : Nat) (q : List Nat) (hp : Pth M (lenAt p) (nxN p) cs f u q) => (hp.mM u hp.last).1)
  have HFST := Lib.hid (show ∀ u, u < M → u ≠ t → 0 ≤ (gC cs u).1 → ∃ k z : Nat, ∃ hk : k < (nextL p u).length, (nextL p u)[k] = (z : Int) ∧ stepB (lenAt p) cs u (nextL p u)[k].toNat = true ∧ (∀ j (hj : j < k), stepB (lenAt p) cs u ((nextL p u)[j]'(by omega)).toNat = false) ∧ z < M ∧ z ∈ nxN p u ∧ 0 ≤ (gC cs z).1 ∧ (gC cs z).1 + lenAt p ((z : Int) / 2) = (gC cs u).1 from fun u hu hut hu0 => by
    obtain ⟨b, hb, hst⟩ := hnx u hu hut hu0
    have hb2 := (mem_nxN hv (by omega)).1 hb
    obtain ⟨k, hk, h1, h2⟩ := first_of (nextL p u) (fun x => stepB (lenAt p) cs u x.toNat) ⟨_, hb2, by simpa using hst⟩
    have hz := nextL_bd hv (by omega) _ (List.getElem_mem hk)
    have h3 := h1
    unfold stepB at h3
    simp only [Bool.and_eq_true, decide_eq_true_eq] at h3
    exact ⟨k, (nextL p u)[k].toNat, hk, by omega, h1, h2, by omega, (mem_nxN hv (by omega)).2 (by rw [show (((nextL p u)[k].toNat : Nat) : Int) = (nextL p u)[k] by omega]; exact List.getElem_mem hk), h3.1.1, h3.1.2⟩)
  have HNB := Lib.hid (show ∀ u, u < M → ∀ z ∈ nextL p u, ∃ x : Nat, z = x ∧ x < M from fun u hu z hz => by
    have := nextL_bd hv (by omega) z hz
    exact ⟨z.toNat, by omega, by omega⟩)
  have HBC := Lib.hid hbd
  have HCL := Lib.hid hl; have HMM := Lib.hid hM
  have HT0 := Lib.hid ht
  have hb0 : Below w.heap.size w ((w.alloc (.cells #[.pointer (some ⟨g, 0, none⟩)] 100)).alloc (.cells #[.slice (some ⟨cb, 0, none⟩) M M] 115)) := ((Below.refl _ w).alloc (Nat.le_refl _) _).alloc (by simp) _
  have HB0 := Lib.hid hb0
  have HX := Lib.hid (show ∀ j : Nat, ((w.alloc (.cells #[.pointer (some ⟨g, 0, none⟩)] 100)).alloc (.cells #[.slice (some ⟨cb, 0, none⟩) M M] 115)).cell? ⟨w.heap.size, j, none⟩ = #[.pointer (some ⟨g, 0, none⟩)][j]? ∧ ((w.alloc (.cells #[.pointer (some ⟨g, 0, none⟩)] 100)).alloc (.cells #[.slice (some ⟨cb, 0, none⟩) M M] 115)).cell? ⟨w.heap.size + 1, j, none⟩ = #[.slice (some ⟨cb, 0, none⟩) M M][j]? from fun j => by
    have h1 := cell_keep1 (o := .cells #[.slice (some ⟨cb, 0, none⟩) M M] 115) (cell_new1 w #[.pointer (some ⟨g, 0, none⟩)] 100 j) (by simp)
    have h2 := cell_new1 (w.alloc (.cells #[.pointer (some ⟨g, 0, none⟩)] 100)) #[.slice (some ⟨cb, 0, none⟩) M M] 115 j
    rw [show (w.alloc (.cells #[.pointer (some ⟨g, 0, none⟩)] 100)).heap.size = w.heap.size + 1 by simp] at h2
    exact ⟨h1, h2⟩)
  have HN := Lib.hid ((h.below (hb0.mono hB)).more (Nat.le_trans hB hb0.size))
  have HC := Lib.hid (hc.below hb0 hcl)
  obtain ⟨W1, hW1⟩ : ∃ W1, (w.alloc (.cells #[.pointer (some ⟨g, 0, none⟩)] 100)).alloc (.cells #[.slice (some ⟨cb, 0, none⟩) M M] 115) = W1 := ⟨_, rfl⟩
  have hzW : W1.heap.size = w.heap.size + 2 := by rw [← hW1]; simp
  rw [hW1] at HB0 HX HN HC
  have HO1 := Lib.hid (show DG w ((W1.alloc (.cells #[.int .i64 (f : Int)] 3)).alloc (.cells #[.int .i64 (f : Int)] 3)) W1 (W1.heap.size + 1) (.slice (some ⟨W1.heap.size, 0, none⟩) 1 1) f [f] from by
    have h1 := Own.built (f := fI) (size := 1) W1 W1.heap.size 3 (f : Int) #[.int .i64 (f : Int)] rfl fI_len (Nat.le_refl _)
    have h2 := heap_alloc_new (W1.alloc (.cells #[.int .i64 (f : Int)] 3)) (.cells #[.int .i64 (f : Int)] 3)
    rw [show (W1.alloc (.cells #[.int .i64 (f : Int)] 3)).heap.size = W1.heap.size + 1 by simp] at h2
    exact ⟨h2, by omega, h1.alloc _, fun k hk => by
      have : k = W1.heap.size := by simpa [Value.ownBlock] using hk.symm
      omega, ((Below.refl _ W1).alloc (Nat.le_refl _) _).alloc (by simp) _⟩)
  have hf1 : (0 : Int) ≤ (f : Int) := by omega
  have HF0 := Lib.hid hf0; have HFM := Lib.hid hf
  clear h hc hb0 hsz hv hg hbd hnx hf0 hl hM ht hf
  go_enter Tryz.func58, Tryz.ntmps58
  go_wp2_with fail
  clear hW1
  have hw2 : w.heap.size + 2 = W1.heap.size := hzW.symm
  simp only [hw2]
  have hwa : W1.heap.size ≤ w.heap.size + 2 := by omega
  have hwb : w.heap.size + 2 ≤ W1.heap.size := by omega
  clear hw2 hzW
  generalize ((W1.alloc (.cells #[.int .i64 (f : Int)] 3)).alloc (.cells #[.int .i64 (f : Int)] 3)) = W2 at *
  go_loopw [9, 10] (fun s9 s10 wr => ∃ (q : List Nat) (u bm : Nat), s10 = .pointer (some ⟨bm, 0, none⟩) ∧ DG w wr W1 bm s9 u q ∧ Pth M (lenAt p) (nxN p) cs f u q ∧ 0 ≤ (gC cs u).1) (fun _ s10 wr => muD cs s10 wr)
  case atStart => exact ⟨[f], f, W1.heap.size + 1, rfl, HO1.out, Pth.start HFM.out, HF0.out⟩
  case round =>
    obtain ⟨q, u, bm, rfl, hdg, hpt, hu0⟩ := hrel
    have huM := HPTH.out u q hpt
    have HDG := Lib.hid hdg; have HPT := Lib.hid hpt; have HU0 := Lib.hid hu0
    have hq8 := hpt.len.2
    have hzr := hdg.be.size
    have hbml : bm < wr.heap.size := (Array.getElem?_eq_some_iff.1 hdg.ro).1
    have hbo := hdg.bo
    have m0 := cell_of_row wr bm 0 _ 3 (0, 0) hdg.ro
    simp only [List.getElem?_toArray, List.getElem?_cons_zero] at m0
    have HMU := Lib.hid (show muD cs (.pointer (some ⟨bm, 0, none⟩)) wr = (gC cs u).1.toNat by simp only [muD, m0, Int.toNat_natCast])
    have iu0 : (0 : Int) ≤ (u : Int) := by omega
    have iu1 : (u : Int) < (M : Int) := by omega
    clear hdg hpt hu0
    by_cases hut : u = t
    · subst hut
      have HPT2 := Lib.hid HPT.out
      have n1 : ((u : Int) != (u : Int)) = false := by simp
      have n2 : (!((u : Int) == (u : Int))) = false := by simp
      go_wp2
      go_ret
      exact ⟨⟨_, q, rfl, HDG.out.ow.lower (by omega), HPT2.out⟩, HB0.out.trans (HDG.out.be.mono (by omega))⟩
    · obtain ⟨k, z, hk, hkz, hst, hft, hzM, hzn, hz0, hze⟩ := HFST.out u huM hut HU0.out
      have HZ := Lib.hid (And.intro hzn (And.intro hz0 hze))
      have n1 : ((u : Int) != (t : Int)) = true := by simp; omega
      have n2 : (!((u : Int) == (t : Int))) = true := by simp; omega
      have HN2 := Lib.hid ((HN.out.below HDG.out.be).more hzr)
      obtain ⟨A1, c1, A2, c2, lb, sb, nb, bb, hN, x1, x2, x3, x4, x5, x6⟩ := HN2.out.net
      obtain ⟨_, _, _, _, k4, _⟩ := hN.cell
      rw [HMM.out] at k4 x5
      obtain ⟨Ab, cb2, r0, r1, r2, r3⟩ := x5.2 u huM
      have hgl := hN.lt
      have hnb := x5.1
      obtain ⟨b5, o5, rfl, g5, q5⟩ := int_at r3 hk
      rw [hkz] at q5
      have hcbl := HC.out.lt
      have e4 := (HDG.out.be.cell (p := ⟨w.heap.size, 0, none⟩) (by simp; omega)).trans (HX.out 0).1
      have e7 := (HDG.out.be.cell (p := ⟨w.heap.size + 1, 0, none⟩) (by simp; omega)).trans (HX.out 0).2
      simp only [List.getElem?_toArray, List.getElem?_cons_zero] at e4 e7
      have hcrow := HC.out.below HDG.out.be hcbl
      have hn7 : bm ≠ w.heap.size := by omega
      have hn8 : bm ≠ w.heap.size + 1 := by omega
      have HK := Lib.hid (show ∀ w', Below wr.heap.size wr w' → (w'.cell? ⟨w.heap.size, 0, none⟩ = some (.pointer (some ⟨g, 0, none⟩)) ∧ w'.cell? ⟨g, 4, none⟩ = some (.slice (some ⟨nb, 0, none⟩) M M) ∧ w'.cell? ⟨bm, 0, none⟩ = some (.int .i64 (u : Int)) ∧ w'.cell? ⟨nb, u, none⟩ = some (.slice (some ⟨b5, o5, none⟩) (nextL p u).length cb2)) from fun w' hb =>
        ⟨(hb.cell (p := ⟨w.heap.size, 0, none⟩) (by simp; omega)).trans e4, (hb.cell (p := ⟨g, 4, none⟩) (by simp; omega)).trans k4, (hb.cell (p := ⟨bm, 0, none⟩) (by simp; omega)).trans m0, (hb.cell (p := ⟨nb, u, none⟩) (by simp; omega)).trans r0⟩)
      have HC83 := Lib.hid (show ∀ w', Below wr.heap.size wr w' → Calls Tryz.prog 83 #[.slice (some ⟨b5, o5, none⟩) (nextL p u).length cb2, .func (.func 84) #[] #[.pointer (some ⟨w.heap.size + 1, 0, none⟩), .pointer (some ⟨w.heap.size, 0, none⟩), .pointer (some ⟨bm, 0, none⟩)]] w' fun e w2 => e = .returned (.int .i64 (k : Int)) ∧ Below w'.heap.size w' w2 from fun w' hb =>
        indexFn_any (some ⟨b5, o5, none⟩) (nextL p u) cb2 _ (fun x => stepB (lenAt p) cs u x.toNat) w' ((r3.below hb).more (fun _ _ h => h) hb.size) (by have := nextL_len p u; omega) k hk hst hft fun x hx w2 hb2 => by
          obtain ⟨y, rfl, hyM⟩ := HNB.out u huM x hx
          have hb3 := hb.trans (hb2.mono hb.size)
          rw [Int.toNat_natCast]
          exact step_any w2.heap.size g M u y cb (w.heap.size + 1) w.heap.size bm cs p w2 HMM.out ((HN2.out.below hb3).more hb3.size) (hcrow.below hb3 hcrow.lt) HCL.out huM hyM HBC.out HU0.out
            ((hb3.cell (p := ⟨w.heap.size + 1, 0, none⟩) (by simp; omega)).trans e7) ((hb3.cell (p := ⟨w.heap.size, 0, none⟩) (by simp; omega)).trans e4) ((hb3.cell (p := ⟨bm, 0, none⟩) (by simp; omega)).trans m0))
      have hkn0 : (0 : Int) ≤ (k : Int) := by omega
      have hkn1 : (k : Int) < ((nextL p u).length : Int) := by omega
      obtain ⟨L, hL⟩ : ∃ L, (nextL p u).length = L := ⟨_, rfl⟩
      rw [hL] at HK HC83 hkn1 r0 r1
      clear hL hkz hst hft hzn hz0 hze r3 hN x3 x4 x5 x6 hk
      go_upto_region 4 with (fail)
      go_cut [11] from 18 to 26 (fun s11 wx => s11 = .int .i64 (k : Int) ∧ Below wr.heap.size wr wx)
      case first =>
        have hbq : Below wr.heap.size wr wr.drew := (Below.refl _ _).drew
        go_region_held3 (fun w' => w'.cell? ⟨w.heap.size, 0, none⟩ = some (.pointer (some ⟨g, 0, none⟩)) ∧ w'.cell? ⟨g, 4, none⟩ = some (.slice (some ⟨nb, 0, none⟩) M M) ∧ w'.cell? ⟨bm, 0, none⟩ = some (.int .i64 (u : Int)) ∧ w'.cell? ⟨nb, u, none⟩ = some (.slice (some ⟨b5, o5, none⟩) L cb2))
          (exact HK.out _ hbq)
          ((first
            | (go_at_call 83; (with_reducible refine (HC83.out _ hbq).mono ?_); rintro e w6 ⟨rfl, hb6⟩; replace hbq := hbq.trans (hb6.mono hbq.size))))
        all_goals
          go_wp2_with fail
          go_meet
          exact ⟨rfl, hbq⟩
      case rest =>
      obtain ⟨rfl, hbq⟩ := hcut
      have hzq := hbq.size
      obtain ⟨f0, f1, f2, f3⟩ := HK.out _ hbq
      replace q5 := (hbq.cell (p := ⟨b5, o5 + k, none⟩) (by simp; omega)).trans q5
      have frow := (hbq.block bm hbml).trans HDG.out.ro
      have ffr : wc.frozen? ⟨bm, 0, none⟩ = false := by simp [World.frozen?, frow]
      have HO2 := Lib.hid (HDG.out.ow.below hbq (Nat.le_refl _))
      have HB2 := Lib.hid (HDG.out.be.trans (hbq.mono hzr))
      have HFR := Lib.hid frow
      clear hbq frow m0 e4 e7 k4 r0 hcrow HK HC83 HN2
      have hwz : bm < wc.heap.size := by omega
      obtain ⟨we, hwe⟩ : ∃ x, wc = x := ⟨_, rfl⟩
      rw [hwe] at f0 f1 f2 f3 q5 ffr HO2 HB2 HFR hwz ⊢
      clear hwe
      go_upto_region 5 with (fail)
      go_region
      have HNE := Lib.hid (show some bm ≠ u9.ownBlock from fun e => HDG.out.ne bm e.symm rfl)
      have hrow3 : ((we.setCell ⟨bm, 0, none⟩ (.int .i64 (z : Int))).drew).heap[bm]? = some (.cells #[.int .i64 (z : Int)] 3) := heap_set_same (i := 0) _ HFR.out
      have m3 := cell_of_row _ bm 0 _ 3 (0, 0) hrow3
      simp only [List.getElem?_toArray, List.getElem?_cons_zero] at m3
      have HO3 := Lib.hid (show Own ((we.setCell ⟨bm, 0, none⟩ (.int .i64 (z : Int))).drew) W1.heap.size 3 1 fI u9 (q.map fun x : Nat => (x : Int)) from HO2.out.of_blocks fun i hi => Below.heap_setCell _ _ _ _ (by intro e; exact HNE.out (by rw [hi]; exact congrArg some e.symm)))
      have HB3 := Lib.hid (show Below W1.heap.size W1 ((we.setCell ⟨bm, 0, none⟩ (.int .i64 (z : Int))).drew) from (HB2.out.setCell (p := ⟨bm, 0, none⟩) hbo _).drew)
      have hz3 : ((we.setCell ⟨bm, 0, none⟩ (.int .i64 (z : Int))).drew).heap.size = we.heap.size := by simp [World.setCell]
      have HR3 := Lib.hid hrow3
      have hqq : (q.map fun x : Nat => (x : Int)).length ≤ 800 := by rw [List.length_map]; omega
      obtain ⟨w3, hw3⟩ : ∃ x, (we.setCell ⟨bm, 0, none⟩ (.int .i64 (z : Int))).drew = x := ⟨_, rfl⟩
      rw [hw3] at m3 HO3 HB3 hz3 HR3 ⊢
      have hz3a : w3.heap.size ≤ we.heap.size := by omega
      have hz3b : we.heap.size ≤ w3.heap.size := by omega
      clear hz3
      clear hw3 hrow3 f0 f1 f2 f3 q5 ffr HO2 HB2 HFR
      have hzM0 : (0 : Int) ≤ (z : Int) := by omega
      go_wp2_with (at_builtin; go_must (refine wpList_app _ rfl (.tmp 37) (.tmp 39) _ rfl W1.heap.size 3 i0 _ 1 8 Tryz.underlying50 hi hz0 hz1 hz2 rfl (by omega) fI_len fI_one u9 _ rfl (HO3.out.alloc _) _ _ [(z : Int)] 1 rfl (Sl.new _ _ (z : Int) _ rfl) (by unfold maxLen; simp only [List.length_cons, List.length_nil]; omega) (by simp only [List.length_cons, List.length_nil]; omega) (by simp; omega) (fun _ => .inr ⟨_, rfl⟩) ?_); intro v2 w4 o2 gr2 at2 ne2; have g4 := (gr2.block bm (by simp; omega) HNE.out).trans ((Below.heap_alloc w3 (.cells #[.int .i64 (z : Int)] 3) bm (by omega)).trans HR3.out); have m4 := cell_of_row w4 bm 0 _ 3 (0, 0) g4; simp only [List.getElem?_toArray, List.getElem?_cons_zero] at m4)
      go_roundw
      case rel =>
        have hz4 : w3.heap.size + 1 ≤ w4.heap.size := by have := gr2.size; simpa using this
        have hgln := (HG.out.ln z hzM).1
        refine ⟨q ++ [z], z, w4.heap.size, rfl, ⟨heap_alloc_new w4 _, by have := HB3.out.size; omega, by rw [List.map_append]; exact o2.alloc _, fun i hi => by have := (o2.lt i hi).2; omega, ?_⟩, HPT.out.step HZ.out.1 hzM hgln HZ.out.2.2, HZ.out.2.1⟩
        exact ((HB3.out.alloc (by have := HB3.out.size; omega) _).grown gr2 (by simp; have := HB3.out.size; omega) (fun i hi => (HO3.out.lt i hi).1)).alloc (by have := HB3.out.size; omega) _
      case measure =>
        have hgln := (HG.out.ln z hzM).1
        have h1 := cell_of_row (w4.alloc (.cells #[.int .i64 (z : Int)] 3)) w4.heap.size 0 _ 3 (0, 0) (heap_alloc_new w4 _)
        simp only [List.getElem?_toArray, List.getElem?_cons_zero] at h1
        rw [HMU.out]
        simp only [muD, h1, Int.toNat_natCast]
        have := HZ.out.2
        omega
end Go.Proofs.YtcpanfpijljeaaaGreat

/-! partM6: Contract: Shortest. -/
namespace Go.Proofs.YtcpanfpijljeaaaGreat
set_option linter.unusedVariables false
set_option linter.unusedSimpArgs false
open Go.RowKit

theorem wpAnyH_strong {P : Program} {ops : Array Oper} {Q : Exit → Act → World → Prop} {md : Region.Mode} {S S' : World → Prop} (hS : ∀ w, S' w → S w) :
    ∀ (fuel : Nat) (listed : Array Bool) (a : Act) (w : World), wpAnyH P md ops Q S' fuel listed a w → wpAnyH P md ops Q S fuel listed a w
  | 0, _, _, _, h => h
  | fuel + 1, _, _, _, h => ⟨h.1, fun i hi => wpOp_mono (fun a' w' h' => ⟨hS _ h'.1, wpAnyH_strong hS fuel _ a' w' h'.2⟩) (h.2 i hi)⟩

/-- two moves in boxes -/
def SM (K : Nat) (m n : E) (w' : World) : Prop := w'.cell? ⟨K + 1, 0, none⟩ = some (.int .i64 m.rail) ∧ w'.cell? ⟨K + 1, 1, none⟩ = some (.bool m.last) ∧ w'.cell? ⟨K + 1 + 1, 0, none⟩ = some (.int .i64 n.rail) ∧ w'.cell? ⟨K + 1 + 1, 1, none⟩ = some (.bool n.last)
def ShPost (p : Pl) (M f t : Nat) (res : List C2) (w : World) (e : Ending) (w' : World) : Prop :=
  (((gC res f).1 < 0 ∧ e = .returned (.tuple #[.slice none 0 0, .int .i64 4])) ∨ (0 ≤ (gC res f).1 ∧ ∃ v q, e = .returned (.tuple #[v, .int .i64 0]) ∧ Own w' w.heap.size 27 2 fE v ((q.map fun x : Nat => (x : Int)).map moveE) ∧ Pth M (lenAt p) (nxN p) res f t q)) ∧ Below w.heap.size w w'
set_option maxRecDepth 100000 in
set_option maxHeartbeats 4000000 in
theorem Shortest_in (A A2 : Option Addr) (c c2 M nn : Nat) (res : List C2) (p : Pl) (m n : E) (w : World) (hM : 2 * p.rails.length = M) (hP : PlAt w w.heap.size A c A2 c2 p) (hv : Vld p) (hm : railIn p m.rail = true) (hn : railIn p n.rail = true)
    (hs : costsL (lenAt p) (befL p M) (List.replicate M false) M (keyE n) nn = some res) (hbd : BdC res)
    (hnx : ∀ u, u < M → u ≠ keyE n → 0 ≤ (gC res u).1 → ∃ b ∈ nxN p u, stepB (lenAt p) res u b = true) :
    Calls Tryz.prog 18 #[.agg #[.slice A p.nodes.length c, .slice A2 p.rails.length c2], .agg #[.int .i64 m.rail, .bool m.last], .agg #[.int .i64 n.rail, .bool n.last]] w (ShPost p M (keyE m) (keyE n) res w) := by
  have H1 := Lib.hid (G3st.start m n hP)
  have HV := Lib.hid hv
  have hsz := of_decide_eq_true hv.sizes
  have hM8 : M ≤ 800 := by omega
  have km := key_in hm
  have kn := key_in hn
  have hm0 := km.1
  have hn0 := kn.1
  have hm1 : m.rail ≤ 1000000 := by have := of_decide_eq_true hm; omega
  have hn1 : n.rail ≤ 1000000 := by have := of_decide_eq_true hn; omega
  have HKM := Lib.hid km.2.2
  have HKN := Lib.hid kn.2.2
  have hfM : keyE m < M := by omega
  have htM : keyE n < M := by omega
  have HRM := Lib.hid hm; have HRN := Lib.hid hn
  obtain ⟨f, hf⟩ : ∃ f, keyE m = f := ⟨_, rfl⟩
  obtain ⟨t, ht⟩ : ∃ t, keyE n = t := ⟨_, rfl⟩
  rw [hf] at HKM hfM
  rw [ht] at HKN htM hs hnx
  rw [hf, ht]
  have HRL := Lib.hid (costsL_len hs)
  have HS2 := Lib.hid hs; have HBD := Lib.hid hbd; have HNX := Lib.hid hnx; have HMM := Lib.hid hM
  have hrep : (List.replicate M false).length = M := by simp
  obtain ⟨i1, hi1, hy0, hy1, hy2⟩ := info_parts inf4
  have hmb : ∀ W : World, (Instr.makeSlice 57 (.int .i64 (M : Int)) (.int .i64 (M : Int))).run Tryz.prog W = .ok (.slice (some ⟨W.heap.size, 0, none⟩) M M) (W.alloc (.cells (madeCells #[.bool false] M) 4)) := fun W => by
    have := run_mk (P := Tryz.prog) 57 4 i1 _ 1 Tryz.underlying57 hi1 hy0 hy1 (M : Int) (M : Int) M M rfl rfl (by omega) (by rw [hy2]; omega) (by omega) W
    rw [this, Nat.mul_one]; rfl
  clear hP hv hm hn hs hbd hnx hM km kn hf ht
  go_enter Tryz.func18, Tryz.ntmps18
  go_wp2_with fail
  refine (survey_any A A2 c c2 p _ H1.out.pl).mono ?_
  rintro e w1 ⟨hb, ⟨hv, rfl⟩ | ⟨hv, g, rfl, hg, hN⟩⟩
  · exact absurd HV.out hv
  have H2 := Lib.hid (H1.out.next hb)
  have HN := Lib.hid hN
  clear hb hv hN H1
  obtain ⟨_, _, m0, m1, n0, n1, _, _, hlt⟩ := H2.out
  go_wp2_with fail
  refine (hasRail_any _ g p m.rail _ HN.out).mono ?_
  rintro e w2 ⟨rfl, rfl⟩
  rw [HRM.out]
  go_wp2_with fail
  refine (hasRail_any _ g p n.rail _ HN.out).mono ?_
  rintro e w2 ⟨rfl, rfl⟩
  rw [HRN.out]
  obtain ⟨A', c', A2', c2', lb, sb, nb, bb, hN, x1, x2, x3, x4, x5, x6⟩ := HN.out.net
  obtain ⟨_, _, _, _, k4, _⟩ := hN.cell
  rw [HMM.out] at k4
  have hgl := hN.lt
  clear hN x1 x2 x3 x4 x5 x6
  go_upto_region 4 with (fail)
  obtain ⟨W0, hW0⟩ : ∃ x, w1 = x := ⟨_, rfl⟩
  rw [hW0] at m0 m1 n0 n1 k4 hgl hlt ⊢
  have H2' := Lib.hid (show G3st w W0 w.heap.size A c A2 c2 p m n by rw [← hW0]; exact H2.out)
  have HN' := Lib.hid (show Nw W0 W0.heap.size g p by rw [← hW0]; exact HN.out)
  clear H2 HN hW0
  go_cut [10] from 32 to 41 (fun s10 wx => (∃ cb : Nat, s10 = .slice (some ⟨cb, 0, none⟩) M M ∧ CRow wx cb res) ∧ Below W0.heap.size W0 wx)
  case first =>
    go_region_held3 (fun w' => w'.cell? ⟨g, 4, none⟩ = some (.slice (some ⟨nb, 0, none⟩) M M) ∧ w'.cell? ⟨w.heap.size + 1 + 1, 0, none⟩ = some (.int .i64 n.rail) ∧ w'.cell? ⟨w.heap.size + 1 + 1, 1, none⟩ = some (.bool n.last))
      (first
        | (go_keep; done)
        | exact ⟨(hx.cell (p := ⟨g, 4, none⟩) hgl).trans k4, (hx.cell (p := ⟨w.heap.size + 1 + 1, 0, none⟩) hlt).trans n0, (hx.cell (p := ⟨w.heap.size + 1 + 1, 1, none⟩) hlt).trans n1⟩
        | exact ⟨(hy.cell (p := ⟨g, 4, none⟩) hgl).trans k4, (hy.cell (p := ⟨w.heap.size + 1 + 1, 0, none⟩) hlt).trans n0, (hy.cell (p := ⟨w.heap.size + 1 + 1, 1, none⟩) hlt).trans n1⟩)
      ((first
        | (go_at_call 51; refine (number_any n _ hn0 hn1).mono ?_; rintro e w2 ⟨rfl, hb2⟩; rw [HKN.out]; have hxs := hb2.size; have hx : Below W0.heap.size W0 w2 := by first | exact (Below.refl _ _).drew.trans hb2 | exact (((Below.refl W0.heap.size W0).alloc (Nat.le_refl _) _).drew.trans (hb2.mono (by simp))))
        | (go_at_call 57; have hxz := hx.size; have q1 : W0.heap.size ≤ w2.heap.size := (by omega); have q2 := HN'.out.below (hx.alloc q1 (.cells (madeCells #[.bool false] M) 4)); have q3 := BRow.made w2 M; have q4 : W0.heap.size ≤ (w2.alloc (.cells (madeCells #[.bool false] M) 4)).heap.size := (by simp; omega); (with_reducible refine (costs_M W0.heap.size g w2.heap.size t nn (List.replicate M false) res p _ M HMM.out q2 q4 htM hrep q3 HS2.out).mono ?_); rintro e w3 ⟨⟨cb, rfl, hrow, hcb⟩, hb3⟩; have hy : Below W0.heap.size W0 w3 := (hx.alloc hxz _).trans (hb3.mono (by simp; omega)); clear q2 q3)
        | (go_at_call 57; have hxz := hx.size; have q1 : W0.heap.size ≤ w2.heap.size := (by omega); have q2 := HN'.out.below hx; have q3 := (BRow.made W0 M).below (B := W0.heap.size + 1) ((Below.refl _ _).drew.trans (hb2.mono (by simp))) (by omega); (with_reducible refine (costs_M W0.heap.size g W0.heap.size t nn (List.replicate M false) res p _ M HMM.out q2 q1 htM hrep q3 HS2.out).mono ?_); rintro e w3 ⟨⟨cb, rfl, hrow, hcb⟩, hb3⟩; have hy : Below W0.heap.size W0 w3 := hx.trans (hb3.mono hxz); clear q2 q3)))
    all_goals
      go_wp2_with fail
      go_meet
      exact ⟨⟨cb, rfl, hrow⟩, hy⟩
  case rest =>
  clear hmb
  obtain ⟨⟨cb, rfl, hrow⟩, hbq⟩ := hcut
  have H3 := Lib.hid (H2'.out.next hbq)
  have HN3 := Lib.hid ((HN'.out.below hbq).more hbq.size)
  have HROW := Lib.hid hrow
  clear hrow hbq H2' HN' m0 m1 n0 n1 k4 hgl hlt
  obtain ⟨_, _, m0, m1, n0, n1, _, _, hlt⟩ := H3.out
  go_wp2_with fail
  refine (number_any m _ hm0 hm1).mono ?_
  rintro e w5 ⟨rfl, hb5⟩
  rw [HKM.out]
  have H5 := Lib.hid (H3.out.next hb5)
  have HN5 := Lib.hid ((HN3.out.below hb5).more hb5.size)
  have hrow5 := HROW.out.below hb5 HROW.out.lt
  obtain ⟨d0, d1⟩ := hrow5.gc (i := f) (by rw [HRL.out]; exact hfM)
  have HROW5 := Lib.hid hrow5
  have hbb := HBD.out f (by rw [HRL.out]; exact hfM)
  obtain ⟨x, hx⟩ : ∃ x, (gC res f).1 = x := ⟨_, rfl⟩
  have HX := Lib.hid hx
  rw [hx] at d0 hbb
  have hx1 := hbb.2.1
  have hx2 := hbb.1
  have j0 : (0 : Int) ≤ (f : Int) := by omega
  have j1 : (f : Int) < (M : Int) := by omega
  clear hb5 hrow5 H3 HN3 HROW m0 m1 n0 n1 hlt hx hbb d1
  by_cases hneg : x < 0
  · go_wp2_with fail
    go_ret2
    exact ⟨.inl ⟨by rw [HX.out]; exact hneg, rfl⟩, H5.out.be⟩
  · have hnd : decide (x < 0) = false := by rw [decide_eq_false_iff_not]; exact hneg
    obtain ⟨_, _, m0, m1, n0, n1, _, _, hlt⟩ := H5.out
    go_upto_region 7 with (fail)
    have hl1 : w.heap.size + 1 < w5.heap.size := by omega
    have hl2 : w.heap.size + 1 + 1 < w5.heap.size := hlt
    have HK := Lib.hid (show ∀ w', Below w5.heap.size w5 w' → SM w.heap.size m n w' from fun w' hb' =>
      ⟨(hb'.cell (p := ⟨w.heap.size + 1, 0, none⟩) hl1).trans m0, (hb'.cell (p := ⟨w.heap.size + 1, 1, none⟩) hl1).trans m1, (hb'.cell (p := ⟨w.heap.size + 1 + 1, 0, none⟩) hl2).trans n0, (hb'.cell (p := ⟨w.heap.size + 1 + 1, 1, none⟩) hl2).trans n1⟩)
    have hbq : Below w5.heap.size w5 w5.drew := (Below.refl _ _).drew
    have HS := Lib.hid (HK.out _ hbq)
    refine wp_region_held_drew (S := SM w.heap.size m n) (by kernel_rfl) HS.out (fun _ => ?_)
    refine hTake (i := 0) (d := 49) (v := .pointer (some ⟨g, 0, none⟩)) rfl rfl (by kernel_rfl) (by kernel_rfl) (by kernel_rfl) (fun _ _ _ h => h) (Or.inl ⟨rfl, ?gr⟩) HS.out ?_
    case gr =>
      rintro W' ⟨s0, s1, s2, s3⟩
      go_simp
    simp only [Act.put, List.setIfInBounds_toArray, List.set_cons_zero, List.set_cons_succ]
    refine hTake (i := 1) (d := 50) (v := .agg #[.int .i64 m.rail, .bool m.last]) rfl rfl (by kernel_rfl) (by kernel_rfl) (by kernel_rfl) (fun _ _ _ h => h) (Or.inl ⟨rfl, ?gr⟩) HS.out ?_
    case gr =>
      rintro W' ⟨s0, s1, s2, s3⟩
      go_simp
    simp only [Act.put, List.setIfInBounds_toArray, List.set_cons_zero, List.set_cons_succ]
    refine hTake (i := 3) (d := 52) (v := .agg #[.int .i64 n.rail, .bool n.last]) rfl rfl (by kernel_rfl) (by kernel_rfl) (by kernel_rfl) (fun _ _ _ h => h) (Or.inl ⟨rfl, ?gr⟩) HS.out ?_
    case gr =>
      rintro W' ⟨s0, s1, s2, s3⟩
      go_simp
    simp only [Act.put, List.setIfInBounds_toArray, List.set_cons_zero, List.set_cons_succ]
    refine hTake (i := 5) (d := 54) (v := .slice (some ⟨cb, 0, none⟩) M M) rfl rfl (by kernel_rfl) (by kernel_rfl) (by kernel_rfl) (fun _ _ _ h => h) (Or.inl ⟨rfl, ?gr⟩) HS.out ?_
    case gr =>
      rintro W' ⟨s0, s1, s2, s3⟩
      go_simp
    simp only [Act.put, List.setIfInBounds_toArray, List.set_cons_zero, List.set_cons_succ]
    refine wpAnyH_ready (rs := [2]) (by kernel_rfl) (by simp) ?_
    refine AllReadyH.cons rfl (fun K hK => ?_) AllReadyH.nil
    rw [if_pos (by rfl)]
    go_simp
    go_at_call 51
    refine (number_any m _ hm0 hm1).mono ?_
    rintro e v1 ⟨rfl, hb5⟩
    rw [HKM.out]
    replace hbq := hbq.trans (hb5.mono hbq.size)
    have HS := Lib.hid (HK.out _ hbq)
    clear hb5
    refine hK.out _ _ HS.out (fun _ => ?_)
    clear hK K
    try simp only [Act.put, List.setIfInBounds_toArray, List.set_cons_zero, List.set_cons_succ]
    refine wpAnyH_ready (rs := [4]) (by kernel_rfl) (by simp) ?_
    refine AllReadyH.cons rfl (fun K hK => ?_) AllReadyH.nil
    rw [if_pos (by rfl)]
    go_simp
    go_at_call 51
    refine (number_any n _ hn0 hn1).mono ?_
    rintro e v2 ⟨rfl, hb5⟩
    rw [HKN.out]
    replace hbq := hbq.trans (hb5.mono hbq.size)
    have HS := Lib.hid (HK.out _ hbq)
    clear hb5
    refine hK.out _ _ HS.out (fun _ => ?_)
    clear hK K
    try simp only [Act.put, List.setIfInBounds_toArray, List.set_cons_zero, List.set_cons_succ]
    refine wpAnyH_ready (rs := [6]) (by kernel_rfl) (by simp) ?_
    refine AllReadyH.cons rfl (fun K hK => ?_) AllReadyH.nil
    rw [if_pos (by rfl)]
    go_simp
    go_at_call 58
    have hnw := (HN5.out.below hbq).more hbq.size
    have hcw := HROW5.out.below hbq HROW5.out.lt
    have hpos : 0 ≤ (gC res f).1 := by rw [HX.out]; omega
    have hwb := hbq.size
    (with_reducible refine (descend_any _ g M f t cb res p _ HMM.out hnw (Nat.le_refl _) hcw HRL.out hfM htM HBD.out HNX.out hpos).mono ?_)
    rintro e v3 ⟨⟨vd, q, rfl, hown, hpth⟩, hb5⟩
    obtain ⟨qz, hqz⟩ : ∃ z, (q.map fun x : Nat => (x : Int)) = z := ⟨_, rfl⟩
    rw [hqz] at hown
    have HQZ := Lib.hid hqz
    obtain ⟨Ad, cd, rfl, _, _, _⟩ := hown.form
    have hsl := fI_CI (hown.sl fI_len rfl)
    have HPT := Lib.hid hpth
    have hqM := hpth.len.2
    have HQB := Lib.hid (show ∀ x ∈ qz, 0 ≤ x ∧ x ≤ 1000000 from fun x hx => by
      rw [← hqz] at hx
      obtain ⟨y, hy, rfl⟩ := List.mem_map.1 hx
      have := (HPT.out.mM y hy).1
      omega)
    replace hbq := hbq.trans (hb5.mono hbq.size)
    have HS := Lib.hid (HK.out _ hbq)
    clear hb5 hnw hcw hpth hown hqz
    refine hK.out _ _ HS.out (fun _ => ?_)
    clear hK K
    try simp only [Act.put, List.setIfInBounds_toArray, List.set_cons_zero, List.set_cons_succ]
    refine wpAnyH_ready (rs := [7]) (by kernel_rfl) (by simp) ?_
    refine AllReadyH.cons rfl (fun K hK => ?_) AllReadyH.nil
    rw [if_pos (by rfl)]
    go_simp
    go_at_call 50
    have hlq : qz.length ≤ 100000 := by rw [← HQZ.out, List.length_map]; omega
    have hwc := hbq.size
    (with_reducible refine (moves_any Ad _ cd _ hsl hlq HQB.out).mono ?_)
    rintro e v4 ⟨⟨vm, rfl, hown⟩, hb5⟩
    have hfin := And.intro hown HPT.out
    replace hbq := hbq.trans (hb5.mono hbq.size)
    have HS := Lib.hid (HK.out _ hbq)
    clear hb5 hown hsl
    refine hK.out _ _ HS.out (fun _ => ?_)
    clear hK K
    try simp only [Act.put, List.setIfInBounds_toArray, List.set_cons_zero, List.set_cons_succ]
    refine hTake (i := 8) (d := 6) (v := vm) rfl rfl (by kernel_rfl) (by kernel_rfl) (by kernel_rfl) (fun _ _ _ h => h) (Or.inl ⟨rfl, ?gr⟩) HS.out ?_
    case gr =>
      rintro W' ⟨s0, s1, s2, s3⟩
      go_simp
    simp only [Act.put, List.setIfInBounds_toArray, List.set_cons_zero, List.set_cons_succ]
    refine hTake (i := 9) (d := 7) (v := .int .i64 0) rfl rfl (by kernel_rfl) (by kernel_rfl) (by kernel_rfl) (fun _ _ _ h => h) (Or.inl ⟨rfl, ?gr⟩) HS.out ?_
    case gr =>
      rintro W' ⟨s0, s1, s2, s3⟩
      go_simp
    simp only [Act.put, List.setIfInBounds_toArray, List.set_cons_zero, List.set_cons_succ]
    refine wpAnyH_done (by kernel_rfl) ?_ _
    have HF := Lib.hid hfin
    go_wp2_with fail
    go_ret2
    exact ⟨.inr ⟨by rw [HX.out]; omega, _, q, rfl, by rw [HQZ.out]; exact HF.out.1.lower (by have := H5.out.be.size; have := hwc; omega), HF.out.2⟩, H5.out.be.trans (hbq.mono (by have := H5.out.be.size; omega))⟩
end Go.Proofs.YtcpanfpijljeaaaGreat

/-! partM7a: Plain: what the search gives: distances, costs that fit, a step where there is a way. -/
namespace Go.Proofs.YtcpanfpijljeaaaGreat
set_option linter.unusedVariables false
set_option linter.unusedSimpArgs false
open Go.RowKit

theorem in_befL {p : Pl} {k y x : Nat} : (x : Int) ∈ befL p k y ↔ x < k ∧ (y : Int) ∈ nextL p x := by
  rw [mem_nextL]
  refine ⟨fun h => ?_, fun h => mem_befL h.1 h.2⟩
  unfold befL at h
  rw [List.mem_flatMap] at h
  obtain ⟨a, ha, h⟩ := h
  obtain ⟨z, hz, e⟩ := List.mem_map.1 h
  obtain ⟨h1, h2⟩ := List.mem_filter.1 hz
  obtain rfl : a = x := by omega
  obtain rfl : z = (y : Int) := by simpa using h2
  exact ⟨List.mem_range.1 ha, h1⟩
theorem wy_moves {M t : Nat} {ln : Int → Int} {bef : Nat → List Int} (hln : ∀ u : Nat, u < M → 1 ≤ ln ((u : Int) / 2)) (hb : ∀ u b : Nat, (u : Int) ∈ bef b → b < M) {w : Nat} {l m : Int} (h : Wy ln bef t w l m) : 0 ≤ m ∧ m ≤ l := by
  induction h with
  | nil => omega
  | @cons u w l m hb' _ ih =>
    have := hln u (hb w u hb')
    omega
theorem dist_facts {p : Pl} (hv : Vld p) (hs : smallB p = true) {M t : Nat} (hM : 2 * p.rails.length = M) (ht : t < M) :
    ∃ n res, costsL (lenAt p) (befL p M) (List.replicate M false) M t n = some res ∧ Dst M t (lenAt p) (nxN p) (res.map (·.1)) ∧ BdC res ∧ ∀ u, u < M → u ≠ t → 0 ≤ (gC res u).1 → ∃ b ∈ nxN p u, stepB (lenAt p) res u b = true := by
  have h14 := small_rails hv hs
  have hM28 : M ≤ 28 := by omega
  have hmm : M * (2 * M) ≤ 28 * 56 := Nat.mul_le_mul hM28 (by omega)
  have hcl : ∀ b, shutAt (List.replicate M false) b = false := fun b => by
    unfold shutAt
    rw [List.getD_eq_getElem?_getD, List.getElem?_replicate]
    split <;> rfl
  obtain ⟨n, res, h1, h2⟩ := costs_end (D := 2 * M) (Wm := 1107296256) hcl (fun z => lenAt_bd hv z) (fun u _ => ⟨befL_len p u M, befL_bd⟩) (by omega) (by omega) (by omega) ht
  have hg : Grf M (lenAt p) (nxN p) 31000000 := by rw [← hM]; exact plan_gr hv
  have hr : Real M (lenAt p) (befL p M) t res := costs_real hcl (fun z => (lenAt_bd hv z).1) (fun u _ => befL_bd) ht h1
  have hbn : ∀ u b : Nat, (u : Int) ∈ befL p M b → b ∈ nxN p u ∧ b < M := fun u b h => by
    obtain ⟨hu, hb⟩ := in_befL.1 h
    have h3 := (mem_nxN hv (by omega)).2 hb
    exact ⟨h3, hg.nx u hu b h3⟩
  have hD : Dst M t (lenAt p) (nxN p) (res.map (·.1)) := fin_dst h2 hr hbn fun u b hu hb => ⟨in_befL.2 ⟨hu, (mem_nxN hv (by omega)).1 hb⟩, hg.nx u hu b hb⟩
  have hrl := costsL_len h1
  refine ⟨n, res, h1, hD, fun u hu => ?_, fun u hu hut h0 => ?_⟩
  · rw [hrl] at hu
    have h3 := hD.bd hg hu
    rw [gI_map] at h3
    refine ⟨h3.1, by omega, fun h0 => ?_⟩
    have h4 := wy_moves (fun u hu => (hg.ln u hu).1) (fun u b h => (hbn u b h).2) ((hr.2 u hu).2 h0)
    omega
  · obtain ⟨b, hb, b0, b1, b2⟩ := fin_next h2 hr hbn hu hut h0
    refine ⟨b, hb, ?_⟩
    unfold stepB
    simp only [Bool.and_eq_true, decide_eq_true_eq]
    exact ⟨⟨b0, b1⟩, b2⟩
theorem cons_iff {p : Pl} (hv : Vld p) {M t : Nat} (hM : 2 * p.rails.length = M) (ht : t < M) {D l : List Int} (hD : Dst M t (lenAt p) (nxN p) D) : Cons M t (lenAt p) (nxN p) l ↔ l = D := by
  have hg : Grf M (lenAt p) (nxN p) 31000000 := by rw [← hM]; exact plan_gr hv
  exact ⟨fun h => (cons_dst hg ht h).uniq hg hD, fun h => by subst h; exact hD.cons hg⟩
theorem tcons_iff {p : Pl} (hv : Vld p) {M t : Nat} (hM : 2 * p.rails.length = M) (ht : t < M) {D l : List Int} (hD : Dst M t (lenAt p) (nxN p) D) : TCons p M t l ↔ l = D := by
  have hg : Grf M (lenAt p) (nxN p) 31000000 := by rw [← hM]; exact plan_gr hv
  refine ⟨fun h => (cons_iff hv hM ht hD).1 ⟨h.1, fun u hu => ?_⟩, fun h => ?_⟩
  · by_cases e : u = t
    · subst e; rw [if_pos rfl]; exact h.2.1
    · rw [if_neg e]; exact (h.2.2 u hu).2.2 e
  · subst h
    refine ⟨hD.len, hD.tz, fun u hu => ?_⟩
    have h1 := hD.bd hg hu
    refine ⟨h1.1, h1.2, fun e => ?_⟩
    have := (hD.cons hg).2 u hu
    rwa [if_neg e] at this
theorem move_key {p : Pl} {m : E} (h : railIn p m.rail = true) : moveE ((keyE m : Nat) : Int) = m := by
  have hk := key_in h
  rw [← hk.2.2]
  obtain ⟨r, l⟩ := m
  unfold moveE endNo
  cases l <;> simp <;> omega
/-- the way that is found, as moves -/
theorem pth_way {p : Pl} (hv : Vld p) {M f t : Nat} (hM : 2 * p.rails.length = M) (hM8 : M ≤ 800) {D : List Int} {res : List C2} (hD : Dst M t (lenAt p) (nxN p) D) (hDr : res.map (·.1) = D) {q : List Nat} (h : Pth M (lenAt p) (nxN p) res f t q) :
    wayOk p ((q.map fun x : Nat => (x : Int)).map moveE) ∧ ((q.map fun x : Nat => (x : Int)).map moveE).head? = some (moveE (f : Int)) ∧ ((q.map fun x : Nat => (x : Int)).map moveE).getLast? = some (moveE (t : Int)) ∧
      wlen p (((q.map fun x : Nat => (x : Int)).map moveE).map endNo) = gI D f + lenAt p ((f : Int) / 2) := by
  have hl := h.len
  have hlen : ((q.map fun x : Nat => (x : Int)).map moveE).length = q.length := by simp
  refine ⟨⟨by omega, by omega, fun j hj => ?_⟩, ?_, ?_, ?_⟩
  · rw [hlen] at hj
    have hqM := fun i (hi : i < q.length) => (h.mM q[i] (List.getElem_mem hi)).1
    have he : ∀ i (hi : i < q.length), E1' ((q.map fun x : Nat => (x : Int)).map moveE) i = moveE ((q[i] : Nat) : Int) := fun i hi => by
      rw [E1_eq (by rw [hlen]; exact hi)]; simp
    rw [he j hj]
    refine ⟨moveE_in (by rw [hM]; exact hqM j hj), fun h0 => ?_⟩
    rw [he (j - 1) (by omega), keyE_moveU, endNo_moveU, folB_iff]
    have h1 := h.st (j - 1) (by omega)
    have h2 := (mem_nxN hv (by rw [hM]; exact hqM (j - 1) (by omega))).1 h1
    simp only [show j - 1 + 1 = j by omega] at h2
    exact h2
  · rw [List.head?_map, List.head?_map, h.hd]; rfl
  · rw [List.getLast?_map, List.getLast?_map, h.la]; rfl
  · have h1 := h.sm
    have h2 : (gC res t).1 = 0 := by rw [← gI_map, hDr, hD.tz]
    have h3 : (gC res f).1 = gI D f := by rw [← gI_map, hDr]
    rw [h2, h3] at h1
    have h4 : wlen p (((q.map fun x : Nat => (x : Int)).map moveE).map endNo) = (q.map fun x : Nat => lenAt p ((x : Int) / 2)).sum := by
      unfold wlen
      rw [List.map_map, List.map_map, List.map_map]
      congr 1
      apply List.map_congr_left
      intro x _
      show lenAt p (endNo (moveE (x : Int)) / 2) = _
      rw [endNo_moveU]
    rw [h4]
    omega
end Go.Proofs.YtcpanfpijljeaaaGreat

/-! partL2 -/
namespace Go.Proofs.YtcpanfpijljeaaaGreat
set_option linter.unusedVariables false
set_option linter.unusedSimpArgs false
open Go.RowKit

theorem endNo_half (m : E) : endNo m / 2 = m.rail := by unfold endNo; split <;> omega
theorem wlen_snoc {p : Pl} {l : List E} {k : Nat} (h : k < l.length) : wlen p ((l.take (k + 1)).map endNo) = wlen p ((l.take k).map endNo) + lenAt p l[k].rail := by
  rw [List.map_take, List.map_take, wlen_succ p _ (by simpa using h), List.getElem_map, endNo_half]
theorem wlen_take_bd {p : Pl} (hv : Vld p) (l : List E) (k : Nat) (hk : k ≤ 2000) : 0 ≤ wlen p ((l.take k).map endNo) ∧ wlen p ((l.take k).map endNo) ≤ 2214592512000 := by
  have := wlen_bd hv ((l.take k).map endNo)
  have h2 : ((l.take k).map endNo).length ≤ 2000 := by simp; omega
  omega

set_option maxRecDepth 100000 in
set_option maxHeartbeats 2000000 in
theorem rWayLength_any (A A2 A3 : Option Addr) (c c2 c3 : Nat) (p : Pl) (l : List E) (w : World) (hP : PlAt w w.heap.size A c A2 c2 p) (hv : Vld p) (hA : Sl w w.heap.size 2 CE A3 l) (hl : l.length ≤ 2000) (hin : ∀ j (hj : j < l.length), railIn p l[j].rail = true) :
    Calls Tryz.prog 25 #[.agg #[.slice A p.nodes.length c, .slice A2 p.rails.length c2], .slice A3 l.length c3] w (PlainPost (.int .i64 (wlen p (l.map endNo))) w) := by
  have HP1 := Lib.hid (hP.box (.cells #[.slice A p.nodes.length c, .slice A2 p.rails.length c2] 25))
  have hB0 := (Below.refl w.heap.size w).alloc (Nat.le_refl _) (.cells #[.slice A p.nodes.length c, .slice A2 p.rails.length c2] 25)
  have HA := Lib.hid ((hA.below hB0).more (fun _ _ h => h) hB0.size)
  have HX := Lib.hid (show ∀ j : Nat, (w.alloc (.cells #[.slice A p.nodes.length c, .slice A2 p.rails.length c2] 25)).cell? ⟨w.heap.size, j, none⟩ = #[.slice A p.nodes.length c, .slice A2 p.rails.length c2][j]? from fun j => cell_new1 w _ 25 j)
  have hz3 : (w.alloc (.cells #[.slice A p.nodes.length c, .slice A2 p.rails.length c2] 25)).heap.size = w.heap.size + 1 := by simp
  have HV := Lib.hid hv; have HI := Lib.hid hin
  have HB0 := Lib.hid hB0
  clear hP hv hA hB0 hin
  go_enter Tryz.func25, Tryz.ntmps25
  go_wp2
  generalize w.alloc (.cells #[.slice A p.nodes.length c, .slice A2 p.rails.length c2] 25) = W1 at *
  go_loopw [5, 6] (fun s i wr => ∃ k : Nat, k ≤ l.length ∧ i = .int .i64 k ∧ s = .int .i64 (wlen p ((l.take k).map endNo)) ∧ Below W1.heap.size W1 wr) (fun _ i _ => l.length - (intOf i).toNat)
  case atStart => exact ⟨0, Nat.zero_le _, rfl, by simp [wlen], Below.refl _ _⟩
  case round =>
    obtain ⟨k, hk, rfl, rfl, hb⟩ := hrel
    have hzw := hb.size
    have ha0 : w.heap.size < W1.heap.size := by omega
    have k0 := (hb.cell (p := ⟨w.heap.size, 0, none⟩) ha0).trans (HX.out 0)
    have k1 := (hb.cell (p := ⟨w.heap.size, 1, none⟩) ha0).trans (HX.out 1)
    simp only [List.getElem?_toArray, List.getElem?_cons_zero, List.getElem?_cons_succ] at k0 k1
    have HPw := Lib.hid ((HP1.out.below hb).more hzw)
    have HAw := Lib.hid ((HA.out.below hb).more (fun _ _ h => h) hzw)
    have HB := Lib.hid hb
    clear hb
    have hr0 : w.heap.size < wr.heap.size := by omega
    by_cases hlt : k < l.length
    · have hk0 : (0 : Int) ≤ (k : Int) := by omega
      have hk1 : (k : Int) < (l.length : Int) := by omega
      obtain ⟨b1, o1, e1, g1, q0, q1⟩ := end_at HAw.out hlt
      have hs1 := wlen_snoc (p := p) hlt
      have hri := HI.out k hlt
      obtain ⟨⟨mr, ml⟩, hx⟩ : ∃ x, l[k] = x := ⟨_, rfl⟩
      rw [hx] at q0 q1 hs1 hri
      have HRI := Lib.hid hri
      have hbx := wlen_take_bd HV.out l k (by omega)
      have hby := lenAt_bd HV.out mr
      obtain ⟨X, hX⟩ : ∃ x, wlen p ((l.take k).map endNo) = x := ⟨_, rfl⟩
      obtain ⟨Y, hY⟩ : ∃ x, lenAt p mr = x := ⟨_, rfl⟩
      rw [hX] at hbx hs1 ⊢
      simp only [hY] at hby hs1
      have HS1 := Lib.hid hs1; have HY := Lib.hid hY
      have hx0 := hbx.1; have hx1 := hbx.2; have hy0 := hby.1; have hy1 := hby.2
      subst e1
      clear hx hX hY hs1 hri hbx hby
      go_upto_region 5 with (fail)
      have hbq : Below wr.heap.size wr wr.drew := (Below.refl _ _).drew
      have hwr : IntKind.i64.wrap (X + Y) = X + Y := by rw [IntKind.wrap_i64]; omega
      first
        | (go_region_held3 (fun w' => w'.cell? ⟨w.heap.size, 0, none⟩ = some (.slice A p.nodes.length c) ∧ w'.cell? ⟨w.heap.size, 1, none⟩ = some (.slice A2 p.rails.length c2) ∧ w'.cell? ⟨b1, o1 + k * 2, none⟩ = some (.int .i64 mr))
            (exact ⟨(hbq.cell (p := ⟨w.heap.size, 0, none⟩) hr0).trans k0, (hbq.cell (p := ⟨w.heap.size, 1, none⟩) hr0).trans k1, (hbq.cell (p := ⟨b1, o1 + k * 2, none⟩) g1).trans q0⟩)
            ((first
              | (go_at_call 35; have hpw := (HPw.out.below hbq).more hbq.size; have hlc := rLength_in A A2 c c2 p mr _ hpw HV.out HRI.out; rw [HY.out] at hlc; (with_reducible refine hlc.mono ?_); rintro e w5 ⟨rfl, hb5⟩; replace hbq := hbq.trans (hb5.mono hbq.size)))))
        | fail "held3"
      all_goals
        have HB2 := Lib.hid (HB.out.trans (hbq.mono hzw))
        clear hbq hwr
        go_wp2
        go_roundw
        case rel => exact ⟨k + 1, by omega, by go_num, by rw [HS1.out], HB2.out⟩
        case measure => simp [intOf]; omega
    · obtain rfl : k = l.length := by omega
      have HQ := Lib.hid (show wlen p ((l.take l.length).map endNo) = wlen p (l.map endNo) by rw [List.take_length])
      go_wp2
      go_ret
      exact ⟨by rw [← HQ.out]; rfl, HB0.out.trans (HB.out.mono (by omega))⟩



/-- a plan, two moves and a list of numbers, in a later world -/
structure LD (w wr : World) (K : Nat) (A : Option Addr) (c : Nat) (A2 : Option Addr) (c2 : Nat) (p : Pl) (m n : E) (A3 : Option Addr) (l : List Int) : Prop where
  g : G3st w wr K A c A2 c2 p m n
  s : Sl wr wr.heap.size 1 CI A3 l
theorem LD.next {w wr w' : World} {K c c2 : Nat} {A A2 A3 : Option Addr} {p : Pl} {m n : E} {l : List Int} (h : LD w wr K A c A2 c2 p m n A3 l) (hb : Below wr.heap.size wr w') : LD w w' K A c A2 c2 p m n A3 l :=
  ⟨h.g.next hb, (h.s.below hb).more (fun _ _ h => h) hb.size⟩
/-- the boxes, as loads want them -/
def SB (K : Nat) (A : Option Addr) (a : Nat) (c : Nat) (A2 : Option Addr) (a2 : Nat) (c2 : Nat) (m n : E) (w' : World) : Prop :=
  w'.cell? ⟨K, 0, none⟩ = some (.slice A a c) ∧ w'.cell? ⟨K, 1, none⟩ = some (.slice A2 a2 c2) ∧ w'.cell? ⟨K + 1, 0, none⟩ = some (.int .i64 m.rail) ∧ w'.cell? ⟨K + 1, 1, none⟩ = some (.bool m.last) ∧ w'.cell? ⟨K + 1 + 1, 0, none⟩ = some (.int .i64 n.rail) ∧ w'.cell? ⟨K + 1 + 1, 1, none⟩ = some (.bool n.last)
theorem G3st.sb {w wr : World} {K c c2 : Nat} {A A2 : Option Addr} {p : Pl} {m n : E} (h : G3st w wr K A c A2 c2 p m n) : SB K A p.nodes.length c A2 p.rails.length c2 m n wr := ⟨h.k0, h.k1, h.m0, h.m1, h.n0, h.n1⟩
/-- the boxes, the way's ends, a distance -/
def SE (K : Nat) (A : Option Addr) (a : Nat) (c : Nat) (A2 : Option Addr) (a2 : Nat) (c2 : Nat) (m n : E) (gw N rb f : Nat) (x : Int) (w' : World) : Prop :=
  w'.cell? ⟨K, 0, none⟩ = some (.slice A a c) ∧ w'.cell? ⟨K, 1, none⟩ = some (.slice A2 a2 c2) ∧ w'.cell? ⟨K + 1, 0, none⟩ = some (.int .i64 m.rail) ∧ w'.cell? ⟨K + 1, 1, none⟩ = some (.bool m.last) ∧ w'.cell? ⟨K + 1 + 1, 0, none⟩ = some (.int .i64 n.rail) ∧ w'.cell? ⟨K + 1 + 1, 1, none⟩ = some (.bool n.last) ∧
  w'.cell? ⟨gw, 0, none⟩ = some (.int .i64 m.rail) ∧ w'.cell? ⟨gw, 1, none⟩ = some (.bool m.last) ∧ w'.cell? ⟨gw, N * 2, none⟩ = some (.int .i64 n.rail) ∧ w'.cell? ⟨gw, N * 2 + 1, none⟩ = some (.bool n.last) ∧ w'.cell? ⟨rb, f, none⟩ = some (.int .i64 x)

section
variable (A A2 A3 : Option Addr) (c c2 c3 : Nat) (p : Pl) (m n : E) (l : List Int) (w : World)
def DistC : Prop := Calls Tryz.prog 5 #[.agg #[.slice A p.nodes.length c, .slice A2 p.rails.length c2], .agg #[.int .i64 m.rail, .bool m.last], .agg #[.int .i64 n.rail, .bool n.last], .slice A3 l.length c3] w fun e w' => e = .returned (.bool true) ∧ Below w.heap.size w w'
set_option maxRecDepth 100000 in
set_option maxHeartbeats 4000000 in
theorem Dist_not (hP : PlAt w w.heap.size A c A2 c2 p) (v : Bool) (hV : ValB p v) (hF : fineB p v m n = false) : DistC A A2 A3 c c2 c3 p m n l w := by
  have H1 := Lib.hid (G3st.start m n hP)
  have HV := Lib.hid (show ∀ w, PlAt w w.heap.size A c A2 c2 p → Calls Tryz.prog 30 #[.agg #[.slice A p.nodes.length c, .slice A2 p.rails.length c2], .agg #[.int .i64 m.rail, .bool m.last], .agg #[.int .i64 n.rail, .bool n.last]] w fun e w' => e = .returned (.bool false) ∧ Below w.heap.size w w' from fun w hP => by
    have := fine_of A A2 c c2 p m n w hP v (fun w hP => hV A A2 c c2 w hP)
    rwa [hF] at this)
  clear hP hV hF
  unfold DistC
  go_enter Tryz.func5, Tryz.ntmps5
  go_wp2_with fail
  refine (HV.out _ H1.out.pl).mono ?_
  rintro e w2 ⟨rfl, hb2⟩
  have H2 := Lib.hid (H1.out.next hb2)
  clear hb2 H1
  go_wp2_with fail
  refine (known_any _).mono ?_
  rintro e w3 ⟨rfl, hb3⟩
  have H3 := Lib.hid (H2.out.next hb3)
  clear hb3 H2
  go_wp2
  go_ret
  exact ⟨rfl, H3.out.be⟩
set_option maxRecDepth 100000 in
set_option maxHeartbeats 4000000 in
theorem Dist_long (hP : PlAt w w.heap.size A c A2 c2 p) (v : Bool) (hV : ValB p v) (hF : fineB p v m n = true) (hl : 60 < l.length) : DistC A A2 A3 c c2 c3 p m n l w := by
  have H1 := Lib.hid (G3st.start m n hP)
  have HV := Lib.hid (show ∀ w, PlAt w w.heap.size A c A2 c2 p → Calls Tryz.prog 30 #[.agg #[.slice A p.nodes.length c, .slice A2 p.rails.length c2], .agg #[.int .i64 m.rail, .bool m.last], .agg #[.int .i64 n.rail, .bool n.last]] w fun e w' => e = .returned (.bool true) ∧ Below w.heap.size w w' from fun w hP => by
    have := fine_of A A2 c c2 p m n w hP v (fun w hP => hV A A2 c c2 w hP)
    rwa [hF] at this)
  have d1 : (60 : Int) < (l.length : Int) := by omega
  clear hP hV hF
  unfold DistC
  go_enter Tryz.func5, Tryz.ntmps5
  go_wp2_with fail
  refine (HV.out _ H1.out.pl).mono ?_
  rintro e w2 ⟨rfl, hb2⟩
  have H2 := Lib.hid (H1.out.next hb2)
  clear hb2 H1
  go_wp2_with fail
  refine (known_any _).mono ?_
  rintro e w3 ⟨rfl, hb3⟩
  have H3 := Lib.hid (H2.out.next hb3)
  clear hb3 H2
  go_wp2
  go_ret
  exact ⟨rfl, H3.out.be⟩
set_option maxRecDepth 100000 in
set_option maxHeartbeats 4000000 in
theorem Dist_in (hP : PlAt w w.heap.size A c A2 c2 p) (hA : Sl w w.heap.size 1 CI A3 l) (hlow : ∀ u, u < l.length → -9223372036854775808 ≤ gI l u) (hl : l.length ≤ 60) (hs : smallB p = true) (hv : Vld p) (hm : railIn p m.rail = true) (hn : railIn p n.rail = true) : DistC A A2 A3 c c2 c3 p m n l w := by
  have hsz := of_decide_eq_true hv.sizes
  obtain ⟨M, hM⟩ : ∃ M, 2 * p.rails.length = M := ⟨_, rfl⟩
  have hM8 : M ≤ 800 := by omega
  have km := key_in hm
  have kn := key_in hn
  have hm0 := km.1
  have hm1 : m.rail ≤ 1000000 := by have := of_decide_eq_true hm; omega
  have hfM : keyE m < M := by omega
  have htM : keyE n < M := by omega
  have hmk := move_key hm
  have hnk := move_key hn
  have hmh : ((keyE m : Nat) : Int) / 2 = m.rail := by rw [← km.2.2]; exact endNo_half m
  have HKM := Lib.hid (show endNo ⟨m.rail, m.last⟩ = ((keyE m : Nat) : Int) from km.2.2)
  obtain ⟨nn, res, hs1, hD, hbd, hnx⟩ := dist_facts hv hs hM htM
  have hrl := costsL_len hs1
  have hg : Grf M (lenAt p) (nxN p) 31000000 := by rw [← hM]; exact plan_gr hv
  obtain ⟨D, hDr⟩ : ∃ D, res.map (·.1) = D := ⟨_, rfl⟩
  rw [hDr] at hD
  have hDl := hD.len
  have hDb : ∀ u, u < M → -1 ≤ gI D u ∧ gI D u ≤ 24800000000 := fun u hu => by have := hD.bd hg hu; omega
  obtain ⟨f, hf⟩ : ∃ f, keyE m = f := ⟨_, rfl⟩
  obtain ⟨x, hx⟩ : ∃ x, gI D f = x := ⟨_, rfl⟩
  obtain ⟨Y, hY⟩ : ∃ Y, lenAt p m.rail = Y := ⟨_, rfl⟩
  have hYb := lenAt_bd hv m.rail
  rw [hY] at hYb
  rw [hf] at hfM HKM hmk hmh
  have hxb := hDb f hfM
  rw [hx] at hxb
  have DROW : ∀ (w : World) (rb : Nat), IRow w rb D → Sl w w.heap.size 1 CI (some ⟨rb, 0, none⟩) D := fun w rb h => h.sl.more (fun _ _ h => h) h.lt
  have hbdD : Bd50 D := fun u hu => by rw [hDl] at hu; have := hDb u hu; omega
  have C19 := Lib.hid (show ∀ w, PlAt w w.heap.size A c A2 c2 p → Calls Tryz.prog 19 #[.agg #[.slice A p.nodes.length c, .slice A2 p.rails.length c2], .agg #[.int .i64 n.rail, .bool n.last]] w fun e w' => (∃ rb, e = .returned (.tuple #[.slice (some ⟨rb, 0, none⟩) M M, .int .i64 0]) ∧ IRow w' rb D) ∧ Below w.heap.size w w' from fun w hP => by
    refine (Distances_any A A2 c c2 nn res p n w hP (fun _ _ => by rw [hM]; exact hs1)).mono fun e w' h => ?_
    obtain ⟨⟨_, _, rb, h1, h2, _⟩ | ⟨h1, _⟩, hb⟩ := h
    · rw [hM] at h1; rw [hDr] at h2
      exact ⟨⟨rb, h1, h2⟩, hb⟩
    · rcases h1 with h1 | h1
      · exact absurd hv h1
      · rw [hn] at h1; cases h1)
  have C31 := Lib.hid (show ∀ w, PlAt w w.heap.size A c A2 c2 p → Calls Tryz.prog 31 #[.agg #[.slice A p.nodes.length c, .slice A2 p.rails.length c2], .agg #[.int .i64 n.rail, .bool n.last]] w fun e w' => (∃ rb, e = .returned (.slice (some ⟨rb, 0, none⟩) M M) ∧ IRow w' rb D) ∧ Below w.heap.size w w' from fun w hP =>
    (rDistances_any A A2 c c2 M D p n w hM hP hv hn hD).mono fun e w' ⟨⟨rb, h1, h2, _⟩, h3⟩ => ⟨⟨rb, h1, h2⟩, h3⟩)
  have C32 := Lib.hid (show ∀ (b1 b2 : Nat) (w : World), IRow w b1 D → IRow w b2 D → Calls Tryz.prog 32 #[.slice (some ⟨b1, 0, none⟩) M M, .slice (some ⟨b2, 0, none⟩) M M] w fun e w' => e = .returned (.bool true) ∧ Below w.heap.size w w' from fun b1 b2 w h1 h2 => by
    have := same_any (some ⟨b1, 0, none⟩) (some ⟨b2, 0, none⟩) D D M M w (DROW w b1 h1) (DROW w b2 h2) (by omega)
    rw [hDl] at this
    exact this.mono fun e w' h => same_yes h)
  have C23d := Lib.hid (show ∀ (b1 : Nat) (w : World), PlAt w w.heap.size A c A2 c2 p → IRow w b1 D → Calls Tryz.prog 23 #[.agg #[.slice A p.nodes.length c, .slice A2 p.rails.length c2], .agg #[.int .i64 n.rail, .bool n.last], .slice (some ⟨b1, 0, none⟩) M M] w fun e w' => e = .returned (.bool true) ∧ Below w.heap.size w w' from fun b1 w hP h1 => by
    have := Consistent_any A A2 (some ⟨b1, 0, none⟩) c c2 M M D p n w hM hP hv hn (DROW w b1 h1) (by omega) hbdD
    rw [hDl] at this
    exact this.mono fun e w' ⟨⟨b, h2, h3⟩, h4⟩ => ⟨by rw [h2, h3.2 ((tcons_iff hv hM htM hD).2 rfl)], h4⟩)
  obtain ⟨bq, hbq⟩ : ∃ b : Bool, b = true ↔ l = D := ⟨decide (l = D), by simp⟩
  have C23l := Lib.hid (show Bd50 l → ∀ (w : World), PlAt w w.heap.size A c A2 c2 p → Sl w w.heap.size 1 CI A3 l → Calls Tryz.prog 23 #[.agg #[.slice A p.nodes.length c, .slice A2 p.rails.length c2], .agg #[.int .i64 n.rail, .bool n.last], .slice A3 l.length c3] w fun e w' => e = .returned (.bool bq) ∧ Below w.heap.size w w' from fun hbl w hP h1 =>
    (Consistent_any A A2 A3 c c2 c3 M l p n w hM hP hv hn h1 (by omega) hbl).mono fun e w' ⟨⟨b, h2, h3⟩, h4⟩ => ⟨by
      have : b = bq := by rw [Bool.eq_iff_iff, h3, hbq]; exact tcons_iff hv hM htM hD
      rw [h2, this], h4⟩)
  have C33l := Lib.hid (show Bd50 l → ∀ (w : World), PlAt w w.heap.size A c A2 c2 p → Sl w w.heap.size 1 CI A3 l → Calls Tryz.prog 33 #[.agg #[.slice A p.nodes.length c, .slice A2 p.rails.length c2], .agg #[.int .i64 n.rail, .bool n.last], .slice A3 l.length c3] w fun e w' => e = .returned (.bool bq) ∧ Below w.heap.size w w' from fun hbl w hP h1 =>
    (rConsistent_any A A2 A3 c c2 c3 M l p n w hM hP hv hn h1 (by omega) hbl).mono fun e w' ⟨⟨b, h2, h3⟩, h4⟩ => ⟨by
      have : b = bq := by rw [Bool.eq_iff_iff, h3, hbq]; exact cons_iff hv hM htM hD
      rw [h2, this], h4⟩)
  have C32l := Lib.hid (show bq = true → ∀ (b1 : Nat) (w : World), Sl w w.heap.size 1 CI A3 l → IRow w b1 D → Calls Tryz.prog 32 #[.slice A3 l.length c3, .slice (some ⟨b1, 0, none⟩) M M] w fun e w' => e = .returned (.bool true) ∧ Below w.heap.size w w' from fun hb b1 w h1 h2 => by
    have he := hbq.1 hb
    have := same_any A3 (some ⟨b1, 0, none⟩) l D c3 M w h1 (DROW w b1 h2) (by omega)
    rw [hDl, ← he] at this
    exact this.mono fun e w' h => same_yes h)
  have C18 := Lib.hid (show ∀ w, PlAt w w.heap.size A c A2 c2 p → Calls Tryz.prog 18 #[.agg #[.slice A p.nodes.length c, .slice A2 p.rails.length c2], .agg #[.int .i64 m.rail, .bool m.last], .agg #[.int .i64 n.rail, .bool n.last]] w fun e w' => ((x < 0 ∧ e = .returned (.tuple #[.slice none 0 0, .int .i64 4])) ∨ (0 ≤ x ∧ ∃ (gw N cw : Nat) (L : List E), e = .returned (.tuple #[.slice (some ⟨gw, 0, none⟩) (N + 1) cw, .int .i64 0]) ∧ Sl w' w'.heap.size 2 CE (some ⟨gw, 0, none⟩) L ∧ L.length = N + 1 ∧ N ≤ 800 ∧ L[0]? = some m ∧ L[N]? = some n ∧ wayOk p L ∧ wlen p (L.map endNo) = x + Y)) ∧ Below w.heap.size w w' from fun w hP => by
    refine (Shortest_in A A2 c c2 M nn res p m n w hM hP hv hm hn hs1 hbd hnx).mono fun e w' h => ?_
    obtain ⟨h | ⟨h0, v, q, h1, h2, h3⟩, hb⟩ := h
    · refine ⟨.inl ⟨?_, h.2⟩, hb⟩
      have := h.1
      rw [hf, ← gI_map, hDr, hx] at this
      exact this
    · rw [hf] at h0 h3
      rw [← gI_map, hDr, hx] at h0
      obtain ⟨q1, q2, q3, q4⟩ := pth_way hv hM hM8 hD hDr h3
      have hql := h3.len
      obtain ⟨L, hL⟩ : ∃ L, (q.map fun x : Nat => (x : Int)).map moveE = L := ⟨_, rfl⟩
      have hLl : L.length = q.length := by rw [← hL]; simp
      rw [hL] at h2 q1 q2 q3 q4
      rw [hmk] at q2
      rw [hnk] at q3
      rw [hx, hmh, hY] at q4
      rcases h2.2 with ⟨_, hn0⟩ | ⟨g, cap, cur, hv1, _⟩
      · omega
      subst hv1
      have hsl := h2.sl fE_len rfl
      obtain ⟨N, hN⟩ : ∃ N, L.length = N + 1 := ⟨L.length - 1, by omega⟩
      refine ⟨.inr ⟨h0, g, N, cap, L, by rw [← hN]; exact h1, hsl.keep (fun _ _ h => h) fun _ _ => rfl, hN, by omega, ?_, ?_, q1, q4⟩, hb⟩
      · rw [← List.head?_eq_getElem?]; exact q2
      · rw [List.getLast?_eq_getElem?, hN] at q3; simpa using q3)
  have C24 := Lib.hid (show ∀ (gw cw N : Nat) (L : List E) (w : World), PlAt w w.heap.size A c A2 c2 p → Sl w w.heap.size 2 CE (some ⟨gw, 0, none⟩) L → L.length = N + 1 → N ≤ 800 → wayOk p L → Calls Tryz.prog 24 #[.agg #[.slice A p.nodes.length c, .slice A2 p.rails.length c2], .slice (some ⟨gw, 0, none⟩) (N + 1) cw] w fun e w' => e = .returned (.bool true) ∧ Below w.heap.size w w' from fun gw cw N L w hP hS hN hN8 hw => by
    have := rWay_any A A2 (some ⟨gw, 0, none⟩) c c2 cw p L w hP hv hS (by omega)
    rw [hN] at this
    exact this.mono fun e w' ⟨⟨b, h1, h2⟩, h3⟩ => ⟨by rw [h1, h2.2 hw], h3⟩)
  have C25 := Lib.hid (show ∀ (gw cw N : Nat) (L : List E) (w : World), PlAt w w.heap.size A c A2 c2 p → Sl w w.heap.size 2 CE (some ⟨gw, 0, none⟩) L → L.length = N + 1 → N ≤ 800 → wayOk p L → wlen p (L.map endNo) = x + Y → Calls Tryz.prog 25 #[.agg #[.slice A p.nodes.length c, .slice A2 p.rails.length c2], .slice (some ⟨gw, 0, none⟩) (N + 1) cw] w fun e w' => e = .returned (.int .i64 (x + Y)) ∧ Below w.heap.size w w' from fun gw cw N L w hP hS hN hN8 hw hwl => by
    have := rWayLength_any A A2 (some ⟨gw, 0, none⟩) c c2 cw p L w hP hv hS (by omega) (fun j hj => by have := (hw.2.2 j hj).1; rwa [E1_eq hj] at this)
    rw [hN, hwl] at this
    exact this)
  have C35 := Lib.hid (show ∀ w, PlAt w w.heap.size A c A2 c2 p → Calls Tryz.prog 35 #[.agg #[.slice A p.nodes.length c, .slice A2 p.rails.length c2], .int .i64 m.rail] w fun e w' => e = .returned (.int .i64 Y) ∧ Below w.heap.size w w' from fun w hP => by
    have := rLength_in A A2 c c2 p m.rail w hP hv hm
    rwa [hY] at this)
  have C30 := Lib.hid (show ∀ w, PlAt w w.heap.size A c A2 c2 p → Calls Tryz.prog 30 #[.agg #[.slice A p.nodes.length c, .slice A2 p.rails.length c2], .agg #[.int .i64 m.rail, .bool m.last], .agg #[.int .i64 n.rail, .bool n.last]] w fun e w' => e = .returned (.bool true) ∧ Below w.heap.size w w' from fun w hP => by
    have := fine_of A A2 c c2 p m n w hP true (fun w hP => valB_yes hv A A2 c c2 w hP)
    rwa [show fineB p true m n = true by simp [fineB, hs, hm, hn]] at this)
  have HDX := Lib.hid (show ∀ (w : World) (rb : Nat), IRow w rb D → w.cell? ⟨rb, f, none⟩ = some (.int .i64 x) from fun w rb h => by
    have := h.cell (i := f) (by omega)
    rwa [← gI_get (by omega), hx] at this)
  have HLOW := Lib.hid hlow
  have H1 := Lib.hid (show LD w (((w.alloc (.cells #[.slice A p.nodes.length c, .slice A2 p.rails.length c2] 25)).alloc (.cells #[.int .i64 m.rail, .bool m.last] 27)).alloc (.cells #[.int .i64 n.rail, .bool n.last] 27)) w.heap.size A c A2 c2 p m n A3 l from by
    have h := G3st.start m n hP
    exact ⟨h, (hA.below h.be).more (fun _ _ h => h) h.be.size⟩)
  have hf0 : (0 : Int) ≤ (f : Int) := by omega
  have hf1 : (f : Int) < (M : Int) := by omega
  have hx0 := hxb.1; have hx1 := hxb.2; have hY0 := hYb.1; have hY1 := hYb.2
  have hl60 : ¬ (60 : Int) < (l.length : Int) := by omega
  have hl61 : decide ((60 : Int) < (l.length : Int)) = false := by simp; omega
  clear hP hA hlow hs hv hm hn hsz hM km kn hmk hnk hmh hs1 hD hbd hnx hrl hg hDr hDl hDb hf hx hY hYb hxb DROW hbdD hbq
  unfold DistC
  go_enter Tryz.func5, Tryz.ntmps5
  go_wp2_with fail
  refine (C30.out _ H1.out.g.pl).mono ?_
  rintro e w2 ⟨rfl, hb2⟩
  have H2 := Lib.hid (H1.out.next hb2)
  clear hb2 H1
  go_wp2
  go_loopw [9] (fun i wr => ∃ k : Nat, k ≤ l.length ∧ i = .int .i64 (k : Int) ∧ (∀ u, u < k → gI l u ≤ 1125899906842624) ∧ Below w2.heap.size w2 wr) (fun i _ => l.length - (intOf i).toNat)
  case atStart => exact ⟨0, Nat.zero_le _, rfl, (fun u hu => by omega), Below.refl _ _⟩
  case round =>
    obtain ⟨k, hk, rfl, hok, hb⟩ := hrel
    have H3 := Lib.hid (H2.out.next hb)
    have HOK := Lib.hid hok; have HB := Lib.hid hb
    clear hok
    by_cases hlt : k < l.length
    · obtain ⟨b4, o4, e4, g4, q4⟩ := int_at H3.out.s hlt
      rw [← gI_get hlt] at q4
      have hlo := HLOW.out k hlt
      obtain ⟨y, hy⟩ : ∃ y, gI l k = y := ⟨_, rfl⟩
      rw [hy] at q4 hlo
      have HYY := Lib.hid hy
      have hk0 : (0 : Int) ≤ (k : Int) := by omega
      have hk1 : (k : Int) < (l.length : Int) := by omega
      subst e4
      clear hy hb
      by_cases hbig : 1125899906842624 < y
      · go_wp2_with fail
        refine (known_any _).mono ?_
        rintro e w3 ⟨rfl, hb3⟩
        have H4 := Lib.hid (H3.out.next hb3)
        clear hb3
        go_wp2
        go_ret
        exact ⟨rfl, H4.out.g.be⟩
      · have hbd : decide (1125899906842624 < y) = false := by rw [decide_eq_false_iff_not]; exact hbig
        go_wp2
        go_roundw
        case rel => exact ⟨k + 1, by omega, by go_num, (fun u hu => by
          by_cases e : u = k
          · subst e; rw [HYY.out]; omega
          · exact HOK.out u (by omega)), HB.out⟩
        case measure => simp [intOf]; omega
    · obtain rfl : k = l.length := by omega
      have hbl : Bd50 l := fun u hu => ⟨HLOW.out u hu, HOK.out u hu⟩
      have C23 := Lib.hid (C23l.out hbl)
      have C33 := Lib.hid (C33l.out hbl)
      clear HOK HB H2 C23l C33l hbl hb C30
      obtain ⟨k0, k1, m0, m1, n0, n1⟩ := H3.out.g.sb
      go_wp2_with fail
      refine (C19.out _ H3.out.g.pl).mono ?_
      rintro e w4 ⟨⟨rb1, rfl, hr1⟩, hb4⟩
      have H4 := Lib.hid (H3.out.next hb4)
      clear hb4 H3 k0 k1 m0 m1 n0 n1
      obtain ⟨k0, k1, m0, m1, n0, n1⟩ := H4.out.g.sb
      go_wp2_with fail
      refine (C31.out _ H4.out.g.pl).mono ?_
      rintro e w5 ⟨⟨rb2, rfl, hr2⟩, hb5⟩
      have H5 := Lib.hid (H4.out.next hb5)
      have HR1 := Lib.hid (hr1.below hb5 hr1.lt)
      have HR2 := Lib.hid hr2
      clear hb5 H4 k0 k1 m0 m1 n0 n1 hr1 hr2
      obtain ⟨nl, hnl⟩ : ∃ z, l.length = z := ⟨_, rfl⟩
      rw [hnl] at C23 C33 C32l hl60 hl61 ⊢
      obtain ⟨nN, hnN⟩ : ∃ z, p.nodes.length = z := ⟨_, rfl⟩
      obtain ⟨nR, hnR⟩ : ∃ z, p.rails.length = z := ⟨_, rfl⟩
      rw [hnN, hnR] at C23 C33 C23d C18 C24 C25 C35 ⊢
      clear hnl hlt hk
      go_upto_region 10 with (fail)
      have HK := Lib.hid (show ∀ w', Below w5.heap.size w5 w' → SB w.heap.size A nN c A2 nR c2 m n w' from fun w' hb' => by have := (H5.out.next hb').g.sb; rwa [hnN, hnR] at this)
      have HPL := Lib.hid (show ∀ w', Below w5.heap.size w5 w' → PlAt w' w'.heap.size A c A2 c2 p from fun w' hb' => (H5.out.next hb').g.pl)
      have HSL := Lib.hid (show ∀ w', Below w5.heap.size w5 w' → Sl w' w'.heap.size 1 CI A3 l from fun w' hb' => (H5.out.next hb').s)
      have HI1 := Lib.hid (show ∀ w', Below w5.heap.size w5 w' → IRow w' rb1 D from fun w' hb' => HR1.out.below hb' HR1.out.lt)
      have HI2 := Lib.hid (show ∀ w', Below w5.heap.size w5 w' → IRow w' rb2 D from fun w' hb' => HR2.out.below hb' HR2.out.lt)
      clear hnN hnR
      go_cut [84] from 47 to 83 (fun s84 wx => s84 = .bool false ∧ Below w5.heap.size w5 wx)
      case first =>
        have hbq : Below w5.heap.size w5 w5.drew := (Below.refl _ _).drew
        have HS := Lib.hid (HK.out _ hbq)
        cases bq
        case true =>
          refine wp_region_held_drew (S := SB w.heap.size A nN c A2 nR c2 m n) (by kernel_rfl) HS.out (fun _ => ?_)
          refine hTake (i := 0) (d := 47) (v := .int .i64 0) rfl rfl (by kernel_rfl) (by kernel_rfl) (by kernel_rfl) (fun _ _ _ h => h) (Or.inl ⟨rfl, ?gr⟩) HS.out ?_
          case gr =>
            rintro W' ⟨s0, s1, s2, s3, s4, s5⟩
            go_simp
          simp only [Act.put, List.setIfInBounds_toArray, List.set_cons_zero, List.set_cons_succ]
          refine hTake (i := 1) (d := 48) (v := .bool false) rfl rfl (by kernel_rfl) (by kernel_rfl) (by kernel_rfl) (fun _ _ _ h => h) (Or.inl ⟨rfl, ?gr⟩) HS.out ?_
          case gr =>
            rintro W' ⟨s0, s1, s2, s3, s4, s5⟩
            go_simp
          simp only [Act.put, List.setIfInBounds_toArray, List.set_cons_zero, List.set_cons_succ]
          refine hTake (i := 2) (d := 49) (v := .bool false) rfl rfl (by kernel_rfl) (by kernel_rfl) (by kernel_rfl) (fun _ _ _ h => h) (Or.inl ⟨rfl, ?gr⟩) HS.out ?_
          case gr =>
            rintro W' ⟨s0, s1, s2, s3, s4, s5⟩
            go_simp
          simp only [Act.put, List.setIfInBounds_toArray, List.set_cons_zero, List.set_cons_succ]
          refine hTake (i := 3) (d := 50) (v := .slice (some ⟨rb1, 0, none⟩) M M) rfl rfl (by kernel_rfl) (by kernel_rfl) (by kernel_rfl) (fun _ _ _ h => h) (Or.inl ⟨rfl, ?gr⟩) HS.out ?_
          case gr =>
            rintro W' ⟨s0, s1, s2, s3, s4, s5⟩
            go_simp
          simp only [Act.put, List.setIfInBounds_toArray, List.set_cons_zero, List.set_cons_succ]
          refine hTake (i := 4) (d := 51) (v := .slice (some ⟨rb2, 0, none⟩) M M) rfl rfl (by kernel_rfl) (by kernel_rfl) (by kernel_rfl) (fun _ _ _ h => h) (Or.inl ⟨rfl, ?gr⟩) HS.out ?_
          case gr =>
            rintro W' ⟨s0, s1, s2, s3, s4, s5⟩
            go_simp
          simp only [Act.put, List.setIfInBounds_toArray, List.set_cons_zero, List.set_cons_succ]
          refine wpAnyH_ready (rs := [5]) (by kernel_rfl) (by simp) ?_
          refine AllReadyH.cons rfl (fun K hK => ?_) AllReadyH.nil
          rw [if_pos (by rfl)]
          go_simp
          go_at_call 32
          refine (C32.out rb1 rb2 _ (HI1.out _ hbq) (HI2.out _ hbq)).mono ?_
          rintro e v1 ⟨rfl, hb5⟩
          replace hbq := hbq.trans (hb5.mono hbq.size)
          have HS := Lib.hid (HK.out _ hbq)
          clear hb5
          refine hK.out _ _ HS.out (fun _ => ?_)
          clear hK K
          try simp only [Act.put, List.setIfInBounds_toArray, List.set_cons_zero, List.set_cons_succ]
          refine hTake (i := 6) (d := 53) (v := .bool false) rfl rfl (by kernel_rfl) (by kernel_rfl) (by kernel_rfl) (fun _ _ _ h => h) (Or.inl ⟨rfl, ?gr⟩) HS.out ?_
          case gr =>
            rintro W' ⟨s0, s1, s2, s3, s4, s5⟩
            go_simp
          simp only [Act.put, List.setIfInBounds_toArray, List.set_cons_zero, List.set_cons_succ]
          refine hTake (i := 7) (d := 54) (v := .bool false) rfl rfl (by kernel_rfl) (by kernel_rfl) (by kernel_rfl) (fun _ _ _ h => h) (Or.inl ⟨rfl, ?gr⟩) HS.out ?_
          case gr =>
            rintro W' ⟨s0, s1, s2, s3, s4, s5⟩
            go_simp
          simp only [Act.put, List.setIfInBounds_toArray, List.set_cons_zero, List.set_cons_succ]
          refine hTake (i := 8) (d := 55) (v := .bool false) rfl rfl (by kernel_rfl) (by kernel_rfl) (by kernel_rfl) (fun _ _ _ h => h) (Or.inl ⟨rfl, ?gr⟩) HS.out ?_
          case gr =>
            rintro W' ⟨s0, s1, s2, s3, s4, s5⟩
            go_simp
          simp only [Act.put, List.setIfInBounds_toArray, List.set_cons_zero, List.set_cons_succ]
          refine hTake (i := 9) (d := 56) (v := .agg #[.slice A nN c, .slice A2 nR c2]) rfl rfl (by kernel_rfl) (by kernel_rfl) (by kernel_rfl) (fun _ _ _ h => h) (Or.inl ⟨rfl, ?gr⟩) HS.out ?_
          case gr =>
            rintro W' ⟨s0, s1, s2, s3, s4, s5⟩
            go_simp
          simp only [Act.put, List.setIfInBounds_toArray, List.set_cons_zero, List.set_cons_succ]
          refine hTake (i := 10) (d := 57) (v := .agg #[.int .i64 n.rail, .bool n.last]) rfl rfl (by kernel_rfl) (by kernel_rfl) (by kernel_rfl) (fun _ _ _ h => h) (Or.inl ⟨rfl, ?gr⟩) HS.out ?_
          case gr =>
            rintro W' ⟨s0, s1, s2, s3, s4, s5⟩
            go_simp
          simp only [Act.put, List.setIfInBounds_toArray, List.set_cons_zero, List.set_cons_succ]
          refine hTake (i := 11) (d := 58) (v := .slice (some ⟨rb1, 0, none⟩) M M) rfl rfl (by kernel_rfl) (by kernel_rfl) (by kernel_rfl) (fun _ _ _ h => h) (Or.inl ⟨rfl, ?gr⟩) HS.out ?_
          case gr =>
            rintro W' ⟨s0, s1, s2, s3, s4, s5⟩
            go_simp
          simp only [Act.put, List.setIfInBounds_toArray, List.set_cons_zero, List.set_cons_succ]
          refine wpAnyH_ready (rs := [12]) (by kernel_rfl) (by simp) ?_
          refine AllReadyH.cons rfl (fun K hK => ?_) AllReadyH.nil
          rw [if_pos (by rfl)]
          go_simp
          go_at_call 23
          refine (C23d.out rb1 _ (HPL.out _ hbq) (HI1.out _ hbq)).mono ?_
          rintro e v2 ⟨rfl, hb5⟩
          replace hbq := hbq.trans (hb5.mono hbq.size)
          have HS := Lib.hid (HK.out _ hbq)
          clear hb5
          refine hK.out _ _ HS.out (fun _ => ?_)
          clear hK K
          try simp only [Act.put, List.setIfInBounds_toArray, List.set_cons_zero, List.set_cons_succ]
          refine hTake (i := 13) (d := 60) (v := .bool false) rfl rfl (by kernel_rfl) (by kernel_rfl) (by kernel_rfl) (fun _ _ _ h => h) (Or.inl ⟨rfl, ?gr⟩) HS.out ?_
          case gr =>
            rintro W' ⟨s0, s1, s2, s3, s4, s5⟩
            go_simp
          simp only [Act.put, List.setIfInBounds_toArray, List.set_cons_zero, List.set_cons_succ]
          refine hTake (i := 14) (d := 61) (v := .bool false) rfl rfl (by kernel_rfl) (by kernel_rfl) (by kernel_rfl) (fun _ _ _ h => h) (Or.inl ⟨rfl, ?gr⟩) HS.out ?_
          case gr =>
            rintro W' ⟨s0, s1, s2, s3, s4, s5⟩
            go_simp
          simp only [Act.put, List.setIfInBounds_toArray, List.set_cons_zero, List.set_cons_succ]
          refine hTake (i := 15) (d := 62) (v := .bool false) rfl rfl (by kernel_rfl) (by kernel_rfl) (by kernel_rfl) (fun _ _ _ h => h) (Or.inl ⟨rfl, ?gr⟩) HS.out ?_
          case gr =>
            rintro W' ⟨s0, s1, s2, s3, s4, s5⟩
            go_simp
          simp only [Act.put, List.setIfInBounds_toArray, List.set_cons_zero, List.set_cons_succ]
          refine hTake (i := 16) (d := 63) (v := .agg #[.slice A nN c, .slice A2 nR c2]) rfl rfl (by kernel_rfl) (by kernel_rfl) (by kernel_rfl) (fun _ _ _ h => h) (Or.inl ⟨rfl, ?gr⟩) HS.out ?_
          case gr =>
            rintro W' ⟨s0, s1, s2, s3, s4, s5⟩
            go_simp
          simp only [Act.put, List.setIfInBounds_toArray, List.set_cons_zero, List.set_cons_succ]
          refine hTake (i := 17) (d := 64) (v := .agg #[.int .i64 n.rail, .bool n.last]) rfl rfl (by kernel_rfl) (by kernel_rfl) (by kernel_rfl) (fun _ _ _ h => h) (Or.inl ⟨rfl, ?gr⟩) HS.out ?_
          case gr =>
            rintro W' ⟨s0, s1, s2, s3, s4, s5⟩
            go_simp
          simp only [Act.put, List.setIfInBounds_toArray, List.set_cons_zero, List.set_cons_succ]
          refine hTake (i := 18) (d := 65) (v := .slice A3 nl c3) rfl rfl (by kernel_rfl) (by kernel_rfl) (by kernel_rfl) (fun _ _ _ h => h) (Or.inl ⟨rfl, ?gr⟩) HS.out ?_
          case gr =>
            rintro W' ⟨s0, s1, s2, s3, s4, s5⟩
            go_simp
          simp only [Act.put, List.setIfInBounds_toArray, List.set_cons_zero, List.set_cons_succ]
          refine hTake (i := 20) (d := 67) (v := .agg #[.slice A nN c, .slice A2 nR c2]) rfl rfl (by kernel_rfl) (by kernel_rfl) (by kernel_rfl) (fun _ _ _ h => h) (Or.inl ⟨rfl, ?gr⟩) HS.out ?_
          case gr =>
            rintro W' ⟨s0, s1, s2, s3, s4, s5⟩
            go_simp
          simp only [Act.put, List.setIfInBounds_toArray, List.set_cons_zero, List.set_cons_succ]
          refine hTake (i := 21) (d := 68) (v := .agg #[.int .i64 n.rail, .bool n.last]) rfl rfl (by kernel_rfl) (by kernel_rfl) (by kernel_rfl) (fun _ _ _ h => h) (Or.inl ⟨rfl, ?gr⟩) HS.out ?_
          case gr =>
            rintro W' ⟨s0, s1, s2, s3, s4, s5⟩
            go_simp
          simp only [Act.put, List.setIfInBounds_toArray, List.set_cons_zero, List.set_cons_succ]
          refine hTake (i := 22) (d := 69) (v := .slice A3 nl c3) rfl rfl (by kernel_rfl) (by kernel_rfl) (by kernel_rfl) (fun _ _ _ h => h) (Or.inl ⟨rfl, ?gr⟩) HS.out ?_
          case gr =>
            rintro W' ⟨s0, s1, s2, s3, s4, s5⟩
            go_simp
          simp only [Act.put, List.setIfInBounds_toArray, List.set_cons_zero, List.set_cons_succ]
          refine wpAnyH_ready (rs := [19]) (by kernel_rfl) (by simp) ?_
          refine AllReadyH.cons rfl (fun K hK => ?_) AllReadyH.nil
          rw [if_pos (by rfl)]
          go_simp
          go_at_call 23
          refine (C23.out _ (HPL.out _ hbq) (HSL.out _ hbq)).mono ?_
          rintro e v3 ⟨rfl, hb5⟩
          replace hbq := hbq.trans (hb5.mono hbq.size)
          have HS := Lib.hid (HK.out _ hbq)
          clear hb5
          refine hK.out _ _ HS.out (fun _ => ?_)
          clear hK K
          try simp only [Act.put, List.setIfInBounds_toArray, List.set_cons_zero, List.set_cons_succ]
          refine wpAnyH_ready (rs := [23]) (by kernel_rfl) (by simp) ?_
          refine AllReadyH.cons rfl (fun K hK => ?_) AllReadyH.nil
          rw [if_pos (by rfl)]
          go_simp
          go_at_call 33
          refine (C33.out _ (HPL.out _ hbq) (HSL.out _ hbq)).mono ?_
          rintro e v4 ⟨rfl, hb5⟩
          replace hbq := hbq.trans (hb5.mono hbq.size)
          have HS := Lib.hid (HK.out _ hbq)
          clear hb5
          refine hK.out _ _ HS.out (fun _ => ?_)
          clear hK K
          try simp only [Act.put, List.setIfInBounds_toArray, List.set_cons_zero, List.set_cons_succ]
          refine hTake (i := 24) (d := 71) (v := .bool false) rfl rfl (by kernel_rfl) (by kernel_rfl) (by kernel_rfl) (fun _ _ _ h => h) (Or.inl ⟨rfl, ?gr⟩) HS.out ?_
          case gr =>
            rintro W' ⟨s0, s1, s2, s3, s4, s5⟩
            go_simp
          simp only [Act.put, List.setIfInBounds_toArray, List.set_cons_zero, List.set_cons_succ]
          refine hTake (i := 25) (d := 72) (v := .bool false) rfl rfl (by kernel_rfl) (by kernel_rfl) (by kernel_rfl) (fun _ _ _ h => h) (Or.inl ⟨rfl, ?gr⟩) HS.out ?_
          case gr =>
            rintro W' ⟨s0, s1, s2, s3, s4, s5⟩
            go_simp
          simp only [Act.put, List.setIfInBounds_toArray, List.set_cons_zero, List.set_cons_succ]
          refine hTake (i := 26) (d := 73) (v := .bool false) rfl rfl (by kernel_rfl) (by kernel_rfl) (by kernel_rfl) (fun _ _ _ h => h) (Or.inl ⟨rfl, ?gr⟩) HS.out ?_
          case gr =>
            rintro W' ⟨s0, s1, s2, s3, s4, s5⟩
            go_simp
          simp only [Act.put, List.setIfInBounds_toArray, List.set_cons_zero, List.set_cons_succ]
          refine hTake (i := 27) (d := 74) (v := .agg #[.slice A nN c, .slice A2 nR c2]) rfl rfl (by kernel_rfl) (by kernel_rfl) (by kernel_rfl) (fun _ _ _ h => h) (Or.inl ⟨rfl, ?gr⟩) HS.out ?_
          case gr =>
            rintro W' ⟨s0, s1, s2, s3, s4, s5⟩
            go_simp
          simp only [Act.put, List.setIfInBounds_toArray, List.set_cons_zero, List.set_cons_succ]
          refine hTake (i := 28) (d := 75) (v := .agg #[.int .i64 n.rail, .bool n.last]) rfl rfl (by kernel_rfl) (by kernel_rfl) (by kernel_rfl) (fun _ _ _ h => h) (Or.inl ⟨rfl, ?gr⟩) HS.out ?_
          case gr =>
            rintro W' ⟨s0, s1, s2, s3, s4, s5⟩
            go_simp
          simp only [Act.put, List.setIfInBounds_toArray, List.set_cons_zero, List.set_cons_succ]
          refine hTake (i := 29) (d := 76) (v := .slice A3 nl c3) rfl rfl (by kernel_rfl) (by kernel_rfl) (by kernel_rfl) (fun _ _ _ h => h) (Or.inl ⟨rfl, ?gr⟩) HS.out ?_
          case gr =>
            rintro W' ⟨s0, s1, s2, s3, s4, s5⟩
            go_simp
          simp only [Act.put, List.setIfInBounds_toArray, List.set_cons_zero, List.set_cons_succ]
          refine wpAnyH_ready (rs := [30]) (by kernel_rfl) (by simp) ?_
          refine AllReadyH.cons rfl (fun K hK => ?_) AllReadyH.nil
          rw [if_pos (by rfl)]
          go_simp
          go_at_call 23
          refine (C23.out _ (HPL.out _ hbq) (HSL.out _ hbq)).mono ?_
          rintro e v5 ⟨rfl, hb5⟩
          replace hbq := hbq.trans (hb5.mono hbq.size)
          have HS := Lib.hid (HK.out _ hbq)
          clear hb5
          refine hK.out _ _ HS.out (fun _ => ?_)
          clear hK K
          try simp only [Act.put, List.setIfInBounds_toArray, List.set_cons_zero, List.set_cons_succ]
          refine hTake (i := 31) (d := 78) (v := .bool true) rfl rfl (by kernel_rfl) (by kernel_rfl) (by kernel_rfl) (fun _ _ _ h => h) (Or.inl ⟨rfl, ?gr⟩) HS.out ?_
          case gr =>
            rintro W' ⟨s0, s1, s2, s3, s4, s5⟩
            go_simp
          simp only [Act.put, List.setIfInBounds_toArray, List.set_cons_zero, List.set_cons_succ]
          refine hTake (i := 32) (d := 79) (v := .slice A3 nl c3) rfl rfl (by kernel_rfl) (by kernel_rfl) (by kernel_rfl) (fun _ _ _ h => h) (Or.inl ⟨rfl, ?gr⟩) HS.out ?_
          case gr =>
            rintro W' ⟨s0, s1, s2, s3, s4, s5⟩
            go_simp
          simp only [Act.put, List.setIfInBounds_toArray, List.set_cons_zero, List.set_cons_succ]
          refine hTake (i := 33) (d := 80) (v := .slice (some ⟨rb1, 0, none⟩) M M) rfl rfl (by kernel_rfl) (by kernel_rfl) (by kernel_rfl) (fun _ _ _ h => h) (Or.inl ⟨rfl, ?gr⟩) HS.out ?_
          case gr =>
            rintro W' ⟨s0, s1, s2, s3, s4, s5⟩
            go_simp
          simp only [Act.put, List.setIfInBounds_toArray, List.set_cons_zero, List.set_cons_succ]
          refine wpAnyH_ready (rs := [34]) (by kernel_rfl) (by simp) ?_
          refine AllReadyH.cons rfl (fun K hK => ?_) AllReadyH.nil
          rw [if_pos (by rfl)]
          go_simp
          go_at_call 32
          refine (C32l.out rfl rb1 _ (HSL.out _ hbq) (HI1.out _ hbq)).mono ?_
          rintro e v6 ⟨rfl, hb5⟩
          replace hbq := hbq.trans (hb5.mono hbq.size)
          have HS := Lib.hid (HK.out _ hbq)
          clear hb5
          refine hK.out _ _ HS.out (fun _ => ?_)
          clear hK K
          try simp only [Act.put, List.setIfInBounds_toArray, List.set_cons_zero, List.set_cons_succ]
          refine hTake (i := 35) (d := 82) (v := .bool false) rfl rfl (by kernel_rfl) (by kernel_rfl) (by kernel_rfl) (fun _ _ _ h => h) (Or.inl ⟨rfl, ?gr⟩) HS.out ?_
          case gr =>
            rintro W' ⟨s0, s1, s2, s3, s4, s5⟩
            go_simp
          simp only [Act.put, List.setIfInBounds_toArray, List.set_cons_zero, List.set_cons_succ]
          refine hTake (i := 36) (d := 83) (v := .bool false) rfl rfl (by kernel_rfl) (by kernel_rfl) (by kernel_rfl) (fun _ _ _ h => h) (Or.inl ⟨rfl, ?gr⟩) HS.out ?_
          case gr =>
            rintro W' ⟨s0, s1, s2, s3, s4, s5⟩
            go_simp
          simp only [Act.put, List.setIfInBounds_toArray, List.set_cons_zero, List.set_cons_succ]
          refine hTake (i := 37) (d := 84) (v := .bool false) rfl rfl (by kernel_rfl) (by kernel_rfl) (by kernel_rfl) (fun _ _ _ h => h) (Or.inl ⟨rfl, ?gr⟩) HS.out ?_
          case gr =>
            rintro W' ⟨s0, s1, s2, s3, s4, s5⟩
            go_simp
          simp only [Act.put, List.setIfInBounds_toArray, List.set_cons_zero, List.set_cons_succ]
          refine wpAnyH_done (by kernel_rfl) ?_ _
          go_wp2_with fail
          go_meet
          exact ⟨rfl, hbq⟩
        case false =>
          refine wp_region_held_drew (S := SB w.heap.size A nN c A2 nR c2 m n) (by kernel_rfl) HS.out (fun _ => ?_)
          refine hTake (i := 0) (d := 47) (v := .int .i64 0) rfl rfl (by kernel_rfl) (by kernel_rfl) (by kernel_rfl) (fun _ _ _ h => h) (Or.inl ⟨rfl, ?gr⟩) HS.out ?_
          case gr =>
            rintro W' ⟨s0, s1, s2, s3, s4, s5⟩
            go_simp
          simp only [Act.put, List.setIfInBounds_toArray, List.set_cons_zero, List.set_cons_succ]
          refine hTake (i := 1) (d := 48) (v := .bool false) rfl rfl (by kernel_rfl) (by kernel_rfl) (by kernel_rfl) (fun _ _ _ h => h) (Or.inl ⟨rfl, ?gr⟩) HS.out ?_
          case gr =>
            rintro W' ⟨s0, s1, s2, s3, s4, s5⟩
            go_simp
          simp only [Act.put, List.setIfInBounds_toArray, List.set_cons_zero, List.set_cons_succ]
          refine hTake (i := 2) (d := 49) (v := .bool false) rfl rfl (by kernel_rfl) (by kernel_rfl) (by kernel_rfl) (fun _ _ _ h => h) (Or.inl ⟨rfl, ?gr⟩) HS.out ?_
          case gr =>
            rintro W' ⟨s0, s1, s2, s3, s4, s5⟩
            go_simp
          simp only [Act.put, List.setIfInBounds_toArray, List.set_cons_zero, List.set_cons_succ]
          refine hTake (i := 3) (d := 50) (v := .slice (some ⟨rb1, 0, none⟩) M M) rfl rfl (by kernel_rfl) (by kernel_rfl) (by kernel_rfl) (fun _ _ _ h => h) (Or.inl ⟨rfl, ?gr⟩) HS.out ?_
          case gr =>
            rintro W' ⟨s0, s1, s2, s3, s4, s5⟩
            go_simp
          simp only [Act.put, List.setIfInBounds_toArray, List.set_cons_zero, List.set_cons_succ]
          refine hTake (i := 4) (d := 51) (v := .slice (some ⟨rb2, 0, none⟩) M M) rfl rfl (by kernel_rfl) (by kernel_rfl) (by kernel_rfl) (fun _ _ _ h => h) (Or.inl ⟨rfl, ?gr⟩) HS.out ?_
          case gr =>
            rintro W' ⟨s0, s1, s2, s3, s4, s5⟩
            go_simp
          simp only [Act.put, List.setIfInBounds_toArray, List.set_cons_zero, List.set_cons_succ]
          refine wpAnyH_ready (rs := [5]) (by kernel_rfl) (by simp) ?_
          refine AllReadyH.cons rfl (fun K hK => ?_) AllReadyH.nil
          rw [if_pos (by rfl)]
          go_simp
          go_at_call 32
          refine (C32.out rb1 rb2 _ (HI1.out _ hbq) (HI2.out _ hbq)).mono ?_
          rintro e v1 ⟨rfl, hb5⟩
          replace hbq := hbq.trans (hb5.mono hbq.size)
          have HS := Lib.hid (HK.out _ hbq)
          clear hb5
          refine hK.out _ _ HS.out (fun _ => ?_)
          clear hK K
          try simp only [Act.put, List.setIfInBounds_toArray, List.set_cons_zero, List.set_cons_succ]
          refine hTake (i := 6) (d := 53) (v := .bool false) rfl rfl (by kernel_rfl) (by kernel_rfl) (by kernel_rfl) (fun _ _ _ h => h) (Or.inl ⟨rfl, ?gr⟩) HS.out ?_
          case gr =>
            rintro W' ⟨s0, s1, s2, s3, s4, s5⟩
            go_simp
          simp only [Act.put, List.setIfInBounds_toArray, List.set_cons_zero, List.set_cons_succ]
          refine hTake (i := 7) (d := 54) (v := .bool false) rfl rfl (by kernel_rfl) (by kernel_rfl) (by kernel_rfl) (fun _ _ _ h => h) (Or.inl ⟨rfl, ?gr⟩) HS.out ?_
          case gr =>
            rintro W' ⟨s0, s1, s2, s3, s4, s5⟩
            go_simp
          simp only [Act.put, List.setIfInBounds_toArray, List.set_cons_zero, List.set_cons_succ]
          refine hTake (i := 8) (d := 55) (v := .bool false) rfl rfl (by kernel_rfl) (by kernel_rfl) (by kernel_rfl) (fun _ _ _ h => h) (Or.inl ⟨rfl, ?gr⟩) HS.out ?_
          case gr =>
            rintro W' ⟨s0, s1, s2, s3, s4, s5⟩
            go_simp
          simp only [Act.put, List.setIfInBounds_toArray, List.set_cons_zero, List.set_cons_succ]
          refine hTake (i := 9) (d := 56) (v := .agg #[.slice A nN c, .slice A2 nR c2]) rfl rfl (by kernel_rfl) (by kernel_rfl) (by kernel_rfl) (fun _ _ _ h => h) (Or.inl ⟨rfl, ?gr⟩) HS.out ?_
          case gr =>
            rintro W' ⟨s0, s1, s2, s3, s4, s5⟩
            go_simp
          simp only [Act.put, List.setIfInBounds_toArray, List.set_cons_zero, List.set_cons_succ]
          refine hTake (i := 10) (d := 57) (v := .agg #[.int .i64 n.rail, .bool n.last]) rfl rfl (by kernel_rfl) (by kernel_rfl) (by kernel_rfl) (fun _ _ _ h => h) (Or.inl ⟨rfl, ?gr⟩) HS.out ?_
          case gr =>
            rintro W' ⟨s0, s1, s2, s3, s4, s5⟩
            go_simp
          simp only [Act.put, List.setIfInBounds_toArray, List.set_cons_zero, List.set_cons_succ]
          refine hTake (i := 11) (d := 58) (v := .slice (some ⟨rb1, 0, none⟩) M M) rfl rfl (by kernel_rfl) (by kernel_rfl) (by kernel_rfl) (fun _ _ _ h => h) (Or.inl ⟨rfl, ?gr⟩) HS.out ?_
          case gr =>
            rintro W' ⟨s0, s1, s2, s3, s4, s5⟩
            go_simp
          simp only [Act.put, List.setIfInBounds_toArray, List.set_cons_zero, List.set_cons_succ]
          refine wpAnyH_ready (rs := [12]) (by kernel_rfl) (by simp) ?_
          refine AllReadyH.cons rfl (fun K hK => ?_) AllReadyH.nil
          rw [if_pos (by rfl)]
          go_simp
          go_at_call 23
          refine (C23d.out rb1 _ (HPL.out _ hbq) (HI1.out _ hbq)).mono ?_
          rintro e v2 ⟨rfl, hb5⟩
          replace hbq := hbq.trans (hb5.mono hbq.size)
          have HS := Lib.hid (HK.out _ hbq)
          clear hb5
          refine hK.out _ _ HS.out (fun _ => ?_)
          clear hK K
          try simp only [Act.put, List.setIfInBounds_toArray, List.set_cons_zero, List.set_cons_succ]
          refine hTake (i := 13) (d := 60) (v := .bool false) rfl rfl (by kernel_rfl) (by kernel_rfl) (by kernel_rfl) (fun _ _ _ h => h) (Or.inl ⟨rfl, ?gr⟩) HS.out ?_
          case gr =>
            rintro W' ⟨s0, s1, s2, s3, s4, s5⟩
            go_simp
          simp only [Act.put, List.setIfInBounds_toArray, List.set_cons_zero, List.set_cons_succ]
          refine hTake (i := 14) (d := 61) (v := .bool false) rfl rfl (by kernel_rfl) (by kernel_rfl) (by kernel_rfl) (fun _ _ _ h => h) (Or.inl ⟨rfl, ?gr⟩) HS.out ?_
          case gr =>
            rintro W' ⟨s0, s1, s2, s3, s4, s5⟩
            go_simp
          simp only [Act.put, List.setIfInBounds_toArray, List.set_cons_zero, List.set_cons_succ]
          refine hTake (i := 15) (d := 62) (v := .bool false) rfl rfl (by kernel_rfl) (by kernel_rfl) (by kernel_rfl) (fun _ _ _ h => h) (Or.inl ⟨rfl, ?gr⟩) HS.out ?_
          case gr =>
            rintro W' ⟨s0, s1, s2, s3, s4, s5⟩
            go_simp
          simp only [Act.put, List.setIfInBounds_toArray, List.set_cons_zero, List.set_cons_succ]
          refine hTake (i := 16) (d := 63) (v := .agg #[.slice A nN c, .slice A2 nR c2]) rfl rfl (by kernel_rfl) (by kernel_rfl) (by kernel_rfl) (fun _ _ _ h => h) (Or.inl ⟨rfl, ?gr⟩) HS.out ?_
          case gr =>
            rintro W' ⟨s0, s1, s2, s3, s4, s5⟩
            go_simp
          simp only [Act.put, List.setIfInBounds_toArray, List.set_cons_zero, List.set_cons_succ]
          refine hTake (i := 17) (d := 64) (v := .agg #[.int .i64 n.rail, .bool n.last]) rfl rfl (by kernel_rfl) (by kernel_rfl) (by kernel_rfl) (fun _ _ _ h => h) (Or.inl ⟨rfl, ?gr⟩) HS.out ?_
          case gr =>
            rintro W' ⟨s0, s1, s2, s3, s4, s5⟩
            go_simp
          simp only [Act.put, List.setIfInBounds_toArray, List.set_cons_zero, List.set_cons_succ]
          refine hTake (i := 18) (d := 65) (v := .slice A3 nl c3) rfl rfl (by kernel_rfl) (by kernel_rfl) (by kernel_rfl) (fun _ _ _ h => h) (Or.inl ⟨rfl, ?gr⟩) HS.out ?_
          case gr =>
            rintro W' ⟨s0, s1, s2, s3, s4, s5⟩
            go_simp
          simp only [Act.put, List.setIfInBounds_toArray, List.set_cons_zero, List.set_cons_succ]
          refine hTake (i := 20) (d := 67) (v := .agg #[.slice A nN c, .slice A2 nR c2]) rfl rfl (by kernel_rfl) (by kernel_rfl) (by kernel_rfl) (fun _ _ _ h => h) (Or.inl ⟨rfl, ?gr⟩) HS.out ?_
          case gr =>
            rintro W' ⟨s0, s1, s2, s3, s4, s5⟩
            go_simp
          simp only [Act.put, List.setIfInBounds_toArray, List.set_cons_zero, List.set_cons_succ]
          refine hTake (i := 21) (d := 68) (v := .agg #[.int .i64 n.rail, .bool n.last]) rfl rfl (by kernel_rfl) (by kernel_rfl) (by kernel_rfl) (fun _ _ _ h => h) (Or.inl ⟨rfl, ?gr⟩) HS.out ?_
          case gr =>
            rintro W' ⟨s0, s1, s2, s3, s4, s5⟩
            go_simp
          simp only [Act.put, List.setIfInBounds_toArray, List.set_cons_zero, List.set_cons_succ]
          refine hTake (i := 22) (d := 69) (v := .slice A3 nl c3) rfl rfl (by kernel_rfl) (by kernel_rfl) (by kernel_rfl) (fun _ _ _ h => h) (Or.inl ⟨rfl, ?gr⟩) HS.out ?_
          case gr =>
            rintro W' ⟨s0, s1, s2, s3, s4, s5⟩
            go_simp
          simp only [Act.put, List.setIfInBounds_toArray, List.set_cons_zero, List.set_cons_succ]
          refine wpAnyH_ready (rs := [19]) (by kernel_rfl) (by simp) ?_
          refine AllReadyH.cons rfl (fun K hK => ?_) AllReadyH.nil
          rw [if_pos (by rfl)]
          go_simp
          go_at_call 23
          refine (C23.out _ (HPL.out _ hbq) (HSL.out _ hbq)).mono ?_
          rintro e v3 ⟨rfl, hb5⟩
          replace hbq := hbq.trans (hb5.mono hbq.size)
          have HS := Lib.hid (HK.out _ hbq)
          clear hb5
          refine hK.out _ _ HS.out (fun _ => ?_)
          clear hK K
          try simp only [Act.put, List.setIfInBounds_toArray, List.set_cons_zero, List.set_cons_succ]
          refine wpAnyH_ready (rs := [23]) (by kernel_rfl) (by simp) ?_
          refine AllReadyH.cons rfl (fun K hK => ?_) AllReadyH.nil
          rw [if_pos (by rfl)]
          go_simp
          go_at_call 33
          refine (C33.out _ (HPL.out _ hbq) (HSL.out _ hbq)).mono ?_
          rintro e v4 ⟨rfl, hb5⟩
          replace hbq := hbq.trans (hb5.mono hbq.size)
          have HS := Lib.hid (HK.out _ hbq)
          clear hb5
          refine hK.out _ _ HS.out (fun _ => ?_)
          clear hK K
          try simp only [Act.put, List.setIfInBounds_toArray, List.set_cons_zero, List.set_cons_succ]
          refine hTake (i := 24) (d := 71) (v := .bool false) rfl rfl (by kernel_rfl) (by kernel_rfl) (by kernel_rfl) (fun _ _ _ h => h) (Or.inl ⟨rfl, ?gr⟩) HS.out ?_
          case gr =>
            rintro W' ⟨s0, s1, s2, s3, s4, s5⟩
            go_simp
          simp only [Act.put, List.setIfInBounds_toArray, List.set_cons_zero, List.set_cons_succ]
          refine hTake (i := 25) (d := 72) (v := .bool false) rfl rfl (by kernel_rfl) (by kernel_rfl) (by kernel_rfl) (fun _ _ _ h => h) (Or.inl ⟨rfl, ?gr⟩) HS.out ?_
          case gr =>
            rintro W' ⟨s0, s1, s2, s3, s4, s5⟩
            go_simp
          simp only [Act.put, List.setIfInBounds_toArray, List.set_cons_zero, List.set_cons_succ]
          refine hTake (i := 26) (d := 73) (v := .bool false) rfl rfl (by kernel_rfl) (by kernel_rfl) (by kernel_rfl) (fun _ _ _ h => h) (Or.inl ⟨rfl, ?gr⟩) HS.out ?_
          case gr =>
            rintro W' ⟨s0, s1, s2, s3, s4, s5⟩
            go_simp
          simp only [Act.put, List.setIfInBounds_toArray, List.set_cons_zero, List.set_cons_succ]
          refine hTake (i := 27) (d := 74) (v := .agg #[.slice A nN c, .slice A2 nR c2]) rfl rfl (by kernel_rfl) (by kernel_rfl) (by kernel_rfl) (fun _ _ _ h => h) (Or.inl ⟨rfl, ?gr⟩) HS.out ?_
          case gr =>
            rintro W' ⟨s0, s1, s2, s3, s4, s5⟩
            go_simp
          simp only [Act.put, List.setIfInBounds_toArray, List.set_cons_zero, List.set_cons_succ]
          refine hTake (i := 28) (d := 75) (v := .agg #[.int .i64 n.rail, .bool n.last]) rfl rfl (by kernel_rfl) (by kernel_rfl) (by kernel_rfl) (fun _ _ _ h => h) (Or.inl ⟨rfl, ?gr⟩) HS.out ?_
          case gr =>
            rintro W' ⟨s0, s1, s2, s3, s4, s5⟩
            go_simp
          simp only [Act.put, List.setIfInBounds_toArray, List.set_cons_zero, List.set_cons_succ]
          refine hTake (i := 29) (d := 76) (v := .slice A3 nl c3) rfl rfl (by kernel_rfl) (by kernel_rfl) (by kernel_rfl) (fun _ _ _ h => h) (Or.inl ⟨rfl, ?gr⟩) HS.out ?_
          case gr =>
            rintro W' ⟨s0, s1, s2, s3, s4, s5⟩
            go_simp
          simp only [Act.put, List.setIfInBounds_toArray, List.set_cons_zero, List.set_cons_succ]
          refine wpAnyH_ready (rs := [30]) (by kernel_rfl) (by simp) ?_
          refine AllReadyH.cons rfl (fun K hK => ?_) AllReadyH.nil
          rw [if_pos (by rfl)]
          go_simp
          go_at_call 23
          refine (C23.out _ (HPL.out _ hbq) (HSL.out _ hbq)).mono ?_
          rintro e v5 ⟨rfl, hb5⟩
          replace hbq := hbq.trans (hb5.mono hbq.size)
          have HS := Lib.hid (HK.out _ hbq)
          clear hb5
          refine hK.out _ _ HS.out (fun _ => ?_)
          clear hK K
          try simp only [Act.put, List.setIfInBounds_toArray, List.set_cons_zero, List.set_cons_succ]
          refine hTake (i := 31) (d := 78) (v := .bool false) rfl rfl (by kernel_rfl) (by kernel_rfl) (by kernel_rfl) (fun _ _ _ h => h) (Or.inl ⟨rfl, ?gr⟩) HS.out ?_
          case gr =>
            rintro W' ⟨s0, s1, s2, s3, s4, s5⟩
            go_simp
          simp only [Act.put, List.setIfInBounds_toArray, List.set_cons_zero, List.set_cons_succ]
          refine hTake (i := 32) (d := 79) (v := undef) rfl rfl (by kernel_rfl) (by kernel_rfl) (by kernel_rfl) (fun _ _ _ h => h) (Or.inr ⟨rfl, rfl⟩) HS.out ?_
          simp only [Act.put, List.setIfInBounds_toArray, List.set_cons_zero, List.set_cons_succ]
          refine hTake (i := 33) (d := 80) (v := undef) rfl rfl (by kernel_rfl) (by kernel_rfl) (by kernel_rfl) (fun _ _ _ h => h) (Or.inr ⟨rfl, rfl⟩) HS.out ?_
          simp only [Act.put, List.setIfInBounds_toArray, List.set_cons_zero, List.set_cons_succ]
          refine hTake (i := 34) (d := 81) (v := undef) rfl rfl (by kernel_rfl) (by kernel_rfl) (by kernel_rfl) (fun _ _ _ h => h) (Or.inr ⟨rfl, rfl⟩) HS.out ?_
          simp only [Act.put, List.setIfInBounds_toArray, List.set_cons_zero, List.set_cons_succ]
          refine hTake (i := 35) (d := 82) (v := undef) rfl rfl (by kernel_rfl) (by kernel_rfl) (by kernel_rfl) (fun _ _ _ h => h) (Or.inr ⟨rfl, rfl⟩) HS.out ?_
          simp only [Act.put, List.setIfInBounds_toArray, List.set_cons_zero, List.set_cons_succ]
          refine hTake (i := 36) (d := 83) (v := .bool false) rfl rfl (by kernel_rfl) (by kernel_rfl) (by kernel_rfl) (fun _ _ _ h => h) (Or.inl ⟨rfl, ?gr⟩) HS.out ?_
          case gr =>
            rintro W' ⟨s0, s1, s2, s3, s4, s5⟩
            go_simp
          simp only [Act.put, List.setIfInBounds_toArray, List.set_cons_zero, List.set_cons_succ]
          refine hTake (i := 37) (d := 84) (v := .bool false) rfl rfl (by kernel_rfl) (by kernel_rfl) (by kernel_rfl) (fun _ _ _ h => h) (Or.inl ⟨rfl, ?gr⟩) HS.out ?_
          case gr =>
            rintro W' ⟨s0, s1, s2, s3, s4, s5⟩
            go_simp
          simp only [Act.put, List.setIfInBounds_toArray, List.set_cons_zero, List.set_cons_succ]
          refine wpAnyH_done (by kernel_rfl) ?_ _
          go_wp2_with fail
          go_meet
          exact ⟨rfl, hbq⟩
      case rest =>
      obtain ⟨rfl, hbq⟩ := hcut
      have HB6 := Lib.hid hbq
      have hz6 := hbq.size
      clear HSL HI1 HR1 HR2 C19 C31 C32 C23d C23 C33 C32l hbq bq
      obtain ⟨k0, k1, m0, m1, n0, n1⟩ := HK.out _ HB6.out
      go_wp2_with fail
      refine (C18.out _ (HPL.out _ HB6.out)).mono ?_
      rintro e w7 ⟨⟨hx, rfl⟩ | ⟨hx, gw, N, cw, L, rfl, hsl, hL, hN8, hL0, hLN, hway, hwl⟩, hb7⟩
      · have HB7 := Lib.hid (HB6.out.trans (hb7.mono hz6))
        clear hb7 k0 k1 m0 m1 n0 n1
        obtain ⟨k0, k1, m0, m1, n0, n1⟩ := HK.out _ HB7.out
        have hz7 := HB7.out.size
        go_wp2_with fail
        refine (rNumber_any m.rail m.last _ hm0 hm1).mono ?_
        rintro e w8 ⟨rfl, hb8⟩
        rw [HKM.out]
        have HB8 := Lib.hid (HB7.out.trans (hb8.mono hz7))
        have q0 := HDX.out _ rb2 (HI2.out _ HB8.out)
        clear hb8 k0 k1 m0 m1 n0 n1
        go_wp2_with fail
        refine (known_any _).mono ?_
        rintro e w9 ⟨rfl, hb9⟩
        have HZ := Lib.hid (H5.out.g.be.trans ((HB8.out.trans (hb9.mono HB8.out.size)).mono H5.out.g.be.size))
        clear hb9
        go_wp2
        go_ret
        exact ⟨rfl, HZ.out⟩
      · have HB7 := Lib.hid (HB6.out.trans (hb7.mono hz6))
        have hz7 := HB7.out.size
        have hxn : ¬ x < 0 := by omega
        have hxd : decide (x < 0) = false := by rw [decide_eq_false_iff_not]; exact hxn
        have HSL := Lib.hid hsl
        have HLF := Lib.hid (And.intro hL (And.intro hway hwl))
        have HE0 := Lib.hid (show w7.cell? ⟨gw, 0, none⟩ = some (.int .i64 m.rail) ∧ w7.cell? ⟨gw, 1, none⟩ = some (.bool m.last) ∧ gw < w7.heap.size from by
          obtain ⟨b, o, e1, g1, q0, q1⟩ := end_at hsl (i := 0) (by omega)
          obtain ⟨rfl, rfl⟩ : gw = b ∧ 0 = o := by simpa using e1
          rw [List.getElem?_eq_getElem (by omega)] at hL0
          rw [Option.some.inj hL0] at q0 q1
          exact ⟨by simpa using q0, by simpa using q1, g1⟩)
        have HEN := Lib.hid (show w7.cell? ⟨gw, N * 2, none⟩ = some (.int .i64 n.rail) ∧ w7.cell? ⟨gw, N * 2 + 1, none⟩ = some (.bool n.last) from by
          obtain ⟨b, o, e1, g1, q0, q1⟩ := end_at hsl (i := N) (by omega)
          obtain ⟨rfl, rfl⟩ : gw = b ∧ 0 = o := by simpa using e1
          rw [List.getElem?_eq_getElem (by omega)] at hLN
          rw [Option.some.inj hLN] at q0 q1
          exact ⟨by simpa using q0, by simpa using q1⟩)
        clear hsl hL0 hLN hway hwl hL hb7 k0 k1 m0 m1 n0 n1
        obtain ⟨k0, k1, m0, m1, n0, n1⟩ := HK.out _ HB7.out
        go_wp2_with fail
        refine (rNumber_any m.rail m.last _ hm0 hm1).mono ?_
        rintro e w8 ⟨rfl, hb8⟩
        rw [HKM.out]
        have HB8 := Lib.hid (HB7.out.trans (hb8.mono hz7))
        have HB78 := Lib.hid hb8
        have q0 := HDX.out _ rb2 (HI2.out _ HB8.out)
        have hz8 := HB8.out.size
        have hz78 := hb8.size
        clear hb8 k0 k1 m0 m1 n0 n1
        go_upto_region 15 with (fail)
        clear q0
        have HKE := Lib.hid (show ∀ w', Below w8.heap.size w8 w' → SE w.heap.size A nN c A2 nR c2 m n gw N rb2 f x w' from fun w' hb' => by
          have h5 := HB8.out.trans (hb'.mono hz8)
          have h7 := HB78.out.trans (hb'.mono hz78)
          obtain ⟨a0, a1, a2, a3, a4, a5⟩ := HK.out _ h5
          exact ⟨a0, a1, a2, a3, a4, a5, (h7.cell (p := ⟨gw, 0, none⟩) HE0.out.2.2).trans HE0.out.1, (h7.cell (p := ⟨gw, 1, none⟩) HE0.out.2.2).trans HE0.out.2.1, (h7.cell (p := ⟨gw, N * 2, none⟩) HE0.out.2.2).trans HEN.out.1, (h7.cell (p := ⟨gw, N * 2 + 1, none⟩) HE0.out.2.2).trans HEN.out.2, HDX.out _ rb2 (HI2.out _ h5)⟩)
        have HSW := Lib.hid (show ∀ w', Below w8.heap.size w8 w' → Sl w' w'.heap.size 2 CE (some ⟨gw, 0, none⟩) L from fun w' hb' => by
          have h7 := HB78.out.trans (hb'.mono hz78)
          exact (HSL.out.below h7).more (fun _ _ h => h) h7.size)
        have HPW := Lib.hid (show ∀ w', Below w8.heap.size w8 w' → PlAt w' w'.heap.size A c A2 c2 p from fun w' hb' => HPL.out _ (HB8.out.trans (hb'.mono hz8)))
        have hbq : Below w8.heap.size w8 w8.drew := (Below.refl _ _).drew
        have HS := Lib.hid (HKE.out _ hbq)
        have wr1 : IntKind.i64.wrap ((N : Int) + 1 - 1) = (N : Int) := by rw [IntKind.wrap_i64]; omega
        have wr2 : IntKind.i64.wrap (N : Int) = (N : Int) := by rw [IntKind.wrap_i64]; omega
        have wr3 : IntKind.i64.wrap (x + Y) = x + Y := by rw [IntKind.wrap_i64]; omega
        have iN0 : (0 : Int) ≤ (N : Int) := by omega
        have iN1 : (N : Int) < (N : Int) + 1 := by omega
        have iN2 : (0 : Int) < (N : Int) + 1 := by omega
        refine wp_region_held_drew (S := SE w.heap.size A nN c A2 nR c2 m n gw N rb2 f x) (by kernel_rfl) HS.out (fun _ => ?_)
        refine hTake (i := 0) (d := 108) (v := .int .i64 0) rfl rfl (by kernel_rfl) (by kernel_rfl) (by kernel_rfl) (fun _ _ _ h => h) (Or.inl ⟨rfl, ?gr⟩) HS.out ?_
        case gr =>
          rintro W' ⟨s0, s1, s2, s3, s4, s5, s6, s7, s8, s9, s10⟩
          go_simp
        simp only [Act.put, List.setIfInBounds_toArray, List.set_cons_zero, List.set_cons_succ]
        refine hTake (i := 1) (d := 109) (v := .bool true) rfl rfl (by kernel_rfl) (by kernel_rfl) (by kernel_rfl) (fun _ _ _ h => h) (Or.inl ⟨rfl, ?gr⟩) HS.out ?_
        case gr =>
          rintro W' ⟨s0, s1, s2, s3, s4, s5, s6, s7, s8, s9, s10⟩
          go_simp
        simp only [Act.put, List.setIfInBounds_toArray, List.set_cons_zero, List.set_cons_succ]
        refine hTake (i := 2) (d := 110) (v := .bool true) rfl rfl (by kernel_rfl) (by kernel_rfl) (by kernel_rfl) (fun _ _ _ h => h) (Or.inl ⟨rfl, ?gr⟩) HS.out ?_
        case gr =>
          rintro W' ⟨s0, s1, s2, s3, s4, s5, s6, s7, s8, s9, s10⟩
          go_simp
        simp only [Act.put, List.setIfInBounds_toArray, List.set_cons_zero, List.set_cons_succ]
        refine hTake (i := 3) (d := 111) (v := .agg #[.slice A nN c, .slice A2 nR c2]) rfl rfl (by kernel_rfl) (by kernel_rfl) (by kernel_rfl) (fun _ _ _ h => h) (Or.inl ⟨rfl, ?gr⟩) HS.out ?_
        case gr =>
          rintro W' ⟨s0, s1, s2, s3, s4, s5, s6, s7, s8, s9, s10⟩
          go_simp
        simp only [Act.put, List.setIfInBounds_toArray, List.set_cons_zero, List.set_cons_succ]
        refine hTake (i := 4) (d := 112) (v := .slice (some ⟨gw, 0, none⟩) (N + 1) cw) rfl rfl (by kernel_rfl) (by kernel_rfl) (by kernel_rfl) (fun _ _ _ h => h) (Or.inl ⟨rfl, ?gr⟩) HS.out ?_
        case gr =>
          rintro W' ⟨s0, s1, s2, s3, s4, s5, s6, s7, s8, s9, s10⟩
          go_simp
        simp only [Act.put, List.setIfInBounds_toArray, List.set_cons_zero, List.set_cons_succ]
        refine wpAnyH_ready (rs := [5]) (by kernel_rfl) (by simp) ?_
        refine AllReadyH.cons rfl (fun K hK => ?_) AllReadyH.nil
        rw [if_pos (by rfl)]
        go_simp
        go_at_call 24
        refine (C24.out gw cw N L _ (HPW.out _ hbq) (HSW.out _ hbq) HLF.out.1 hN8 HLF.out.2.1).mono ?_
        rintro e v1 ⟨rfl, hb5⟩
        replace hbq := hbq.trans (hb5.mono hbq.size)
        have HS := Lib.hid (HKE.out _ hbq)
        clear hb5
        refine hK.out _ _ HS.out (fun _ => ?_)
        clear hK K
        try simp only [Act.put, List.setIfInBounds_toArray, List.set_cons_zero, List.set_cons_succ]
        refine hTake (i := 6) (d := 114) (v := .bool true) rfl rfl (by kernel_rfl) (by kernel_rfl) (by kernel_rfl) (fun _ _ _ h => h) (Or.inl ⟨rfl, ?gr⟩) HS.out ?_
        case gr =>
          rintro W' ⟨s0, s1, s2, s3, s4, s5, s6, s7, s8, s9, s10⟩
          go_simp
        simp only [Act.put, List.setIfInBounds_toArray, List.set_cons_zero, List.set_cons_succ]
        refine hTake (i := 7) (d := 115) (v := .bool true) rfl rfl (by kernel_rfl) (by kernel_rfl) (by kernel_rfl) (fun _ _ _ h => h) (Or.inl ⟨rfl, ?gr⟩) HS.out ?_
        case gr =>
          rintro W' ⟨s0, s1, s2, s3, s4, s5, s6, s7, s8, s9, s10⟩
          go_simp
        simp only [Act.put, List.setIfInBounds_toArray, List.set_cons_zero, List.set_cons_succ]
        refine hTake (i := 8) (d := 116) (v := .slice (some ⟨gw, 0, none⟩) (N + 1) cw) rfl rfl (by kernel_rfl) (by kernel_rfl) (by kernel_rfl) (fun _ _ _ h => h) (Or.inl ⟨rfl, ?gr⟩) HS.out ?_
        case gr =>
          rintro W' ⟨s0, s1, s2, s3, s4, s5, s6, s7, s8, s9, s10⟩
          go_simp
        simp only [Act.put, List.setIfInBounds_toArray, List.set_cons_zero, List.set_cons_succ]
        refine hTake (i := 9) (d := 117) (v := .pointer (some ⟨gw, 0, none⟩)) rfl rfl (by kernel_rfl) (by kernel_rfl) (by kernel_rfl) (fun _ _ _ h => h) (Or.inl ⟨rfl, ?gr⟩) HS.out ?_
        case gr =>
          rintro W' ⟨s0, s1, s2, s3, s4, s5, s6, s7, s8, s9, s10⟩
          go_simp
        simp only [Act.put, List.setIfInBounds_toArray, List.set_cons_zero, List.set_cons_succ]
        refine hTake (i := 10) (d := 118) (v := .agg #[.int .i64 m.rail, .bool m.last]) rfl rfl (by kernel_rfl) (by kernel_rfl) (by kernel_rfl) (fun _ _ _ h => h) (Or.inl ⟨rfl, ?gr⟩) HS.out ?_
        case gr =>
          rintro W' ⟨s0, s1, s2, s3, s4, s5, s6, s7, s8, s9, s10⟩
          go_simp
        simp only [Act.put, List.setIfInBounds_toArray, List.set_cons_zero, List.set_cons_succ]
        refine hTake (i := 11) (d := 119) (v := .agg #[.int .i64 m.rail, .bool m.last]) rfl rfl (by kernel_rfl) (by kernel_rfl) (by kernel_rfl) (fun _ _ _ h => h) (Or.inl ⟨rfl, ?gr⟩) HS.out ?_
        case gr =>
          rintro W' ⟨s0, s1, s2, s3, s4, s5, s6, s7, s8, s9, s10⟩
          go_simp
        simp only [Act.put, List.setIfInBounds_toArray, List.set_cons_zero, List.set_cons_succ]
        refine hTake (i := 12) (d := 120) (v := .bool true) rfl rfl (by kernel_rfl) (by kernel_rfl) (by kernel_rfl) (fun _ _ _ h => h) (Or.inl ⟨rfl, ?gr⟩) HS.out ?_
        case gr =>
          rintro W' ⟨s0, s1, s2, s3, s4, s5, s6, s7, s8, s9, s10⟩
          go_simp
        simp only [Act.put, List.setIfInBounds_toArray, List.set_cons_zero, List.set_cons_succ]
        refine hTake (i := 13) (d := 121) (v := .bool true) rfl rfl (by kernel_rfl) (by kernel_rfl) (by kernel_rfl) (fun _ _ _ h => h) (Or.inl ⟨rfl, ?gr⟩) HS.out ?_
        case gr =>
          rintro W' ⟨s0, s1, s2, s3, s4, s5, s6, s7, s8, s9, s10⟩
          go_simp
        simp only [Act.put, List.setIfInBounds_toArray, List.set_cons_zero, List.set_cons_succ]
        refine hTake (i := 14) (d := 122) (v := .bool true) rfl rfl (by kernel_rfl) (by kernel_rfl) (by kernel_rfl) (fun _ _ _ h => h) (Or.inl ⟨rfl, ?gr⟩) HS.out ?_
        case gr =>
          rintro W' ⟨s0, s1, s2, s3, s4, s5, s6, s7, s8, s9, s10⟩
          go_simp
        simp only [Act.put, List.setIfInBounds_toArray, List.set_cons_zero, List.set_cons_succ]
        refine hTake (i := 15) (d := 123) (v := .slice (some ⟨gw, 0, none⟩) (N + 1) cw) rfl rfl (by kernel_rfl) (by kernel_rfl) (by kernel_rfl) (fun _ _ _ h => h) (Or.inl ⟨rfl, ?gr⟩) HS.out ?_
        case gr =>
          rintro W' ⟨s0, s1, s2, s3, s4, s5, s6, s7, s8, s9, s10⟩
          go_simp
        simp only [Act.put, List.setIfInBounds_toArray, List.set_cons_zero, List.set_cons_succ]
        refine hTake (i := 16) (d := 124) (v := .slice (some ⟨gw, 0, none⟩) (N + 1) cw) rfl rfl (by kernel_rfl) (by kernel_rfl) (by kernel_rfl) (fun _ _ _ h => h) (Or.inl ⟨rfl, ?gr⟩) HS.out ?_
        case gr =>
          rintro W' ⟨s0, s1, s2, s3, s4, s5, s6, s7, s8, s9, s10⟩
          go_simp
        simp only [Act.put, List.setIfInBounds_toArray, List.set_cons_zero, List.set_cons_succ]
        refine hTake (i := 17) (d := 125) (v := .int .i64 ((N : Int) + 1)) rfl rfl (by kernel_rfl) (by kernel_rfl) (by kernel_rfl) (fun _ _ _ h => h) (Or.inl ⟨rfl, ?gr⟩) HS.out ?_
        case gr =>
          rintro W' ⟨s0, s1, s2, s3, s4, s5, s6, s7, s8, s9, s10⟩
          go_simp
        simp only [Act.put, List.setIfInBounds_toArray, List.set_cons_zero, List.set_cons_succ]
        refine hTake (i := 18) (d := 126) (v := .int .i64 (N : Int)) rfl rfl (by kernel_rfl) (by kernel_rfl) (by kernel_rfl) (fun _ _ _ h => h) (Or.inl ⟨rfl, ?gr⟩) HS.out ?_
        case gr =>
          rintro W' ⟨s0, s1, s2, s3, s4, s5, s6, s7, s8, s9, s10⟩
          go_simp
        simp only [Act.put, List.setIfInBounds_toArray, List.set_cons_zero, List.set_cons_succ]
        refine hTake (i := 19) (d := 127) (v := .pointer (some ⟨gw, N * 2, none⟩)) rfl rfl (by kernel_rfl) (by kernel_rfl) (by kernel_rfl) (fun _ _ _ h => h) (Or.inl ⟨rfl, ?gr⟩) HS.out ?_
        case gr =>
          rintro W' ⟨s0, s1, s2, s3, s4, s5, s6, s7, s8, s9, s10⟩
          go_simp
        simp only [Act.put, List.setIfInBounds_toArray, List.set_cons_zero, List.set_cons_succ]
        refine hTake (i := 20) (d := 128) (v := .agg #[.int .i64 n.rail, .bool n.last]) rfl rfl (by kernel_rfl) (by kernel_rfl) (by kernel_rfl) (fun _ _ _ h => h) (Or.inl ⟨rfl, ?gr⟩) HS.out ?_
        case gr =>
          rintro W' ⟨s0, s1, s2, s3, s4, s5, s6, s7, s8, s9, s10⟩
          go_simp
        simp only [Act.put, List.setIfInBounds_toArray, List.set_cons_zero, List.set_cons_succ]
        refine hTake (i := 21) (d := 129) (v := .agg #[.int .i64 n.rail, .bool n.last]) rfl rfl (by kernel_rfl) (by kernel_rfl) (by kernel_rfl) (fun _ _ _ h => h) (Or.inl ⟨rfl, ?gr⟩) HS.out ?_
        case gr =>
          rintro W' ⟨s0, s1, s2, s3, s4, s5, s6, s7, s8, s9, s10⟩
          go_simp
        simp only [Act.put, List.setIfInBounds_toArray, List.set_cons_zero, List.set_cons_succ]
        refine hTake (i := 22) (d := 130) (v := .bool true) rfl rfl (by kernel_rfl) (by kernel_rfl) (by kernel_rfl) (fun _ _ _ h => h) (Or.inl ⟨rfl, ?gr⟩) HS.out ?_
        case gr =>
          rintro W' ⟨s0, s1, s2, s3, s4, s5, s6, s7, s8, s9, s10⟩
          go_simp
        simp only [Act.put, List.setIfInBounds_toArray, List.set_cons_zero, List.set_cons_succ]
        refine hTake (i := 23) (d := 131) (v := .bool true) rfl rfl (by kernel_rfl) (by kernel_rfl) (by kernel_rfl) (fun _ _ _ h => h) (Or.inl ⟨rfl, ?gr⟩) HS.out ?_
        case gr =>
          rintro W' ⟨s0, s1, s2, s3, s4, s5, s6, s7, s8, s9, s10⟩
          go_simp
        simp only [Act.put, List.setIfInBounds_toArray, List.set_cons_zero, List.set_cons_succ]
        refine hTake (i := 24) (d := 132) (v := .bool true) rfl rfl (by kernel_rfl) (by kernel_rfl) (by kernel_rfl) (fun _ _ _ h => h) (Or.inl ⟨rfl, ?gr⟩) HS.out ?_
        case gr =>
          rintro W' ⟨s0, s1, s2, s3, s4, s5, s6, s7, s8, s9, s10⟩
          go_simp
        simp only [Act.put, List.setIfInBounds_toArray, List.set_cons_zero, List.set_cons_succ]
        refine hTake (i := 25) (d := 133) (v := .agg #[.slice A nN c, .slice A2 nR c2]) rfl rfl (by kernel_rfl) (by kernel_rfl) (by kernel_rfl) (fun _ _ _ h => h) (Or.inl ⟨rfl, ?gr⟩) HS.out ?_
        case gr =>
          rintro W' ⟨s0, s1, s2, s3, s4, s5, s6, s7, s8, s9, s10⟩
          go_simp
        simp only [Act.put, List.setIfInBounds_toArray, List.set_cons_zero, List.set_cons_succ]
        refine hTake (i := 26) (d := 134) (v := .slice (some ⟨gw, 0, none⟩) (N + 1) cw) rfl rfl (by kernel_rfl) (by kernel_rfl) (by kernel_rfl) (fun _ _ _ h => h) (Or.inl ⟨rfl, ?gr⟩) HS.out ?_
        case gr =>
          rintro W' ⟨s0, s1, s2, s3, s4, s5, s6, s7, s8, s9, s10⟩
          go_simp
        simp only [Act.put, List.setIfInBounds_toArray, List.set_cons_zero, List.set_cons_succ]
        refine hTake (i := 28) (d := 136) (v := .slice (some ⟨rb2, 0, none⟩) M M) rfl rfl (by kernel_rfl) (by kernel_rfl) (by kernel_rfl) (fun _ _ _ h => h) (Or.inl ⟨rfl, ?gr⟩) HS.out ?_
        case gr =>
          rintro W' ⟨s0, s1, s2, s3, s4, s5, s6, s7, s8, s9, s10⟩
          go_simp
        simp only [Act.put, List.setIfInBounds_toArray, List.set_cons_zero, List.set_cons_succ]
        refine hTake (i := 29) (d := 137) (v := .agg #[.int .i64 m.rail, .bool m.last]) rfl rfl (by kernel_rfl) (by kernel_rfl) (by kernel_rfl) (fun _ _ _ h => h) (Or.inl ⟨rfl, ?gr⟩) HS.out ?_
        case gr =>
          rintro W' ⟨s0, s1, s2, s3, s4, s5, s6, s7, s8, s9, s10⟩
          go_simp
        simp only [Act.put, List.setIfInBounds_toArray, List.set_cons_zero, List.set_cons_succ]
        refine hTake (i := 33) (d := 141) (v := .agg #[.slice A nN c, .slice A2 nR c2]) rfl rfl (by kernel_rfl) (by kernel_rfl) (by kernel_rfl) (fun _ _ _ h => h) (Or.inl ⟨rfl, ?gr⟩) HS.out ?_
        case gr =>
          rintro W' ⟨s0, s1, s2, s3, s4, s5, s6, s7, s8, s9, s10⟩
          go_simp
        simp only [Act.put, List.setIfInBounds_toArray, List.set_cons_zero, List.set_cons_succ]
        refine hTake (i := 34) (d := 142) (v := .pointer (some ⟨w.heap.size + 1, 0, none⟩)) rfl rfl (by kernel_rfl) (by kernel_rfl) (by kernel_rfl) (fun _ _ _ h => h) (Or.inl ⟨rfl, ?gr⟩) HS.out ?_
        case gr =>
          rintro W' ⟨s0, s1, s2, s3, s4, s5, s6, s7, s8, s9, s10⟩
          go_simp
        simp only [Act.put, List.setIfInBounds_toArray, List.set_cons_zero, List.set_cons_succ]
        refine hTake (i := 35) (d := 143) (v := .int .i64 m.rail) rfl rfl (by kernel_rfl) (by kernel_rfl) (by kernel_rfl) (fun _ _ _ h => h) (Or.inl ⟨rfl, ?gr⟩) HS.out ?_
        case gr =>
          rintro W' ⟨s0, s1, s2, s3, s4, s5, s6, s7, s8, s9, s10⟩
          go_simp
        simp only [Act.put, List.setIfInBounds_toArray, List.set_cons_zero, List.set_cons_succ]
        refine wpAnyH_ready (rs := [27]) (by kernel_rfl) (by simp) ?_
        refine AllReadyH.cons rfl (fun K hK => ?_) AllReadyH.nil
        rw [if_pos (by rfl)]
        go_simp
        go_at_call 25
        refine (C25.out gw cw N L _ (HPW.out _ hbq) (HSW.out _ hbq) HLF.out.1 hN8 HLF.out.2.1 HLF.out.2.2).mono ?_
        rintro e v2 ⟨rfl, hb5⟩
        replace hbq := hbq.trans (hb5.mono hbq.size)
        have HS := Lib.hid (HKE.out _ hbq)
        clear hb5
        refine hK.out _ _ HS.out (fun _ => ?_)
        clear hK K
        try simp only [Act.put, List.setIfInBounds_toArray, List.set_cons_zero, List.set_cons_succ]
        refine wpAnyH_ready (rs := [30]) (by kernel_rfl) (by simp) ?_
        refine AllReadyH.cons rfl (fun K hK => ?_) AllReadyH.nil
        rw [if_pos (by rfl)]
        go_simp
        go_at_call 34
        refine (rNumber_any m.rail m.last _ hm0 hm1).mono ?_
        rintro e v3 ⟨rfl, hb5⟩
        rw [HKM.out]
        replace hbq := hbq.trans (hb5.mono hbq.size)
        have HS := Lib.hid (HKE.out _ hbq)
        clear hb5
        refine hK.out _ _ HS.out (fun _ => ?_)
        clear hK K
        try simp only [Act.put, List.setIfInBounds_toArray, List.set_cons_zero, List.set_cons_succ]
        refine hTake (i := 31) (d := 139) (v := .pointer (some ⟨rb2, f, none⟩)) rfl rfl (by kernel_rfl) (by kernel_rfl) (by kernel_rfl) (fun _ _ _ h => h) (Or.inl ⟨rfl, ?gr⟩) HS.out ?_
        case gr =>
          rintro W' ⟨s0, s1, s2, s3, s4, s5, s6, s7, s8, s9, s10⟩
          go_simp
        simp only [Act.put, List.setIfInBounds_toArray, List.set_cons_zero, List.set_cons_succ]
        refine hTake (i := 32) (d := 140) (v := .int .i64 x) rfl rfl (by kernel_rfl) (by kernel_rfl) (by kernel_rfl) (fun _ _ _ h => h) (Or.inl ⟨rfl, ?gr⟩) HS.out ?_
        case gr =>
          rintro W' ⟨s0, s1, s2, s3, s4, s5, s6, s7, s8, s9, s10⟩
          go_simp
        simp only [Act.put, List.setIfInBounds_toArray, List.set_cons_zero, List.set_cons_succ]
        refine wpAnyH_ready (rs := [36]) (by kernel_rfl) (by simp) ?_
        refine AllReadyH.cons rfl (fun K hK => ?_) AllReadyH.nil
        rw [if_pos (by rfl)]
        go_simp
        go_at_call 35
        refine (C35.out _ (HPW.out _ hbq)).mono ?_
        rintro e v4 ⟨rfl, hb5⟩
        replace hbq := hbq.trans (hb5.mono hbq.size)
        have HS := Lib.hid (HKE.out _ hbq)
        clear hb5
        refine hK.out _ _ HS.out (fun _ => ?_)
        clear hK K
        try simp only [Act.put, List.setIfInBounds_toArray, List.set_cons_zero, List.set_cons_succ]
        refine hTake (i := 37) (d := 145) (v := .int .i64 (x + Y)) rfl rfl (by kernel_rfl) (by kernel_rfl) (by kernel_rfl) (fun _ _ _ h => h) (Or.inl ⟨rfl, ?gr⟩) HS.out ?_
        case gr =>
          rintro W' ⟨s0, s1, s2, s3, s4, s5, s6, s7, s8, s9, s10⟩
          go_simp
        simp only [Act.put, List.setIfInBounds_toArray, List.set_cons_zero, List.set_cons_succ]
        refine hTake (i := 38) (d := 146) (v := .bool true) rfl rfl (by kernel_rfl) (by kernel_rfl) (by kernel_rfl) (fun _ _ _ h => h) (Or.inl ⟨rfl, ?gr⟩) HS.out ?_
        case gr =>
          rintro W' ⟨s0, s1, s2, s3, s4, s5, s6, s7, s8, s9, s10⟩
          go_simp
        simp only [Act.put, List.setIfInBounds_toArray, List.set_cons_zero, List.set_cons_succ]
        refine hTake (i := 39) (d := 147) (v := .bool true) rfl rfl (by kernel_rfl) (by kernel_rfl) (by kernel_rfl) (fun _ _ _ h => h) (Or.inl ⟨rfl, ?gr⟩) HS.out ?_
        case gr =>
          rintro W' ⟨s0, s1, s2, s3, s4, s5, s6, s7, s8, s9, s10⟩
          go_simp
        simp only [Act.put, List.setIfInBounds_toArray, List.set_cons_zero, List.set_cons_succ]
        refine hTake (i := 40) (d := 148) (v := .bool true) rfl rfl (by kernel_rfl) (by kernel_rfl) (by kernel_rfl) (fun _ _ _ h => h) (Or.inl ⟨rfl, ?gr⟩) HS.out ?_
        case gr =>
          rintro W' ⟨s0, s1, s2, s3, s4, s5, s6, s7, s8, s9, s10⟩
          go_simp
        simp only [Act.put, List.setIfInBounds_toArray, List.set_cons_zero, List.set_cons_succ]
        refine wpAnyH_ready (rs := [41]) (by kernel_rfl) (by simp) ?_
        refine AllReadyH.cons rfl (fun K hK => ?_) AllReadyH.nil
        rw [if_pos (by rfl)]
        go_simp
        go_at_call 11
        refine (known_any _).mono ?_
        rintro e v5 ⟨rfl, hb5⟩
        replace hbq := hbq.trans (hb5.mono hbq.size)
        have HS := Lib.hid (HKE.out _ hbq)
        clear hb5
        refine hK.out _ _ HS.out (fun _ => ?_)
        clear hK K
        try simp only [Act.put, List.setIfInBounds_toArray, List.set_cons_zero, List.set_cons_succ]
        refine hTake (i := 42) (d := 150) (v := .bool true) rfl rfl (by kernel_rfl) (by kernel_rfl) (by kernel_rfl) (fun _ _ _ h => h) (Or.inl ⟨rfl, ?gr⟩) HS.out ?_
        case gr =>
          rintro W' ⟨s0, s1, s2, s3, s4, s5, s6, s7, s8, s9, s10⟩
          go_simp
        simp only [Act.put, List.setIfInBounds_toArray, List.set_cons_zero, List.set_cons_succ]
        refine hTake (i := 43) (d := 8) (v := .bool true) rfl rfl (by kernel_rfl) (by kernel_rfl) (by kernel_rfl) (fun _ _ _ h => h) (Or.inl ⟨rfl, ?gr⟩) HS.out ?_
        case gr =>
          rintro W' ⟨s0, s1, s2, s3, s4, s5, s6, s7, s8, s9, s10⟩
          go_simp
        simp only [Act.put, List.setIfInBounds_toArray, List.set_cons_zero, List.set_cons_succ]
        refine wpAnyH_done (by kernel_rfl) ?_ _
        go_wp2_with fail
        go_ret
        exact ⟨rfl, H5.out.g.be.trans ((HB8.out.trans (hbq.mono hz8)).mono H5.out.g.be.size)⟩
theorem Dist_any (hP : PlAt w w.heap.size A c A2 c2 p) (hA : Sl w w.heap.size 1 CI A3 l) (hlow : ∀ u, u < l.length → -9223372036854775808 ≤ gI l u) : DistC A A2 A3 c c2 c3 p m n l w := by
  by_cases hv : Vld p
  · cases hs : smallB p
    · exact Dist_not A A2 A3 c c2 c3 p m n l w hP true (valB_yes hv) (by simp [fineB, hs])
    cases hm : railIn p m.rail
    · exact Dist_not A A2 A3 c c2 c3 p m n l w hP true (valB_yes hv) (by simp [fineB, hm])
    cases hn : railIn p n.rail
    · exact Dist_not A A2 A3 c c2 c3 p m n l w hP true (valB_yes hv) (by simp [fineB, hn])
    by_cases hl : l.length ≤ 60
    · exact Dist_in A A2 A3 c c2 c3 p m n l w hP hA hlow hl hs hv hm hn
    · exact Dist_long A A2 A3 c c2 c3 p m n l w hP true (valB_yes hv) (by simp [fineB, hs, hm, hn]) (by omega)
  · exact Dist_not A A2 A3 c c2 c3 p m n l w hP false (valB_no hv) (by simp [fineB])
end
section row
open Go.ChangeShapes Go.WideShapes Go.ChangeAt Go.Deep
theorem Tryz.c27q : Tryz.prog.cellsOf 27 = 2 := by kernel_rfl
theorem Tryz.b27q : 1 ≤ Tryz.prog.bytesOf 27 := by rw [show Tryz.prog.bytesOf 27 = 16 by kernel_rfl]; omega
section
variable {H : Type} {enc : TypeId × Value → H} {w : World} {fuel : Nat} {cs : List Value} {x : DataW H × List MemPlace}
set_option maxRecDepth 100000 in
theorem read_Mq (h : DataW.trod enc Tryz.prog w 0 (fun _ => true) true fuel 27 cs = some x) (hl : InReach Tryz.prog 27 x.1) : ∃ z : E, CE z cs := by
  have hn := read_len Tryz.underlying27 h
  rw [Tryz.c27q] at hn
  obtain ⟨n1, y1, h1, _⟩ := read_at Tryz.underlying27 h hl 0 rfl Tryz.c3
  obtain ⟨n2, y2, h2, _⟩ := read_at Tryz.underlying27 h hl 1 rfl Tryz.c4
  obtain ⟨a, ha, _, _⟩ := DataW.trod_int Tryz.underlying3 h1
  obtain ⟨b, hb, _⟩ := DataW.trod_bool Tryz.underlying4 h2
  match cs, hn with
  | [u, v], _ =>
    simp at ha hb
    subst ha; subst hb
    exact ⟨⟨a, b⟩, rfl⟩
theorem read_Msq (h : DataW.trod enc Tryz.prog w 0 (fun _ => true) true fuel 31 cs = some x) (hl : InReach Tryz.prog 31 x.1) :
    ∃ (A : Option Addr) (l : List E) (c : Nat), cs = [.slice A l.length c] ∧ Sl w w.heap.size 2 CE A l ∧ l.length ≤ c ∧ c ≤ 140737488351232 :=
  read_slice (C := CE) Tryz.underlying31 Tryz.c27q (by omega) Tryz.b27q h hl fun n cs' y h hl => read_Mq h hl
end
theorem Tryz.b3q : 1 ≤ Tryz.prog.bytesOf 3 := by rw [show Tryz.prog.bytesOf 3 = 8 by kernel_rfl]; omega
def CIr (x : Int) (cs : List Value) : Prop := cs = [.int .i64 x] ∧ -9223372036854775808 ≤ x ∧ x ≤ 9223372036854775807
section
variable {H : Type} {enc : TypeId × Value → H} {w : World} {fuel : Nat} {cs : List Value} {x : DataW H × List MemPlace}
theorem low_of {w : World} {A : Option Addr} {l : List Int} (h : Sl w w.heap.size 1 CIr A l) : ∀ u, u < l.length → -9223372036854775808 ≤ gI l u := fun u hu => by
  obtain ⟨_, _, cs, _, _, hc, _⟩ := h.at_ hu
  rw [gI_get hu]
  exact hc.2.1
theorem read_Iq (h : DataW.trod enc Tryz.prog w 0 (fun _ => true) true fuel 50 cs = some x) (hl : InReach Tryz.prog 50 x.1) :
    ∃ (A : Option Addr) (l : List Int) (c : Nat), cs = [.slice A l.length c] ∧ Sl w w.heap.size 1 CIr A l ∧ l.length ≤ c ∧ c ≤ 140737488351232 :=
  read_slice (C := CIr) Tryz.underlying50 Tryz.c3 (by omega) Tryz.b3q h hl fun n cs' y h hl => by
    obtain ⟨a, rfl, _, hw⟩ := DataW.trod_int Tryz.underlying3 h
    have h2 : (decide (IntKind.i64.min ≤ a) && decide (a ≤ IntKind.i64.max)) = true := hw
    simp only [Bool.and_eq_true, decide_eq_true_eq] at h2
    exact ⟨a, rfl, h2⟩
end

set_option maxRecDepth 100000 in
set_option maxHeartbeats 1600000 in
theorem trackDistances_lifted (os : Os) (started : os.Started) (H : Type) (enc : TypeId × Value → H) :
    ReturnsInHanded {} Tryz.checked os 5 .any (Rows.trackDistancesSpec.pre6 enc Tryz.prog Tryz.f5 Rows.trackDistancesRow.domain false) (Rows.trackDistancesSpec.post enc Tryz.prog Tryz.f5 false true false false) := by
  refine returnsInHanded_of_change_sized (C := Tryz.checked) (by kernel_rfl : ownKnob Tryz.prog.godebug = none) started (by kernel_rfl) Tryz.func5
    (ChangeSpec.witness6 (enc := enc) (C := Tryz.checked) false ⟨#[], #[.agg #[.slice none 0 0, .slice none 0 0], .agg #[.int .i64 0, .bool false], .agg #[.int .i64 0, .bool false], .slice none 0 0], []⟩ 8 (by kernel_rfl) (by kernel_rfl) (by kernel_rfl) (by kernel_rfl)) ?_
  intro W base args ds gs before hval0 hW _ hsz0 _
  have hsz : (DataW.weightsEach Tryz.prog (Tryz.f5.params.toList ++ Rows.trackDistancesSpec.plain.varTypes Tryz.prog) (ds ++ gs)).all (· ≤ reachBytes) = true := hsz0
  clear hsz0
  have hval : ∀ (j : Nat) t v, Tryz.f5.params[j]? = some t → args[j]? = some v → Value.okWide Tryz.prog W .any base t v := hval0
  have hW' := hW
  obtain ⟨p, q, hA0, hV, rfl, hfz, _⟩ := hW
  have hA : DataW.TrodAll enc Tryz.prog W 0 (fun _ => true) true Tryz.f5.params.toList args.toList ds p := hA0
  rw [Tryz.params5] at hA hval hsz
  obtain ⟨v0, v1, v2, v3, d0, d1, d2, d3, p0, p1, p2, p3, rfl, rfl, rfl, h0, h1, h2, h3⟩ := trodAll_four hA
  obtain ⟨rfl, rfl⟩ := trodVars_none hV
  obtain ⟨cs0, rfl, hcs0⟩ := okWide_struct Tryz.underlying25 (hval 0 25 v0 rfl rfl)
  obtain ⟨cs1, rfl, hcs1⟩ := okWide_struct Tryz.underlying27 (hval 1 27 v1 rfl rfl)
  obtain ⟨cs2, rfl, hcs2⟩ := okWide_struct Tryz.underlying27 (hval 2 27 v2 rfl rfl)
  obtain ⟨B3, len3, cap3, rfl⟩ := okWide_slice Tryz.underlying50 (hval 3 50 v3 rfl rfl)
  have h0k := h0
  have h1k := h1
  have h2k := h2
  have h3k := h3
  obtain ⟨fuel0, hf0⟩ := h0
  obtain ⟨fuel1, hf1⟩ := h1
  obtain ⟨fuel2, hf2⟩ := h2
  obtain ⟨fuel3, hf3⟩ := h3
  clear hA0 hval0 hA
  simp only [List.append_nil] at hW' hsz
  have hlt : ∀ x ∈ p0 ++ p1 ++ p2 ++ p3, x.block < W.heap.size := fun x hx => hW'.lt x (by simpa using hx)
  obtain ⟨pl, A, c, A2, c2, hq0, hP⟩ := read_Pl (enc := enc) (w := W) (x := (d0, p0)) hf0 (fun n hn => by
    have := List.all_eq_true.1 hsz n (DataW.weights_mem_each (j := 0) (t := 25) (d := d0) rfl rfl n hn)
    simpa using this)
  obtain ⟨m1, hq1⟩ := read_Mq (enc := enc) (w := W) (x := (d1, p1)) hf1 (fun n hn => by
    have := List.all_eq_true.1 hsz n (DataW.weights_mem_each (j := 1) (t := 27) (d := d1) rfl rfl n hn)
    simpa using this)
  obtain ⟨m2, hq2⟩ := read_Mq (enc := enc) (w := W) (x := (d2, p2)) hf2 (fun n hn => by
    have := List.all_eq_true.1 hsz n (DataW.weights_mem_each (j := 2) (t := 27) (d := d2) rfl rfl n hn)
    simpa using this)
  obtain ⟨D3, l3, e3, hq3, hS3, hlc3, hcm3⟩ := read_Iq (enc := enc) (w := W) (x := (d3, p3)) hf3 (fun n hn => by
    have := List.all_eq_true.1 hsz n (DataW.weights_mem_each (j := 3) (t := 50) (d := d3) rfl rfl n hn)
    simpa using this)
  obtain rfl : cs0 = #[.slice A pl.nodes.length c, .slice A2 pl.rails.length c2] := by
    apply Array.toList_inj.1
    simpa [Value.cells] using hq0
  obtain rfl : cs1 = #[.int .i64 m1.rail, .bool m1.last] := by
    apply Array.toList_inj.1
    unfold CE at hq1
    simpa [Value.cells] using hq1
  obtain rfl : cs2 = #[.int .i64 m2.rail, .bool m2.last] := by
    apply Array.toList_inj.1
    unfold CE at hq2
    simpa [Value.cells] using hq2
  obtain ⟨rfl, rfl, rfl⟩ : B3 = D3 ∧ len3 = l3.length ∧ cap3 = e3 := by simpa [Value.cells] using hq3
  refine (Dist_any A A2 B3 c c2 cap3 pl m1 m2 l3 W hP (hS3.more (fun _ _ h => h.1) (Nat.le_refl _)) (low_of hS3)).mono fun e W' ⟨he, hb⟩ => ?_
  subst he
  have hs : W.Since W.heap.size W' := ⟨hb.os, hb.tape, hb.output, hb.size, hb.block⟩
  have laid : laidOutB Tryz.prog = true := by kernel_rfl
  have ha0 : DataW.Trod enc Tryz.prog W' 0 (fun b => decide (b < W.heap.size)) true 25 (.agg #[.slice A pl.nodes.length c, .slice A2 pl.rails.length c2]) d0 p0 :=
    WideElems.Trod_stays laid (by kernel_rfl) (of_decide_eq_true (by kernel_rfl)) h0k (fun x hx => hs.sameAt (hlt x (by simp [hx]))) (fun x hx => by simpa using hlt x (by simp [hx]))
  have ha1 : DataW.Trod enc Tryz.prog W' 0 (fun b => decide (b < W.heap.size)) true 27 (.agg #[.int .i64 m1.rail, .bool m1.last]) d1 p1 :=
    WideElems.Trod_stays laid (by kernel_rfl) (of_decide_eq_true (by kernel_rfl)) h1k (fun x hx => hs.sameAt (hlt x (by simp [hx]))) (fun x hx => by simpa using hlt x (by simp [hx]))
  have ha2 : DataW.Trod enc Tryz.prog W' 0 (fun b => decide (b < W.heap.size)) true 27 (.agg #[.int .i64 m2.rail, .bool m2.last]) d2 p2 :=
    WideElems.Trod_stays laid (by kernel_rfl) (of_decide_eq_true (by kernel_rfl)) h2k (fun x hx => hs.sameAt (hlt x (by simp [hx]))) (fun x hx => by simpa using hlt x (by simp [hx]))
  have ha3 : DataW.Trod enc Tryz.prog W' 0 (fun b => decide (b < W.heap.size)) true 50 (.slice B3 l3.length cap3) d3 p3 :=
    WideElems.Trod_stays laid (by kernel_rfl) (of_decide_eq_true (by kernel_rfl)) h3k (fun x hx => hs.sameAt (hlt x (by simp [hx]))) (fun x hx => by simpa using hlt x (by simp [hx]))
  exact ⟨_, rfl, _, _, _, [], p0 ++ p1 ++ p2 ++ p3, [], hW', trodAll_mk1 (shut_bool Tryz.underlying4 true), by have := trodAll_mk4 ha0 ha1 ha2 ha3; (try simp only [List.append_nil, List.nil_append, ← List.append_assoc] at this); exact this, rfl, hs.frame _, fun h => by cases h⟩

theorem trackDistances_holds : Rows.TrackDistancesSaid :=
  OpenClaim.holds_of_wide 5 Tryz.f5 rfl rfl rfl rfl rfl rfl rfl ⟨rfl, rfl, rfl, rfl, rfl⟩ rfl rfl rfl rfl rfl (by kernel_rfl) Tryz.func5 (by kernel_rfl)
    (of_decide_eq_true (by kernel_rfl)) (by unfold Func.isWrapper; rw [if_neg (of_decide_eq_false (by kernel_rfl))]; exact ⟨rfl, rfl⟩)
    (fun os started H enc _ => trackDistances_lifted os started H enc)
end row

end Go.Proofs.YtcpanfpijljeaaaGreat
