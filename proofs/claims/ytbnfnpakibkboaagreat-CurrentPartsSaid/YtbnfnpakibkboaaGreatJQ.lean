/- Texts Q1 Q2 Q3. -/

namespace Go.Proofs.YtbnfnpakibkboaaGreat
set_option linter.unusedVariables false
set_option linter.unusedSimpArgs false

/-- a row's alternating sum: each column taken out in turn -/
def altS (ρ : Nat → Int) (f : List Nat → Int) : List Nat → Int
  | [] => 0
  | c :: post => ρ c * f post - altS ρ (fun l => f (c :: l)) post
/-- the determinant of rows over columns, expanded along the first row -/
def det : List (Nat → Int) → List Nat → Int
  | [], [] => 1
  | [], _ :: _ => 0
  | ρ :: rs, cs => altS ρ (det rs) cs

theorem altS_congr {ρ σ : Nat → Int} {f g : List Nat → Int} (cs : List Nat) (h : ∀ c ∈ cs, ρ c = σ c) (hf : ∀ l, f l = g l) : altS ρ f cs = altS σ g cs := by
  induction cs generalizing f g with
  | nil => rfl
  | cons c post ih =>
    have h1 := h c (by simp)
    have h2 := ih (f := fun l => f (c :: l)) (g := fun l => g (c :: l)) (fun x hx => h x (by simp [hx])) (fun l => hf _)
    unfold altS
    rw [h1, h2, hf]
theorem altS_add_row (ρ σ : Nat → Int) (k m : Int) (f : List Nat → Int) (cs : List Nat) : altS (fun c => k * ρ c + m * σ c) f cs = k * altS ρ f cs + m * altS σ f cs := by
  induction cs generalizing f with
  | nil => simp [altS]
  | cons c post ih => simp only [altS]; rw [ih]; grind
theorem altS_add_fun (ρ : Nat → Int) (k m : Int) (f g : List Nat → Int) (cs : List Nat) : altS ρ (fun l => k * f l + m * g l) cs = k * altS ρ f cs + m * altS ρ g cs := by
  induction cs generalizing f g with
  | nil => simp [altS]
  | cons c post ih => simp only [altS]; rw [ih (fun l => f (c :: l)) (fun l => g (c :: l))]; grind
theorem altS_mul_fun (ρ : Nat → Int) (k : Int) (f : List Nat → Int) (cs : List Nat) : altS ρ (fun l => k * f l) cs = k * altS ρ f cs := by
  have h := altS_add_fun ρ k 0 f (fun _ => 0) cs
  rw [← (altS_congr cs (fun _ _ => rfl) (fun l => by simp) : altS ρ (fun l => k * f l + 0 * (0 : Int)) cs = _), h]; simp
theorem altS_neg_fun (ρ : Nat → Int) (f : List Nat → Int) (cs : List Nat) : altS ρ (fun l => - f l) cs = - altS ρ f cs := by
  have h := altS_mul_fun ρ (-1) f cs
  rw [← (altS_congr cs (fun _ _ => rfl) (fun l => by simp) : altS ρ (fun l => -1 * f l) cs = _), h]; simp
theorem altS_zero_fun (ρ : Nat → Int) (f : List Nat → Int) (h : ∀ l, f l = 0) (cs : List Nat) : altS ρ f cs = 0 := by
  induction cs generalizing f with
  | nil => rfl
  | cons c post ih => simp only [altS]; rw [h, ih (fun l => f (c :: l)) (fun l => h _)]; simp
/-- two rows exchanged -/
theorem altS_swap (ρ σ : Nat → Int) (f : List Nat → Int) (cs : List Nat) : altS ρ (altS σ f) cs = - altS σ (altS ρ f) cs := by
  induction cs generalizing f with
  | nil => rfl
  | cons c post ih =>
    have e : ∀ τ υ : Nat → Int, altS τ (altS υ f) (c :: post) = τ c * altS υ f post - υ c * altS τ f post + altS τ (altS υ (fun l => f (c :: l))) post := by
      intro τ υ
      have h : altS τ (fun l => altS υ f (c :: l)) post = υ c * altS τ f post - altS τ (altS υ (fun l => f (c :: l))) post := by
        have := altS_add_fun τ (υ c) (-1) f (altS υ (fun l => f (c :: l))) post
        rw [altS_congr (g := fun l => υ c * f l + -1 * altS υ (fun l => f (c :: l)) l) post (fun _ _ => rfl) (fun l => by simp only [altS]; grind), this]; grind
      show τ c * altS υ f post - altS τ (fun l => altS υ f (c :: l)) post = _
      rw [h]; grind
    rw [e ρ σ, e σ ρ, ih (fun l => f (c :: l))]; grind

theorem det_cons (ρ : Nat → Int) (rs : List (Nat → Int)) (cs : List Nat) : det (ρ :: rs) cs = altS ρ (det rs) cs := by
  cases cs <;> rfl
theorem det_swap (ps : List (Nat → Int)) (ρ σ : Nat → Int) (rs : List (Nat → Int)) (cs : List Nat) : det (ps ++ ρ :: σ :: rs) cs = - det (ps ++ σ :: ρ :: rs) cs := by
  induction ps generalizing cs with
  | nil =>
    show det (ρ :: σ :: rs) cs = - det (σ :: ρ :: rs) cs
    rw [det_cons, det_cons]
    rw [altS_congr (g := altS σ (det rs)) cs (fun _ _ => rfl) (fun l => det_cons σ rs l), altS_congr (ρ := σ) (g := altS ρ (det rs)) cs (fun _ _ => rfl) (fun l => det_cons ρ rs l)]
    exact altS_swap ρ σ (det rs) cs
  | cons τ ps ih =>
    show det (τ :: (ps ++ ρ :: σ :: rs)) cs = - det (τ :: (ps ++ σ :: ρ :: rs)) cs
    rw [det_cons, det_cons, ← altS_neg_fun]
    exact altS_congr cs (fun _ _ => rfl) (fun l => ih l)
/-- a row that comes again -/
theorem det_again (ρ : Nat → Int) (ps rs : List (Nat → Int)) (cs : List Nat) : det (ρ :: (ps ++ ρ :: rs)) cs = 0 := by
  induction ps generalizing cs with
  | nil => have h := det_swap [] ρ ρ rs cs; simp only [List.nil_append] at h ⊢; omega
  | cons τ ps ih =>
    have h := det_swap [] ρ τ (ps ++ ρ :: rs) cs
    simp only [List.nil_append, List.cons_append] at h ⊢
    rw [h, det_cons, altS_zero_fun τ _ (fun l => ih l)]; rfl
theorem det_mem (ρ : Nat → Int) (rs : List (Nat → Int)) (h : ρ ∈ rs) (cs : List Nat) : det (ρ :: rs) cs = 0 := by
  obtain ⟨ps, qs, rfl⟩ := List.append_of_mem h
  exact det_again ρ ps qs cs
/-- a row as a sum -/
theorem det_row (ps : List (Nat → Int)) (ρ σ : Nat → Int) (k m : Int) (rs : List (Nat → Int)) (cs : List Nat) : det (ps ++ (fun c => k * ρ c + m * σ c) :: rs) cs = k * det (ps ++ ρ :: rs) cs + m * det (ps ++ σ :: rs) cs := by
  induction ps generalizing cs with
  | nil => simp only [List.nil_append]; rw [det_cons, det_cons, det_cons]; exact altS_add_row ρ σ k m (det rs) cs
  | cons τ ps ih =>
    simp only [List.cons_append]
    rw [det_cons, det_cons, det_cons, ← altS_add_fun]
    exact altS_congr cs (fun _ _ => rfl) (fun l => ih l)
/-- the first row, subtracted from all others, that are scaled -/
theorem det_pivot (ρ : Nat → Int) (p : Int) (k : (Nat → Int) → Int) (ps qs : List (Nat → Int)) (cs : List Nat) : det (ρ :: (ps ++ qs.map fun σ => fun c => p * σ c + k σ * ρ c)) cs = p ^ qs.length * det (ρ :: (ps ++ qs)) cs := by
  induction qs generalizing ps with
  | nil => simp
  | cons σ qs ih =>
    have h := det_row (ρ :: ps) σ ρ p (k σ) (qs.map fun σ => fun c => p * σ c + k σ * ρ c) cs
    have e := det_again ρ ps (qs.map fun σ => fun c => p * σ c + k σ * ρ c) cs
    have i := ih (ps ++ [σ])
    simp only [List.cons_append, List.append_assoc, List.nil_append, List.map_cons, List.length_cons] at *
    rw [h, e, i, Int.pow_succ]; grind
/-- a column of zeros -/
theorem altS_zcol (ρ : Nat → Int) (f : List Nat → Int) (c : Nat) (pre post : List Nat) (hρ : ρ c = 0) (hf : ∀ p q, f (p ++ c :: q) = 0) : altS ρ f (pre ++ c :: post) = 0 := by
  induction pre generalizing f with
  | nil => simp only [List.nil_append, altS, hρ]; rw [altS_zero_fun ρ (fun l => f (c :: l)) (fun l => hf [] l)]; simp
  | cons x pre ih => simp only [List.cons_append, altS]; rw [hf, ih (fun l => f (x :: l)) (fun p q => hf (x :: p) q)]; simp
theorem det_zcol (rs : List (Nat → Int)) (c : Nat) (h : ∀ ρ ∈ rs, ρ c = 0) (pre post : List Nat) : det rs (pre ++ c :: post) = 0 := by
  induction rs generalizing pre post with
  | nil => cases pre <;> rfl
  | cons ρ rs ih => rw [det_cons]; exact altS_zcol ρ _ c pre post (h ρ (by simp)) (fun p q => ih (fun σ hs => h σ (by simp [hs])) p q)
/-- Gauss: one step -/
theorem det_gauss (ρ : Nat → Int) (rs : List (Nat → Int)) (c : Nat) (cs : List Nat) : ρ c ^ rs.length * det (ρ :: rs) (c :: cs) = ρ c * det (rs.map fun σ => fun x => ρ c * σ x + (- σ c) * ρ x) cs := by
  have h := det_pivot ρ (ρ c) (fun σ => - σ c) [] rs (c :: cs)
  simp only [List.nil_append] at h
  rw [← h, det_cons]
  simp only [altS]
  rw [altS_zero_fun ρ _ (fun l => by
    exact det_zcol _ c (by
      intro τ ht; obtain ⟨σ, _, rfl⟩ := List.mem_map.1 ht; show ρ c * σ c + (- σ c) * ρ c = 0; grind) [] l)]
  simp
theorem altS_sum (ρ : Nat → Int) (f : List Nat → Int) (cs : List Nat) : altS ρ f cs = ((List.range cs.length).map fun i => (-1) ^ i * ((ρ ((cs[i]?).getD 0)) * f (cs.eraseIdx i))).sum := by
  induction cs generalizing f with
  | nil => rfl
  | cons c cs ih =>
    simp only [altS, List.length_cons, List.range_succ_eq_map, List.map_cons, List.map_map, List.sum_cons, ih (fun l => f (c :: l))]
    have : ((List.range cs.length).map ((fun i => (-1 : Int) ^ i * ((ρ (((c :: cs)[i]?).getD 0)) * f ((c :: cs).eraseIdx i))) ∘ Nat.succ)).sum = - ((List.range cs.length).map fun i => (-1 : Int) ^ i * ((ρ ((cs[i]?).getD 0)) * f (c :: cs.eraseIdx i))).sum := by
      generalize List.range cs.length = l
      induction l with
      | nil => rfl
      | cons x l ihl => simp only [List.map_cons, List.sum_cons, ihl, Function.comp, Nat.succ_eq_add_one, List.getElem?_cons_succ, List.eraseIdx_cons_succ, Int.pow_succ]; grind
    rw [this]; simp; omega

/-! sums over lists -/
def sumL {α : Type} (l : List α) (f : α → Int) : Int := (l.map f).sum
theorem sumL_nil {α : Type} (f : α → Int) : sumL [] f = 0 := rfl
theorem sumL_cons {α : Type} (x : α) (l : List α) (f : α → Int) : sumL (x :: l) f = f x + sumL l f := by simp [sumL]
theorem sumL_append {α : Type} (l m : List α) (f : α → Int) : sumL (l ++ m) f = sumL l f + sumL m f := by simp [sumL]
theorem sumL_congr {α : Type} {l : List α} {f g : α → Int} (h : ∀ x ∈ l, f x = g x) : sumL l f = sumL l g := by
  unfold sumL; congr 1; exact List.map_congr_left h
theorem sumL_lin {α : Type} (l : List α) (f g : α → Int) (k m : Int) : sumL l (fun x => k * f x + m * g x) = k * sumL l f + m * sumL l g := by
  induction l with
  | nil => simp [sumL]
  | cons x l ih => simp only [sumL_cons, ih]; grind
theorem sumL_add {α : Type} (l : List α) (f g : α → Int) : sumL l (fun x => f x + g x) = sumL l f + sumL l g := by
  have h := sumL_lin l f g 1 1; simp only [Int.one_mul] at h; exact h
theorem sumL_sub {α : Type} (l : List α) (f g : α → Int) : sumL l (fun x => f x - g x) = sumL l f - sumL l g := by
  have h := sumL_lin l f g 1 (-1); rw [← sumL_congr (f := fun x => 1 * f x + -1 * g x) (fun x _ => by omega), h]; omega
theorem sumL_mul {α : Type} (l : List α) (f : α → Int) (k : Int) : sumL l (fun x => k * f x) = k * sumL l f := by
  induction l with
  | nil => simp [sumL]
  | cons x l ih => simp only [sumL_cons, ih]; grind
theorem sumL_zero {α : Type} (l : List α) {f : α → Int} (h : ∀ x ∈ l, f x = 0) : sumL l f = 0 := by
  induction l with
  | nil => rfl
  | cons x l ih => rw [sumL_cons, h x (by simp), ih (fun y hy => h y (by simp [hy]))]; rfl
theorem sumL_le {α : Type} {l : List α} {f g : α → Int} (h : ∀ x ∈ l, f x ≤ g x) : sumL l f ≤ sumL l g := by
  induction l with
  | nil => exact Int.le_refl _
  | cons x l ih => rw [sumL_cons, sumL_cons]; have := h x (by simp); have := ih (fun y hy => h y (by simp [hy])); omega
theorem sumL_nonneg {α : Type} {l : List α} {f : α → Int} (h : ∀ x ∈ l, 0 ≤ f x) : 0 ≤ sumL l f := by
  have := sumL_le (f := fun _ => 0) h; rw [sumL_zero l (fun _ _ => rfl)] at this; exact this
theorem sumL_mem_le {α : Type} {l : List α} {f : α → Int} (h : ∀ x ∈ l, 0 ≤ f x) {x : α} (hx : x ∈ l) : f x ≤ sumL l f := by
  induction l with
  | nil => cases hx
  | cons y l ih =>
    rw [sumL_cons]
    have h0 := h y (by simp)
    have hn := sumL_nonneg (l := l) (f := f) (fun z hz => h z (by simp [hz]))
    cases hx with
    | head => omega
    | tail _ hx => have := ih (fun z hz => h z (by simp [hz])) hx; omega
theorem sumL_eq_zero {α : Type} {l : List α} {f : α → Int} (h : ∀ x ∈ l, 0 ≤ f x) (hs : sumL l f = 0) {x : α} (hx : x ∈ l) : f x = 0 := by
  have := sumL_mem_le h hx; have := h x hx; omega
theorem sumL_swap {α β : Type} (l : List α) (m : List β) (f : α → β → Int) : sumL l (fun x => sumL m (f x)) = sumL m (fun y => sumL l (fun x => f x y)) := by
  induction l with
  | nil => simp only [sumL_nil]; exact (sumL_zero m (fun _ _ => rfl)).symm
  | cons x l ih =>
    rw [sumL_cons, ih, ← sumL_add]
    exact sumL_congr (fun y _ => (sumL_cons x l (fun x => f x y)).symm)
theorem sumL_one {α : Type} {l : List α} (hn : l.Nodup) {f : α → Int} {x : α} (hx : x ∈ l) (h : ∀ y ∈ l, y ≠ x → f y = 0) : sumL l f = f x := by
  induction l with
  | nil => cases hx
  | cons y l ih =>
    rw [sumL_cons]
    have hy := (List.nodup_cons.1 hn)
    cases hx with
    | head => rw [sumL_zero l (fun z hz => h z (by simp [hz]) (fun e => hy.1 (e ▸ hz)))]; omega
    | tail _ hx => rw [h y (by simp) (fun e => hy.1 (e ▸ hx)), ih hy.2 hx (fun z hz => h z (by simp [hz]))]; omega

/-- a matrix whose rows are dominated by their diagonals, such that each closed set of rows gives something outside -/
structure MM (R : Nat → Nat → Int) (cs : List Nat) : Prop where
  nd : cs.Nodup
  off : ∀ i ∈ cs, ∀ j ∈ cs, i ≠ j → R i j ≤ 0
  sum : ∀ i ∈ cs, 0 ≤ sumL cs (R i)
  irr : ∀ C : Nat → Bool, (∃ i ∈ cs, C i = true) → ∃ i ∈ cs, C i = true ∧ (0 < sumL cs (R i) ∨ ∃ j ∈ cs, C j = false ∧ R i j < 0)
theorem MM.diag {R : Nat → Nat → Int} {c : Nat} {cs : List Nat} (h : MM R (c :: cs)) : 0 < R c c := by
  have hs := h.sum c (by simp)
  rw [sumL_cons] at hs
  have hn := List.nodup_cons.1 h.nd
  have ho : ∀ j ∈ cs, R c j ≤ 0 := fun j hj => h.off c (by simp) j (by simp [hj]) (fun e => hn.1 (e ▸ hj))
  have hle : sumL cs (R c) ≤ 0 := by
    have := sumL_le (l := cs) (f := R c) (g := fun _ => 0) ho; rw [sumL_zero cs (fun _ _ => rfl)] at this; exact this
  rcases Int.lt_or_le 0 (R c c) with hp | hp
  · exact hp
  exfalso
  have hz : sumL cs (R c) = 0 := by omega
  have hz' : ∀ j ∈ cs, R c j = 0 := by
    intro j hj
    have e : sumL cs (fun j => - R c j) = 0 := by rw [← sumL_congr (f := fun j => -1 * R c j) (fun x _ => by omega), sumL_mul, hz]; rfl
    have := sumL_eq_zero (l := cs) (f := fun j => - R c j) (fun j hj => by have := ho j hj; omega) e hj
    omega
  obtain ⟨i, hi, hC, hr⟩ := h.irr (fun x => x == c) ⟨c, by simp, by simp⟩
  have hic : i = c := by simpa using hC
  subst hic
  rcases hr with hr | ⟨j, hj, hjC, hneg⟩
  · rw [sumL_cons] at hr; omega
  · have : j ≠ i := by simpa using hjC
    cases hj with
    | head => exact this rfl
    | tail _ hj => have := hz' j hj; omega
/-- the matrix that a step of Gauss leaves -/
def gaussR (R : Nat → Nat → Int) (c i j : Nat) : Int := R c c * R i j + (- R i c) * R c j
theorem gaussR_sum (R : Nat → Nat → Int) (c : Nat) (cs : List Nat) (i : Nat) : sumL cs (gaussR R c i) = R c c * sumL (c :: cs) (R i) + (- R i c) * sumL (c :: cs) (R c) := by
  unfold gaussR; rw [sumL_lin, sumL_cons, sumL_cons]; grind
theorem MM.gauss {R : Nat → Nat → Int} {c : Nat} {cs : List Nat} (h : MM R (c :: cs)) : MM (gaussR R c) cs := by
  have hp := h.diag
  have hn := List.nodup_cons.1 h.nd
  have hic : ∀ i ∈ cs, R i c ≤ 0 := fun i hi => h.off i (by simp [hi]) c (by simp) (fun e => hn.1 (e ▸ hi))
  have hcj : ∀ j ∈ cs, R c j ≤ 0 := fun j hj => h.off c (by simp) j (by simp [hj]) (fun e => hn.1 (e ▸ hj))
  have hrc := h.sum c (by simp)
  refine ⟨hn.2, fun i hi j hj hij => ?_, fun i hi => ?_, fun C hC => ?_⟩
  · have a := Int.mul_nonneg (Int.le_of_lt hp) (show 0 ≤ - R i j by have := h.off i (by simp [hi]) j (by simp [hj]) hij; omega)
    have b := Int.mul_nonneg (show 0 ≤ - R i c by have := hic i hi; omega) (show 0 ≤ - R c j by have := hcj j hj; omega)
    unfold gaussR; grind
  · rw [gaussR_sum]
    have a := Int.mul_nonneg (Int.le_of_lt hp) (h.sum i (by simp [hi]))
    have b := Int.mul_nonneg (show 0 ≤ - R i c by have := hic i hi; omega) hrc
    omega
  · obtain ⟨i0, hi0, hCi0⟩ := hC
    by_cases hany : ∃ i ∈ cs, C i = true ∧ R i c < 0
    · obtain ⟨i1, hi1, hCi1, hneg1⟩ := hany
      obtain ⟨i, hi, hCi, hr⟩ := h.irr (fun x => C x || x == c) ⟨i0, by simp [hi0], by simp [hCi0]⟩
      cases hi with
      | head =>
        refine ⟨i1, hi1, hCi1, ?_⟩
        rcases hr with hr | ⟨j, hj, hjC, hneg⟩
        · left; rw [gaussR_sum]
          have a := Int.mul_nonneg (Int.le_of_lt hp) (h.sum i1 (by simp [hi1]))
          have b := Int.mul_pos (show 0 < - R i1 c by omega) hr
          omega
        · simp at hjC
          cases hj with
          | head => simp at hjC
          | tail _ hj =>
            right; refine ⟨j, hj, hjC.1, ?_⟩
            have hne : i1 ≠ j := fun e => by rw [e] at hCi1; simp [hCi1] at hjC
            have a := Int.mul_nonneg (Int.le_of_lt hp) (show 0 ≤ - R i1 j by have := h.off i1 (by simp [hi1]) j (List.mem_cons_of_mem _ hj) hne; omega)
            have b := Int.mul_pos (show 0 < - R i1 c by omega) (show 0 < - R c j by omega)
            unfold gaussR; grind
      | tail _ hi =>
        have hic' : i ≠ c := fun e => hn.1 (e ▸ hi)
        have hCi' : C i = true := by simpa [hic'] using hCi
        refine ⟨i, hi, hCi', ?_⟩
        rcases hr with hr | ⟨j, hj, hjC, hneg⟩
        · left; rw [gaussR_sum]
          have a := Int.mul_pos hp hr
          have b := Int.mul_nonneg (show 0 ≤ - R i c by have := hic i hi; omega) hrc
          omega
        · simp at hjC
          cases hj with
          | head => simp at hjC
          | tail _ hj =>
            right; refine ⟨j, hj, hjC.1, ?_⟩
            have a := Int.mul_pos hp (show 0 < - R i j by omega)
            have b := Int.mul_nonneg (show 0 ≤ - R i c by have := hic i hi; omega) (show 0 ≤ - R c j by have := hcj j hj; omega)
            unfold gaussR; grind
    · obtain ⟨i, hi, hCi, hr⟩ := h.irr (fun x => C x && x != c) ⟨i0, by simp [hi0], by have : i0 ≠ c := fun e => hn.1 (e ▸ hi0); simp [hCi0, this]⟩
      have hCi2 : C i = true ∧ i ≠ c := by simpa using hCi
      cases hi with
      | head => exact absurd rfl hCi2.2
      | tail _ hi =>
        refine ⟨i, hi, hCi2.1, ?_⟩
        have hz : R i c = 0 := by
          have := hic i hi
          rcases Int.lt_or_le (R i c) 0 with q | q
          · exact absurd ⟨i, hi, hCi2.1, q⟩ hany
          · omega
        rcases hr with hr | ⟨j, hj, hjC, hneg⟩
        · left; rw [gaussR_sum, hz]; have a := Int.mul_pos hp hr; omega
        · cases hj with
          | head => omega
          | tail _ hj =>
            have hjc : j ≠ c := fun e => hn.1 (e ▸ hj)
            have : C j = false := by simpa [hjc] using hjC
            right; refine ⟨j, hj, this, ?_⟩
            have a := Int.mul_pos hp (show 0 < - R i j by omega)
            unfold gaussR; rw [hz]; grind
theorem MM.pos {R : Nat → Nat → Int} {cs : List Nat} (h : MM R cs) : 0 < det (cs.map R) cs := by
  induction cs generalizing R with
  | nil => show (0 : Int) < 1; decide
  | cons c cs ih =>
    have hp := h.diag
    have hg := ih h.gauss
    have e := det_gauss (R c) (cs.map R) c cs
    rw [List.map_map] at e
    have e2 : ((fun σ => fun x => R c c * σ x + (- σ c) * R c x) ∘ R) = gaussR R c := by funext i j; rfl
    rw [e2] at e
    have h1 : 0 < R c c ^ (cs.map R).length := Int.pow_pos hp
    have h2 := Int.mul_pos hp hg
    rw [← e] at h2
    rw [List.map_cons]
    exact Int.pos_of_mul_pos_right h2 h1
/-- what such a matrix makes not positive is not positive -/
theorem exists_max (l : List Nat) (hl : l ≠ []) (y : Nat → Int) : ∃ m ∈ l, ∀ x ∈ l, y x ≤ y m := by
  induction l with
  | nil => exact absurd rfl hl
  | cons a l ih =>
    cases l with
    | nil => exact ⟨a, by simp, fun x hx => by simp at hx; subst hx; exact Int.le_refl _⟩
    | cons b l =>
      obtain ⟨m, hm, h⟩ := ih (by simp)
      rcases Int.lt_or_le (y m) (y a) with q | q
      · exact ⟨a, by simp, fun x hx => by cases hx with | head => exact Int.le_refl _ | tail _ hx => have := h x hx; omega⟩
      · exact ⟨m, by simp [hm], fun x hx => by cases hx with | head => exact q | tail _ hx => exact h x hx⟩
theorem MM.neg {R : Nat → Nat → Int} {cs : List Nat} (h : MM R cs) {y : Nat → Int} (hy : ∀ i ∈ cs, sumL cs (fun j => R i j * y j) ≤ 0) : ∀ j ∈ cs, y j ≤ 0 := by
  intro j0 hj0
  have hne : cs ≠ [] := by intro e; rw [e] at hj0; cases hj0
  obtain ⟨m, hm, hmax⟩ := exists_max cs hne y
  rcases Int.lt_or_le 0 (y m) with hpos | hpos
  · exfalso
    obtain ⟨i, hi, hCi, hr⟩ := h.irr (fun x => y x == y m) ⟨m, hm, by simp⟩
    have hyi : y i = y m := by simpa using hCi
    have e : sumL cs (fun j => R i j * y j) = y m * sumL cs (R i) + sumL cs (fun j => R i j * (y j - y m)) := by
      rw [← sumL_mul, ← sumL_add]; exact sumL_congr (fun x _ => by grind)
    have hq := hy i hi
    rw [e] at hq
    have hnn : ∀ j ∈ cs, 0 ≤ R i j * (y j - y m) := by
      intro j hj
      by_cases hij : i = j
      · subst hij; rw [hyi]; simp
      · have a := Int.mul_nonneg (show 0 ≤ - R i j by have := h.off i hi j hj hij; omega) (show 0 ≤ y m - y j by have := hmax j hj; omega)
        grind
    have h1 := sumL_nonneg hnn
    have h2 := Int.mul_nonneg (Int.le_of_lt hpos) (h.sum i hi)
    rcases hr with hr | ⟨j, hj, hjC, hneg⟩
    · have := Int.mul_pos hpos hr; omega
    · have hjne : y j ≠ y m := by simpa using hjC
      have := hmax j hj
      have a := Int.mul_pos (show 0 < - R i j by omega) (show 0 < y m - y j by omega)
      have b := sumL_mem_le hnn hj
      have c : R i j * (y j - y m) = - R i j * (y m - y j) := by grind
      omega
  · have := hmax j0 hj0; omega
theorem MM.inj {R : Nat → Nat → Int} {cs : List Nat} (h : MM R cs) {x y : Nat → Int} (hxy : ∀ i ∈ cs, sumL cs (fun j => R i j * x j) = sumL cs (fun j => R i j * y j)) : ∀ j ∈ cs, x j = y j := by
  intro j hj
  have a := h.neg (y := fun j => x j - y j) (fun i hi => by
    have : sumL cs (fun j => R i j * (x j - y j)) = 0 := by
      rw [sumL_congr (g := fun j => R i j * x j - R i j * y j) (fun q _ => by grind), sumL_sub, hxy i hi]; omega
    omega) j hj
  have b := h.neg (y := fun j => y j - x j) (fun i hi => by
    have : sumL cs (fun j => R i j * (y j - x j)) = 0 := by
      rw [sumL_congr (g := fun j => R i j * y j - R i j * x j) (fun q _ => by grind), sumL_sub, hxy i hi]; omega
    omega) j hj
  omega

/-- Cramer's rule: the numerators of a solution, from the columns of an augmented matrix -/
def cramN (A : Nat → Nat → Int) (n k : Nat) : Int := (-1) ^ (n - 1 - k) * det ((List.range n).map A) ((List.range (n + 1)).eraseIdx k)
def cramD (A : Nat → Nat → Int) (n : Nat) : Int := det ((List.range n).map A) (List.range n)
theorem neg_pow_two (k : Nat) : ((-1 : Int) ^ k) * (-1) ^ k = 1 := by
  rw [← Int.mul_pow]; simp [Int.one_pow]
theorem range_erase_last (n : Nat) : (List.range (n + 1)).eraseIdx n = List.range n := by
  rw [List.range_succ, List.eraseIdx_append_of_length_le (by simp)]; simp
theorem cramer (A : Nat → Nat → Int) (n : Nat) (i : Nat) (hi : i < n) : sumL (List.range n) (fun k => A i k * cramN A n k) = cramD A n * A i n := by
  have h0 : det (A i :: (List.range n).map A) (List.range (n + 1)) = 0 := det_mem _ _ (List.mem_map.2 ⟨i, List.mem_range.2 hi, rfl⟩) _
  rw [det_cons, altS_sum] at h0
  simp only [List.length_range] at h0
  rw [List.range_succ (n := n), List.map_append, List.sum_append] at h0
  simp only [List.map_cons, List.map_nil, List.sum_cons, List.sum_nil, ← List.range_succ, range_erase_last] at h0
  have e1 : ((List.range (n + 1))[n]?).getD 0 = n := by simp
  rw [e1] at h0
  have e2 : ((List.range n).map fun k => (-1 : Int) ^ k * (A i (((List.range (n + 1))[k]?).getD 0) * det ((List.range n).map A) ((List.range (n + 1)).eraseIdx k))).sum = (-1) ^ (n - 1) * sumL (List.range n) (fun k => A i k * cramN A n k) := by
    rw [← sumL_mul]; unfold sumL
    congr 1
    apply List.map_congr_left
    intro k hk
    have hk' := List.mem_range.1 hk
    have e3 : ((List.range (n + 1))[k]?).getD 0 = k := by rw [List.getElem?_range (by omega)]; rfl
    rw [e3]; unfold cramN
    have e4 : (-1 : Int) ^ (n - 1) = (-1) ^ k * (-1) ^ (n - 1 - k) := by rw [← Int.pow_add]; congr 1; omega
    have e5 := neg_pow_two (n - 1 - k)
    rw [e4]
    generalize (-1 : Int) ^ (n - 1 - k) = s at e5 ⊢
    generalize (-1 : Int) ^ k = r
    generalize det _ _ = d
    have : r * s * (A i k * (s * d)) = r * (A i k * d) * (s * s) := by grind
    rw [this, e5]; grind
  rw [e2] at h0
  have e6 : (-1 : Int) ^ n = - (-1) ^ (n - 1) := by
    have : n = (n - 1) + 1 := by omega
    rw [this, Int.pow_succ]; simp
  have e7 := neg_pow_two (n - 1)
  unfold cramD
  rw [e6] at h0
  generalize (-1 : Int) ^ (n - 1) = s at h0 e7
  generalize sumL _ _ = u at h0 ⊢
  generalize det _ _ = d at h0 ⊢
  have : s * (s * u + (- s * (A i n * d) + 0)) = 0 := by rw [h0]; simp
  have e8 : s * (s * u + (- s * (A i n * d) + 0)) = (s * s) * (u - A i n * d) := by grind
  rw [e8, e7] at this
  have : u = A i n * d := by omega
  rw [this, Int.mul_comm]
/-- bounds -/
def absL (l : List Nat) (ρ : Nat → Int) : Int := sumL l (fun c => (ρ c).natAbs)
theorem abs_mul_le {a b M : Int} (h : (b.natAbs : Int) ≤ M) : ((a * b).natAbs : Int) ≤ a.natAbs * M := by
  rw [Int.natAbs_mul]; push_cast; exact Int.mul_le_mul_of_nonneg_left h (Int.natCast_nonneg _)
theorem altS_bound (ρ : Nat → Int) (f : List Nat → Int) (cs : List Nat) (M : Nat → Int) (h : ∀ pre c post, cs = pre ++ c :: post → ((f (pre ++ post)).natAbs : Int) ≤ M c) : ((altS ρ f cs).natAbs : Int) ≤ sumL cs (fun c => (ρ c).natAbs * M c) := by
  induction cs generalizing f with
  | nil => simp [altS, sumL]
  | cons c cs ih =>
    simp only [altS, sumL_cons]
    have a := abs_mul_le (a := ρ c) (h [] c cs rfl)
    have b := ih (fun l => f (c :: l)) (fun pre d post e => h (c :: pre) d post (by rw [e]; rfl))
    simp only [List.nil_append] at a
    omega

theorem sumL_mul_right {α : Type} (l : List α) (f : α → Int) (k : Int) : sumL l (fun x => f x * k) = sumL l f * k := by
  rw [sumL_congr (g := fun x => k * f x) (fun x _ => Int.mul_comm _ _), sumL_mul, Int.mul_comm]
/-- minors of rows whose entries outside of one column are few -/
theorem det_bound (z : Nat) (B β : Int) (hB : 1 ≤ B) (hβ : 0 ≤ β) (rs : List (Nat → Int)) (cs : List Nat) (hn : cs.Nodup) (h : ∀ ρ ∈ rs, absL (cs.filter (fun c => c != z)) ρ ≤ B ∧ ((ρ z).natAbs : Int) ≤ β) :
    ((det rs cs).natAbs : Int) ≤ (if z ∈ cs then rs.length * β * B ^ (rs.length - 1) else B ^ rs.length) := by
  induction rs generalizing cs with
  | nil =>
    cases cs with
    | nil => simp [det]
    | cons c cs => simp only [det, List.length_nil]; split <;> simp
  | cons ρ rs ih =>
    rw [det_cons]
    have hp : ∀ k : Nat, 0 ≤ B ^ k := fun k => Int.pow_nonneg (by omega)
    have hnn : 0 ≤ (rs.length : Int) * β * B ^ (rs.length - 1) := Int.mul_nonneg (Int.mul_nonneg (Int.natCast_nonneg _) hβ) (hp _)
    have sub : ∀ pre c post, cs = pre ++ c :: post → ((det rs (pre ++ post)).natAbs : Int) ≤ (if z ∈ pre ++ post then rs.length * β * B ^ (rs.length - 1) else B ^ rs.length) := by
      intro pre c post e
      have hsub : (pre ++ post).Sublist cs := by rw [e]; exact List.Sublist.append (List.Sublist.refl _) (List.sublist_cons_self _ _)
      refine ih _ (hn.sublist hsub) (fun σ hs => ⟨?_, (h σ (by simp [hs])).2⟩)
      refine Int.le_trans ?_ (h σ (by simp [hs])).1
      rw [e, List.filter_append, List.filter_append]
      unfold absL
      rw [sumL_append, sumL_append, List.filter_cons]
      split
      · rw [sumL_cons]; have := Int.natCast_nonneg ((σ c).natAbs); omega
      · exact Int.le_refl _
    have hρ := h ρ (by simp)
    by_cases hz : z ∈ cs
    · rw [if_pos hz]
      have hb := altS_bound ρ (det rs) cs (fun c => if c = z then B ^ rs.length else rs.length * β * B ^ (rs.length - 1)) (fun pre c post e => by
        have := sub pre c post e
        have hzn : z ∈ pre ++ post ↔ c ≠ z := by
          rw [e] at hn hz
          have h1 := (List.perm_middle.nodup_iff).1 hn
          have h2 := List.nodup_cons.1 h1
          constructor
          · intro hm hc; subst hc; exact h2.1 hm
          · intro hc
            have := List.perm_middle.mem_iff.1 hz
            cases this with
            | head => exact absurd rfl hc
            | tail _ q => exact q
        by_cases hc : c = z
        · rw [if_neg (by rw [hzn]; simp [hc])] at this; rw [if_pos hc]; exact this
        · rw [if_pos (hzn.2 hc)] at this; rw [if_neg hc]; exact this)
      refine Int.le_trans hb ?_
      have e1 : sumL cs (fun c => ((ρ c).natAbs : Int) * (if c = z then B ^ rs.length else rs.length * β * B ^ (rs.length - 1))) = ((ρ z).natAbs : Int) * B ^ rs.length + absL (cs.filter (fun c => c != z)) ρ * (rs.length * β * B ^ (rs.length - 1)) := by
        have ex : ∀ l : List Nat, l.Nodup → z ∈ l → sumL l (fun c => ((ρ c).natAbs : Int) * (if c = z then B ^ rs.length else rs.length * β * B ^ (rs.length - 1))) = ((ρ z).natAbs : Int) * B ^ rs.length + absL (l.filter (fun c => c != z)) ρ * (rs.length * β * B ^ (rs.length - 1)) := by
          have ey : ∀ l : List Nat, z ∉ l → sumL l (fun c => ((ρ c).natAbs : Int) * (if c = z then B ^ rs.length else rs.length * β * B ^ (rs.length - 1))) = absL (l.filter (fun c => c != z)) ρ * (rs.length * β * B ^ (rs.length - 1)) := by
            intro l hl
            have hf : l.filter (fun c => c != z) = l := List.filter_eq_self.2 (fun x hx => by simp; exact fun e => hl (e ▸ hx))
            rw [hf]; unfold absL; rw [← sumL_mul_right]
            refine sumL_congr (fun x hx => ?_)
            have hxz : ¬ x = z := fun e => hl (e ▸ hx)
            rw [if_neg hxz]
          intro l hln hl
          induction l with
          | nil => cases hl
          | cons x l ih =>
            have hxn := List.nodup_cons.1 hln
            rw [sumL_cons, List.filter_cons]
            by_cases hx : x = z
            · subst hx; rw [if_pos rfl, ey l hxn.1]; simp
            · have hl' : z ∈ l := by cases hl with | head => exact absurd rfl hx | tail _ q => exact q
              rw [if_neg hx, ih hxn.2 hl', if_pos (by simp [hx])]
              have e : absL (x :: l.filter (fun c => c != z)) ρ = ((ρ x).natAbs : Int) + absL (l.filter (fun c => c != z)) ρ := by unfold absL; rw [sumL_cons]
              rw [e]; grind
        exact ex cs hn hz
      rw [e1]
      have a := Int.mul_le_mul_of_nonneg_right hρ.2 (hp rs.length)
      have b := Int.mul_le_mul_of_nonneg_right hρ.1 hnn
      refine Int.le_trans (Int.add_le_add a b) ?_
      rw [List.length_cons]
      simp only [Nat.add_sub_cancel]
      rcases Nat.eq_zero_or_pos rs.length with hl0 | hl0
      · rw [hl0]; simp
      · have : B ^ rs.length = B * B ^ (rs.length - 1) := by rw [← Int.pow_succ']; congr 1; omega
        rw [this]; push_cast; grind
    · rw [if_neg hz]
      have hf : cs.filter (fun c => c != z) = cs := List.filter_eq_self.2 (fun x hx => by simp; exact fun e => hz (e ▸ hx))
      rw [hf] at hρ
      have hb := altS_bound ρ (det rs) cs (fun _ => B ^ rs.length) (fun pre c post e => by
        have := sub pre c post e
        rw [if_neg (fun hm => hz (by rw [e]; rcases List.mem_append.1 hm with q | q; exact List.mem_append.2 (Or.inl q); exact List.mem_append.2 (Or.inr (List.mem_cons_of_mem _ q))))] at this
        exact this)
      refine Int.le_trans hb ?_
      rw [sumL_mul_right]
      have a := Int.mul_le_mul_of_nonneg_right hρ.1 (hp rs.length)
      rw [List.length_cons, Int.pow_succ']
      exact a

theorem absL_sub {l m : List Nat} (h : l.Sublist m) (ρ : Nat → Int) : absL l ρ ≤ absL m ρ := by
  unfold absL
  induction h with
  | slnil => exact Int.le_refl _
  | cons a _ ih => rw [sumL_cons]; have := Int.natCast_nonneg ((ρ a).natAbs); omega
  | cons_cons a _ ih => rw [sumL_cons, sumL_cons]; omega
/-- the numbers that occur: at most ten rows -/
theorem det_small (rs : List (Nat → Int)) (n z : Nat) (hr : rs.length ≤ 10) (cs : List Nat) (hs : cs.Sublist (List.range (n + 1))) (h : ∀ ρ ∈ rs, absL ((List.range (n + 1)).filter (fun c => c != z)) ρ ≤ 28 ∧ ((ρ z).natAbs : Int) ≤ 4040) :
    ((det rs cs).natAbs : Int) ≤ (if z ∈ cs then 430000000000000000 else 300000000000000) := by
  have hb := det_bound z 28 4040 (by decide) (by decide) rs cs (List.Nodup.sublist hs List.nodup_range) (fun ρ hρ => ⟨Int.le_trans (absL_sub (hs.filter _) ρ) (h ρ hρ).1, (h ρ hρ).2⟩)
  refine Int.le_trans hb ?_
  have hc : ∀ k : Nat, k ≤ 10 → (28 : Int) ^ k ≤ 300000000000000 ∧ (k : Int) * 4040 * 28 ^ (k - 1) ≤ 430000000000000000 := by decide
  have := hc rs.length hr
  split <;> omega
end Go.Proofs.YtbnfnpakibkboaaGreat

namespace Go.Proofs.YtbnfnpakibkboaaGreat
set_option linter.unusedVariables false
set_option linter.unusedSimpArgs false


/-- a wire of a part: the places of its nodes in the part, its conductance -/
structure Wi where
  a : Nat
  b : Nat
  s : Int
/-- a feeder of a part: its place, its voltage, its conductance -/
structure Fe where
  k : Nat
  volt : Int
  siem : Int
def dl (i a : Nat) : Int := if i = a then 1 else 0
theorem dl_self (i : Nat) : dl i i = 1 := by simp [dl]
theorem dl_ne {i a : Nat} (h : i ≠ a) : dl i a = 0 := by simp [dl, h]
/-- the matrix of conductances -/
def lapl (ws : List Wi) (i j : Nat) : Int := sumL ws fun w => w.s * ((dl i w.a - dl i w.b) * (dl j w.a - dl j w.b))
structure CirOk (n : Nat) (ws : List Wi) : Prop where
  n1 : 1 ≤ n
  w : ∀ w ∈ ws, w.a < n ∧ w.b < n ∧ w.a ≠ w.b ∧ 1 ≤ w.s ∧ w.s ≤ 4
  deg : ∀ i, i < n → (ws.filter (fun w => w.a == i || w.b == i)).length ≤ 3
  conn : ∀ C : Nat → Bool, (∃ i, i < n ∧ C i = true) → (∃ j, j < n ∧ C j = false) → ∃ w ∈ ws, C w.a ≠ C w.b
structure FeOk (n : Nat) (fs : List Fe) : Prop where
  f : ∀ f ∈ fs, f.k < n ∧ 1 ≤ f.volt ∧ f.volt ≤ 1000 ∧ 1 ≤ f.siem ∧ f.siem ≤ 4
  nd : fs.Pairwise (fun f g => f.k ≠ g.k)
theorem FeOk.filter {n : Nat} {fs : List Fe} (h : FeOk n fs) (p : Fe → Bool) : FeOk n (fs.filter p) :=
  ⟨fun f hf => h.f f (List.mem_filter.1 hf).1, h.nd.filter p⟩
theorem lapl_sym (ws : List Wi) (i j : Nat) : lapl ws i j = lapl ws j i := sumL_congr (fun w _ => by grind)
theorem lapl_off {n : Nat} {ws : List Wi} (h : CirOk n ws) {i j : Nat} (hij : i ≠ j) : lapl ws i j ≤ 0 := by
  unfold lapl
  have := sumL_le (l := ws) (f := fun w => w.s * ((dl i w.a - dl i w.b) * (dl j w.a - dl j w.b))) (g := fun _ => 0) (fun w hw => by
    obtain ⟨_, _, hab, hs, _⟩ := h.w w hw
    have hp : (dl i w.a - dl i w.b) * (dl j w.a - dl j w.b) ≤ 0 := by
      unfold dl
      split <;> split <;> split <;> split <;> first | omega | simp
    have := Int.mul_nonneg (show 0 ≤ w.s by omega) (show 0 ≤ - ((dl i w.a - dl i w.b) * (dl j w.a - dl j w.b)) by omega)
    grind)
  rw [sumL_zero ws (fun _ _ => rfl)] at this; exact this
theorem lapl_cross {n : Nat} {ws : List Wi} (h : CirOk n ws) {w : Wi} (hw : w ∈ ws) : lapl ws w.a w.b < 0 := by
  obtain ⟨_, _, hab, hs, _⟩ := h.w w hw
  have hnn : ∀ u ∈ ws, 0 ≤ - (u.s * ((dl w.a u.a - dl w.a u.b) * (dl w.b u.a - dl w.b u.b))) := fun u hu => by
    obtain ⟨_, _, huab, hus, _⟩ := h.w u hu
    have hp : (dl w.a u.a - dl w.a u.b) * (dl w.b u.a - dl w.b u.b) ≤ 0 := by
      unfold dl
      split <;> split <;> split <;> split <;> first | omega | simp
    have := Int.mul_nonneg (show 0 ≤ u.s by omega) (show 0 ≤ - ((dl w.a u.a - dl w.a u.b) * (dl w.b u.a - dl w.b u.b)) by omega)
    grind
  have hm := sumL_mem_le (l := ws) (f := fun u => - (u.s * ((dl w.a u.a - dl w.a u.b) * (dl w.b u.a - dl w.b u.b)))) hnn hw
  have e : sumL ws (fun u => - (u.s * ((dl w.a u.a - dl w.a u.b) * (dl w.b u.a - dl w.b u.b)))) = - lapl ws w.a w.b := by
    unfold lapl; rw [sumL_congr (g := fun u => -1 * (u.s * ((dl w.a u.a - dl w.a u.b) * (dl w.b u.a - dl w.b u.b)))) (fun u _ => by omega), sumL_mul]; omega
  rw [e] at hm
  rw [dl_self, dl_self, dl_ne hab, dl_ne (Ne.symm hab)] at hm
  omega
theorem sum_dl (n a : Nat) (ha : a < n) (y : Nat → Int) : sumL (List.range n) (fun j => dl j a * y j) = y a := by
  rw [sumL_one List.nodup_range (List.mem_range.2 ha) (fun j _ hj => by rw [dl_ne hj]; simp), dl_self]; simp
/-- a row of conductances over voltages -/
theorem lapl_row {n : Nat} {ws : List Wi} (h : CirOk n ws) (i : Nat) (y : Nat → Int) : sumL (List.range n) (fun j => lapl ws i j * y j) = sumL ws (fun w => w.s * ((dl i w.a - dl i w.b) * (y w.a - y w.b))) := by
  have e : sumL (List.range n) (fun j => lapl ws i j * y j) = sumL (List.range n) (fun j => sumL ws (fun w => w.s * (dl i w.a - dl i w.b) * (dl j w.a * y j - dl j w.b * y j))) := by
    refine sumL_congr (fun j _ => ?_)
    unfold lapl; rw [← sumL_mul_right]; exact sumL_congr (fun w _ => by grind)
  rw [e, sumL_swap]
  refine sumL_congr (fun w hw => ?_)
  obtain ⟨ha, hb, _⟩ := h.w w hw
  rw [sumL_mul, sumL_sub, sum_dl n w.a ha, sum_dl n w.b hb]; grind
theorem lapl_row0 {n : Nat} {ws : List Wi} (h : CirOk n ws) (i : Nat) : sumL (List.range n) (lapl ws i) = 0 := by
  have := lapl_row h i (fun _ => 1)
  rw [sumL_congr (g := lapl ws i) (fun j _ => by simp)] at this
  rw [this]; exact sumL_zero ws (fun w _ => by simp)
/-- the sum of all rows is nothing -/
theorem lapl_all {n : Nat} {ws : List Wi} (h : CirOk n ws) (y : Nat → Int) : sumL (List.range n) (fun i => sumL (List.range n) (fun j => lapl ws i j * y j)) = 0 := by
  rw [sumL_swap]
  refine sumL_zero _ (fun j _ => ?_)
  rw [sumL_mul_right, sumL_congr (g := lapl ws j) (fun i _ => lapl_sym ws i j), lapl_row0 h]; simp
/-- the entries of a row, without signs -/
theorem abs_sumL_le {α : Type} (l : List α) (f : α → Int) : ((sumL l f).natAbs : Int) ≤ sumL l (fun x => ((f x).natAbs : Int)) := by
  induction l with
  | nil => simp [sumL]
  | cons x l ih => rw [sumL_cons, sumL_cons]; omega
theorem sum_dl1 (n a : Nat) : sumL (List.range n) (fun j => dl j a) ≤ 1 ∧ 0 ≤ sumL (List.range n) (fun j => dl j a) := by
  by_cases ha : a < n
  · have := sum_dl n a ha (fun _ => 1)
    rw [sumL_congr (g := fun j => dl j a) (fun j _ => by simp)] at this; omega
  · have : sumL (List.range n) (fun j => dl j a) = 0 := sumL_zero _ (fun j hj => by have := List.mem_range.1 hj; exact dl_ne (by omega))
    omega
theorem lapl_abs {n : Nat} {ws : List Wi} (h : CirOk n ws) {i : Nat} (hi : i < n) : absL (List.range n) (lapl ws i) ≤ 24 := by
  unfold absL
  have h1 : sumL (List.range n) (fun j => ((lapl ws i j).natAbs : Int)) ≤ sumL (List.range n) (fun j => sumL ws (fun w => ((w.s * ((dl i w.a - dl i w.b) * (dl j w.a - dl j w.b))).natAbs : Int))) := sumL_le (fun j _ => abs_sumL_le _ _)
  rw [sumL_swap] at h1
  refine Int.le_trans h1 ?_
  have h2 : sumL ws (fun w => sumL (List.range n) (fun j => ((w.s * ((dl i w.a - dl i w.b) * (dl j w.a - dl j w.b))).natAbs : Int))) ≤ sumL ws (fun w => if w.a == i || w.b == i then 8 else 0) := by
    refine sumL_le (fun w hw => ?_)
    obtain ⟨ha, hb, hab, hs, hs4⟩ := h.w w hw
    by_cases hin : w.a = i ∨ w.b = i
    · have e : (w.a == i || w.b == i) = true := by simpa using hin
      rw [e]; simp only [if_true]
      have h3 : sumL (List.range n) (fun j => ((w.s * ((dl i w.a - dl i w.b) * (dl j w.a - dl j w.b))).natAbs : Int)) ≤ sumL (List.range n) (fun j => w.s * dl j w.a + w.s * dl j w.b) := by
        refine sumL_le (fun j _ => ?_)
        have hd : dl i w.a - dl i w.b = 1 ∨ dl i w.a - dl i w.b = -1 := by
          unfold dl; rcases hin with q | q
          · left; rw [if_pos q.symm, if_neg (fun e => hab (q.trans e))]; rfl
          · right; rw [if_neg (fun e => hab (e.symm.trans q.symm)), if_pos q.symm]; rfl
        have hj : ∀ x : Nat, dl j x = 0 ∨ dl j x = 1 := fun x => by unfold dl; split <;> simp
        rcases hd with q | q <;> rcases hj w.a with p | p <;> rcases hj w.b with r | r <;> rw [q, p, r] <;> simp <;> omega
      refine Int.le_trans h3 ?_
      rw [sumL_add, sumL_mul, sumL_mul]
      have p := sum_dl1 n w.a; have q := sum_dl1 n w.b
      have p1 := Int.mul_le_mul_of_nonneg_left p.1 (show 0 ≤ w.s by omega)
      have q1 := Int.mul_le_mul_of_nonneg_left q.1 (show 0 ≤ w.s by omega)
      omega
    · have e : (w.a == i || w.b == i) = false := by simpa using hin
      rw [e]
      have : dl i w.a - dl i w.b = 0 := by
        rw [dl_ne (fun e => hin (Or.inl e.symm)), dl_ne (fun e => hin (Or.inr e.symm))]; rfl
      rw [sumL_zero _ (fun j _ => by rw [this]; simp)]; simp
  refine Int.le_trans h2 ?_
  have h3 : sumL ws (fun w => if w.a == i || w.b == i then (8 : Int) else 0) = 8 * (ws.filter (fun w => w.a == i || w.b == i)).length := by
    clear h1 h2 h hi
    induction ws with
    | nil => rfl
    | cons w ws ih =>
      rw [sumL_cons, List.filter_cons, ih]
      split
      · rw [List.length_cons]; omega
      · omega
  rw [h3]
  have := h.deg i hi
  omega
def fsum (gs : List Fe) (i : Nat) : Int := sumL gs fun f => if f.k = i then f.siem else 0
def fvol (gs : List Fe) (i : Nat) : Int := sumL gs fun f => if f.k = i then f.siem * f.volt else 0
/-- the equations of a part if these feeders give current; the right side is the column n -/
def augF (n : Nat) (ws : List Wi) (tk : Nat → Int) (gs : List Fe) (i j : Nat) : Int := if j = n then - tk i + fvol gs i else lapl ws i j + (if i = j then fsum gs i else 0)
/-- the equations of a part in which one feeder holds its voltage -/
def augT (n : Nat) (ws : List Wi) (tk : Nat → Int) (f : Fe) (i j : Nat) : Int := if i = f.k then (if j = n then f.volt else dl j f.k) else (if j = n then - tk i else lapl ws i j)
theorem fsum_nonneg {n : Nat} {gs : List Fe} (h : FeOk n gs) (i : Nat) : 0 ≤ fsum gs i := sumL_nonneg (fun f hf => by obtain ⟨_, _, _, hs, _⟩ := h.f f hf; split <;> omega)
theorem fsum_mem {n : Nat} {gs : List Fe} (h : FeOk n gs) {f : Fe} (hf : f ∈ gs) : 0 < fsum gs f.k := by
  have := sumL_mem_le (l := gs) (f := fun g => if g.k = f.k then g.siem else 0) (fun g hg => by obtain ⟨_, _, _, hs, _⟩ := h.f g hg; split <;> omega) hf
  obtain ⟨_, _, _, hs, _⟩ := h.f f hf
  simp only [if_pos] at this
  unfold fsum; omega
theorem augF_lt {n i j : Nat} (ws : List Wi) (tk : Nat → Int) (gs : List Fe) (h : j < n) : augF n ws tk gs i j = lapl ws i j + (if i = j then fsum gs i else 0) := by unfold augF; rw [if_neg (by omega)]
theorem augT_lt {n i j : Nat} (ws : List Wi) (tk : Nat → Int) (f : Fe) (h : j < n) : augT n ws tk f i j = if i = f.k then dl j f.k else lapl ws i j := by
  have e : ¬ j = n := by omega
  unfold augT; simp only [e, if_false]
theorem augF_row {n : Nat} {ws : List Wi} (h : CirOk n ws) (tk : Nat → Int) (gs : List Fe) {i : Nat} (hi : i < n) (y : Nat → Int) : sumL (List.range n) (fun j => augF n ws tk gs i j * y j) = sumL (List.range n) (fun j => lapl ws i j * y j) + fsum gs i * y i := by
  rw [sumL_congr (g := fun j => lapl ws i j * y j + (if i = j then fsum gs i else 0) * y j) (fun j hj => by rw [augF_lt _ _ _ (List.mem_range.1 hj)]; grind), sumL_add]
  congr 1
  rw [sumL_one (x := i) List.nodup_range (List.mem_range.2 hi) (fun j _ hj => by rw [if_neg (Ne.symm hj)]; simp), if_pos rfl]
theorem augF_mm {n : Nat} {ws : List Wi} (h : CirOk n ws) (tk : Nat → Int) {gs : List Fe} (hg : FeOk n gs) (hne : gs ≠ []) : MM (augF n ws tk gs) (List.range n) := by
  have hrow : ∀ i, i < n → sumL (List.range n) (augF n ws tk gs i) = fsum gs i := fun i hi => by
    have := augF_row h tk gs hi (fun _ => 1)
    rw [sumL_congr (f := fun j => augF n ws tk gs i j * 1) (g := augF n ws tk gs i) (fun j _ => Int.mul_one _), sumL_congr (f := fun j => lapl ws i j * 1) (g := lapl ws i) (fun j _ => Int.mul_one _), lapl_row0 h] at this
    rw [this]; omega
  refine ⟨List.nodup_range, fun i hi j hj hij => ?_, fun i hi => ?_, fun C hC => ?_⟩
  · rw [augF_lt _ _ _ (List.mem_range.1 hj), if_neg hij]; have := lapl_off h hij; omega
  · rw [hrow i (List.mem_range.1 hi)]; exact fsum_nonneg hg i
  · obtain ⟨i0, hi0, hC0⟩ := hC
    by_cases hall : ∃ j, j < n ∧ C j = false
    · obtain ⟨w, hw, hCw⟩ := h.conn C ⟨i0, List.mem_range.1 hi0, hC0⟩ hall
      obtain ⟨ha, hb, hab, _⟩ := h.w w hw
      have hx := lapl_cross h hw
      cases hwa : C w.a with
      | true => exact ⟨w.a, List.mem_range.2 ha, hwa, Or.inr ⟨w.b, List.mem_range.2 hb, by cases hq : C w.b with | false => rfl | true => exact absurd (by rw [hwa, hq]) hCw, by rw [augF_lt _ _ _ hb, if_neg hab]; omega⟩⟩
      | false =>
        have hwb : C w.b = true := by cases hq : C w.b with | true => rfl | false => exact absurd (by rw [hwa, hq]) hCw
        exact ⟨w.b, List.mem_range.2 hb, hwb, Or.inr ⟨w.a, List.mem_range.2 ha, hwa, by rw [augF_lt _ _ _ ha, if_neg (Ne.symm hab), lapl_sym]; omega⟩⟩
    · obtain ⟨f, fs, rfl⟩ : ∃ f fs, gs = f :: fs := by cases gs with | nil => exact absurd rfl hne | cons f fs => exact ⟨f, fs, rfl⟩
      have hf := hg.f f (by simp)
      refine ⟨f.k, List.mem_range.2 hf.1, ?_, Or.inl ?_⟩
      · cases hq : C f.k with | true => rfl | false => exact absurd ⟨f.k, hf.1, hq⟩ hall
      · rw [hrow _ hf.1]; exact fsum_mem hg (by simp)
theorem augT_row {n : Nat} {ws : List Wi} (h : CirOk n ws) (tk : Nat → Int) {f : Fe} (hf : f.k < n) {i : Nat} (hi : i < n) (y : Nat → Int) : sumL (List.range n) (fun j => augT n ws tk f i j * y j) = if i = f.k then y f.k else sumL (List.range n) (fun j => lapl ws i j * y j) := by
  by_cases e : i = f.k
  · rw [if_pos e, sumL_congr (g := fun j => dl j f.k * y j) (fun j hj => by rw [augT_lt _ _ _ (List.mem_range.1 hj), if_pos e]), sum_dl n f.k hf]
  · rw [if_neg e]; exact sumL_congr (fun j hj => by rw [augT_lt _ _ _ (List.mem_range.1 hj), if_neg e])
theorem augT_mm {n : Nat} {ws : List Wi} (h : CirOk n ws) (tk : Nat → Int) {f : Fe} (hf : f.k < n) : MM (augT n ws tk f) (List.range n) := by
  have hrow : ∀ i, i < n → sumL (List.range n) (augT n ws tk f i) = if i = f.k then 1 else 0 := fun i hi => by
    have := augT_row h tk hf hi (fun _ => 1)
    rw [sumL_congr (f := fun j => augT n ws tk f i j * 1) (g := augT n ws tk f i) (fun j _ => Int.mul_one _), sumL_congr (f := fun j => lapl ws i j * 1) (g := lapl ws i) (fun j _ => Int.mul_one _), lapl_row0 h] at this
    exact this
  refine ⟨List.nodup_range, fun i hi j hj hij => ?_, fun i hi => ?_, fun C hC => ?_⟩
  · rw [augT_lt _ _ _ (List.mem_range.1 hj)]; split
    · rename_i e; rw [dl_ne (by omega)]; omega
    · exact lapl_off h hij
  · rw [hrow i (List.mem_range.1 hi)]; split <;> omega
  · obtain ⟨i0, hi0, hC0⟩ := hC
    cases hfC : C f.k with
    | true => exact ⟨f.k, List.mem_range.2 hf, hfC, Or.inl (by rw [hrow _ hf, if_pos rfl]; omega)⟩
    | false =>
      obtain ⟨w, hw, hCw⟩ := h.conn C ⟨i0, List.mem_range.1 hi0, hC0⟩ ⟨f.k, hf, hfC⟩
      obtain ⟨ha, hb, hab, _⟩ := h.w w hw
      have hx := lapl_cross h hw
      cases hwa : C w.a with
      | true => exact ⟨w.a, List.mem_range.2 ha, hwa, Or.inr ⟨w.b, List.mem_range.2 hb, by cases hq : C w.b with | false => rfl | true => exact absurd (by rw [hwa, hq]) hCw, by rw [augT_lt _ _ _ hb, if_neg (fun e => by rw [e, hfC] at hwa; cases hwa)]; omega⟩⟩
      | false =>
        have hwb : C w.b = true := by cases hq : C w.b with | true => rfl | false => exact absurd (by rw [hwa, hq]) hCw
        exact ⟨w.b, List.mem_range.2 hb, hwb, Or.inr ⟨w.a, List.mem_range.2 ha, hwa, by rw [augT_lt _ _ _ ha, if_neg (fun e => by rw [e, hfC] at hwb; cases hwb), lapl_sym]; omega⟩⟩

/-- what feeders give at a node, by numerators and a denominator; flowP: what would be taken back is nothing -/
def flow (gs : List Fe) (v : Nat → Int) (d : Int) (i : Nat) : Int := sumL gs fun f => if f.k = i then f.siem * (f.volt * d - v f.k) else 0
def flowP (fs : List Fe) (v : Nat → Int) (d : Int) (i : Nat) : Int := sumL fs fun f => if f.k = i then f.siem * max 0 (f.volt * d - v f.k) else 0
theorem flow_is (gs : List Fe) (v : Nat → Int) (d : Int) (i : Nat) : flow gs v d i = d * fvol gs i - fsum gs i * v i := by
  unfold flow fvol fsum
  rw [← sumL_mul, ← sumL_mul_right, ← sumL_sub]
  refine sumL_congr (fun f _ => ?_)
  split
  · rename_i e; rw [e]; grind
  · simp
theorem sum_at {n : Nat} {gs : List Fe} (hg : FeOk n gs) (F : Fe → Int) : sumL (List.range n) (fun i => sumL gs (fun f => if f.k = i then F f else 0)) = sumL gs F := by
  rw [sumL_swap]
  refine sumL_congr (fun f hf => ?_)
  rw [sumL_one (x := f.k) List.nodup_range (List.mem_range.2 (hg.f f hf).1) (fun j _ hj => if_neg (Ne.symm hj)), if_pos rfl]
/-- voltages: what flows into the wires at each node is what its feeders give, less what is taken -/
structure SolF (n : Nat) (ws : List Wi) (tk : Nat → Int) (fs : List Fe) (v : Nat → Int) (d : Int) : Prop where
  pos : 0 < d
  eq : ∀ i, i < n → sumL (List.range n) (fun j => lapl ws i j * v j) = flowP fs v d i - d * tk i
def total (n : Nat) (tk : Nat → Int) : Int := sumL (List.range n) tk
theorem sumL_filter {α : Type} (l : List α) (p : α → Bool) (f : α → Int) : sumL l f = sumL (l.filter p) f + sumL (l.filter (fun x => !p x)) f := by
  induction l with
  | nil => rfl
  | cons x l ih =>
    rw [sumL_cons, List.filter_cons, List.filter_cons, ih]
    cases p x <;> simp [sumL_cons] <;> omega
/-- the solution that the equations of these feeders have -/
theorem augF_sol {n : Nat} {ws : List Wi} (h : CirOk n ws) (tk : Nat → Int) {gs : List Fe} (hg : FeOk n gs) {i : Nat} (hi : i < n) :
    sumL (List.range n) (fun j => lapl ws i j * cramN (augF n ws tk gs) n j) = flow gs (cramN (augF n ws tk gs) n) (cramD (augF n ws tk gs) n) i - cramD (augF n ws tk gs) n * tk i := by
  have e := cramer (augF n ws tk gs) n i hi
  rw [augF_row h tk gs hi] at e
  have e2 : augF n ws tk gs i n = - tk i + fvol gs i := by unfold augF; rw [if_pos rfl]
  rw [e2] at e
  rw [flow_is]; grind
theorem flow_total {n : Nat} {ws : List Wi} (h : CirOk n ws) (tk : Nat → Int) {gs : List Fe} (hg : FeOk n gs) (v : Nat → Int) (d : Int) (he : ∀ i, i < n → sumL (List.range n) (fun j => lapl ws i j * v j) = flow gs v d i - d * tk i) : sumL gs (fun f => f.siem * (f.volt * d - v f.k)) = d * total n tk := by
  have h0 := lapl_all h v
  rw [sumL_congr (fun i hi => he i (List.mem_range.1 hi)), sumL_sub, sumL_mul] at h0
  have : sumL (List.range n) (flow gs v d) = sumL gs (fun f => f.siem * (f.volt * d - v f.k)) := sum_at hg _
  unfold total
  omega

/-- the program's way: feeders that would take something back are left out, round by round -/
def feedZ (n : Nat) (ws : List Wi) (tk : Nat → Int) : Nat → List Fe → Option ((Nat → Int) × Int)
  | 0, _ => none
  | r + 1, gs =>
    let A := augF n ws tk gs
    let less := gs.filter (fun f => decide (cramN A n f.k < f.volt * cramD A n))
    if less.length = gs.length then some (cramN A n, cramD A n) else feedZ n ws tk r less
theorem flow_filter (gs : List Fe) (p : Fe → Bool) (v : Nat → Int) (d : Int) (i : Nat) : flow gs v d i = flow (gs.filter p) v d i + flow (gs.filter (fun f => !p f)) v d i := sumL_filter gs p _
theorem filter_len {α : Type} {l : List α} {p : α → Bool} (h : (l.filter p).length = l.length) : ∀ x ∈ l, p x = true := by
  intro x hx
  have := List.filter_sublist (p := p) (l := l)
  have e : l.filter p = l := this.eq_of_length h
  rw [← e] at hx; exact (List.mem_filter.1 hx).2
theorem filter_le {α : Type} (l : List α) (p : α → Bool) : (l.filter p).length ≤ l.length := List.length_filter_le _ _
/-- the solutions of two rounds: voltages rise -/
theorem feed_rise {n : Nat} {ws : List Wi} (h : CirOk n ws) (tk : Nat → Int) {gs : List Fe} (hg : FeOk n gs) (p : Fe → Bool)
    {v u : Nat → Int} {d e : Int} (hd : 0 < d) (he : 0 < e) (hne : gs.filter p ≠ [])
    (hv : ∀ i, i < n → sumL (List.range n) (fun j => lapl ws i j * v j) = flow gs v d i - d * tk i)
    (hu : ∀ i, i < n → sumL (List.range n) (fun j => lapl ws i j * u j) = flow (gs.filter p) u e i - e * tk i)
    (hp : ∀ f ∈ gs, p f = false → f.volt * d ≤ v f.k) : ∀ j, j < n → e * v j ≤ d * u j := by
  have hm := augF_mm h tk (hg.filter p) hne
  have := hm.neg (y := fun j => e * v j - d * u j) (fun i hi => by
    have hi' := List.mem_range.1 hi
    rw [augF_row h tk _ hi']
    have e1 : sumL (List.range n) (fun j => lapl ws i j * (e * v j - d * u j)) = e * sumL (List.range n) (fun j => lapl ws i j * v j) - d * sumL (List.range n) (fun j => lapl ws i j * u j) := by
      rw [← sumL_mul, ← sumL_mul, ← sumL_sub]; exact sumL_congr (fun j _ => by grind)
    rw [e1, hv i hi', hu i hi', flow_filter gs p, flow_is (gs.filter p), flow_is (gs.filter p)]
    have e2 : flow (gs.filter (fun f => !p f)) v d i ≤ 0 := by
      have := sumL_le (l := gs.filter (fun f => !p f)) (f := fun f => if f.k = i then f.siem * (f.volt * d - v f.k) else 0) (g := fun _ => 0) (fun f hf => by
        obtain ⟨hf1, hf2⟩ := List.mem_filter.1 hf
        have hf3 := hp f hf1 (by simpa using hf2)
        obtain ⟨_, _, _, hs, _⟩ := hg.f f hf1
        have := Int.mul_nonneg (show 0 ≤ f.siem by omega) (show 0 ≤ v f.k - f.volt * d by omega)
        split
        · grind
        · omega)
      rw [sumL_zero _ (fun _ _ => rfl)] at this; exact this
    have e3 := Int.mul_nonneg (Int.le_of_lt he) (show 0 ≤ - flow (gs.filter (fun f => !p f)) v d i by omega)
    grind)
  intro j hj
  have := this j (List.mem_range.2 hj)
  try simp only at this
  omega
theorem sumL_pos_mem {α : Type} {l : List α} {f : α → Int} (h : 0 < sumL l f) : ∃ x ∈ l, 0 < f x := by
  rcases Decidable.em (∃ x ∈ l, 0 < f x) with q | q
  · exact q
  · exfalso
    have := sumL_le (l := l) (f := f) (g := fun _ => 0) (fun x hx => by
      rcases Int.lt_or_le 0 (f x) with r | r
      · exact absurd ⟨x, hx, r⟩ q
      · exact r)
    rw [sumL_zero l (fun _ _ => rfl)] at this; omega
theorem feedZ_ok {n : Nat} {ws : List Wi} (h : CirOk n ws) (tk : Nat → Int) {fs : List Fe} (hf : FeOk n fs) (htot : 0 < total n tk) :
    ∀ (r : Nat) (q : Fe → Bool), fs.filter q ≠ [] → (fs.filter q).length ≤ r →
      (∀ f ∈ fs, q f = false → f.volt * cramD (augF n ws tk (fs.filter q)) n ≤ cramN (augF n ws tk (fs.filter q)) n f.k) →
      ∃ p : Fe → Bool, fs.filter p ≠ [] ∧ feedZ n ws tk r (fs.filter q) = some (cramN (augF n ws tk (fs.filter p)) n, cramD (augF n ws tk (fs.filter p)) n) ∧
        (∀ f ∈ fs, p f = decide (cramN (augF n ws tk (fs.filter p)) n f.k < f.volt * cramD (augF n ws tk (fs.filter p)) n)) ∧ SolF n ws tk fs (cramN (augF n ws tk (fs.filter p)) n) (cramD (augF n ws tk (fs.filter p)) n) := by
  intro r
  induction r with
  | zero =>
    intro q hne hl _
    have := List.length_pos_iff.2 hne; omega
  | succ r ih =>
    intro q hne hl hout
    have hg := hf.filter q
    have hd : 0 < cramD (augF n ws tk (fs.filter q)) n := (augF_mm h tk hg hne).pos
    have hsol : ∀ i, i < n → _ := fun i hi => augF_sol h tk hg hi
    have htf := flow_total h tk hg _ _ hsol
    unfold feedZ
    simp only
    generalize hv : cramN (augF n ws tk (fs.filter q)) n = v at *
    generalize hD : cramD (augF n ws tk (fs.filter q)) n = d at *
    by_cases hlen : ((fs.filter q).filter (fun f => decide (v f.k < f.volt * d))).length = (fs.filter q).length
    · have hall := filter_len hlen
      have hall' : ∀ f ∈ fs, q f = decide (v f.k < f.volt * d) := by
        intro f hfm
        cases hq : q f with
        | true => have := hall f (List.mem_filter.2 ⟨hfm, hq⟩); exact this.symm
        | false => have := hout f hfm hq; exact (decide_eq_false (by omega)).symm
      refine ⟨q, hne, ?_, ?_, ?_⟩
      · rw [if_pos hlen, hv, hD]
      · rw [hv, hD]; exact hall'
      · rw [hv, hD]
        refine ⟨hd, fun i hi => ?_⟩
        rw [hsol i hi]
        congr 1
        have e : flowP fs v d i = flow fs v d i - flow (fs.filter (fun f => !q f)) v d i := by
          have e0 := flow_filter fs q v d i
          have e1 : flowP fs v d i = flow (fs.filter q) v d i := by
            unfold flowP flow
            rw [sumL_filter fs q, sumL_zero (l := fs.filter (fun f => !q f)) (fun f hfm => by
              obtain ⟨h1, h2⟩ := List.mem_filter.1 hfm
              have h3 := hout f h1 (by simpa using h2)
              rw [Int.max_eq_left (by omega)]; split <;> simp)]
            rw [Int.add_zero]
            refine sumL_congr (fun f hfm => ?_)
            have h4 : v f.k < f.volt * d := by simpa using hall f hfm
            rw [Int.max_eq_right (by omega)]
          omega
        have e0 := flow_filter fs q v d i
        omega
    · rw [if_neg hlen, List.filter_filter]
      have hpos : 0 < d * total n tk := Int.mul_pos hd htot
      rw [← htf] at hpos
      obtain ⟨f0, hf0, hp0⟩ := sumL_pos_mem hpos
      have hs0 := (hg.f f0 hf0).2.2.2.1
      have h0 : v f0.k < f0.volt * d := by
        have := Int.pos_of_mul_pos_right hp0 (by omega)
        omega
      have hne' : fs.filter (fun f => decide (v f.k < f.volt * d) && q f) ≠ [] := by
        intro e
        have : f0 ∈ fs.filter (fun f => decide (v f.k < f.volt * d) && q f) := List.mem_filter.2 ⟨(List.mem_filter.1 hf0).1, by simp [h0, (List.mem_filter.1 hf0).2]⟩
        rw [e] at this; cases this
      have hlt : (fs.filter (fun f => decide (v f.k < f.volt * d) && q f)).length ≤ r := by
        have := filter_le (fs.filter q) (fun f => decide (v f.k < f.volt * d))
        rw [List.filter_filter] at this hlen
        omega
      refine ih (fun f => decide (v f.k < f.volt * d) && q f) hne' hlt (fun f hfm hqf => ?_)
      have hfv : f.volt * d ≤ v f.k := by
        cases hq : q f with
        | false => exact hout f hfm hq
        | true => simp [hq] at hqf; omega
      have e2 : (fs.filter q).filter (fun f => decide (v f.k < f.volt * d)) = fs.filter (fun f => decide (v f.k < f.volt * d) && q f) := List.filter_filter ..
      have hgl := hf.filter (fun f => decide (v f.k < f.volt * d) && q f)
      have he : 0 < cramD (augF n ws tk (fs.filter (fun f => decide (v f.k < f.volt * d) && q f))) n := (augF_mm h tk hgl hne').pos
      have hout2 : ∀ g ∈ fs.filter q, decide (v g.k < g.volt * d) = false → g.volt * d ≤ v g.k := by
        intro g _ hgp; have := of_decide_eq_false hgp; omega
      have hrise := feed_rise h tk hg (fun f => decide (v f.k < f.volt * d)) hd he (by rw [e2]; exact hne') hsol (by
        intro i hi; rw [e2]; exact augF_sol h tk hgl hi) hout2 f.k (hf.f f hfm).1
      generalize cramD (augF n ws tk (fs.filter (fun f => decide (v f.k < f.volt * d) && q f))) n = e at *
      generalize cramN (augF n ws tk (fs.filter (fun f => decide (v f.k < f.volt * d) && q f))) n f.k = u at *
      have a := Int.mul_le_mul_of_nonneg_left hfv (Int.le_of_lt he)
      have b : d * (f.volt * e) ≤ d * u := by
        have : e * (f.volt * d) = d * (f.volt * e) := by grind
        omega
      exact Int.le_of_mul_le_mul_left b hd
theorem feed_ok {n : Nat} {ws : List Wi} (h : CirOk n ws) (tk : Nat → Int) {fs : List Fe} (hf : FeOk n fs) (hne : fs ≠ []) (htot : 0 < total n tk) :
    ∃ p : Fe → Bool, fs.filter p ≠ [] ∧ feedZ n ws tk fs.length fs = some (cramN (augF n ws tk (fs.filter p)) n, cramD (augF n ws tk (fs.filter p)) n) ∧
        (∀ f ∈ fs, p f = decide (cramN (augF n ws tk (fs.filter p)) n f.k < f.volt * cramD (augF n ws tk (fs.filter p)) n)) ∧ SolF n ws tk fs (cramN (augF n ws tk (fs.filter p)) n) (cramD (augF n ws tk (fs.filter p)) n) := by
  have e : fs.filter (fun _ => true) = fs := List.filter_eq_self.2 (fun _ _ => rfl)
  have := feedZ_ok h tk hf htot fs.length (fun _ => true) (by rw [e]; exact hne) (by rw [e]; exact Nat.le_refl _) (fun f _ hq => by cases hq)
  rw [e] at this; exact this
/-- voltages of a part whose currents have the sum 0: no feeder has more than its node, and one has as much -/
structure SolT (n : Nat) (ws : List Wi) (tk : Nat → Int) (fs : List Fe) (v : Nat → Int) (d : Int) : Prop where
  pos : 0 < d
  eq : ∀ i, i < n → sumL (List.range n) (fun j => lapl ws i j * v j) = - (d * tk i)
  le : ∀ f ∈ fs, f.volt * d ≤ v f.k
  touch : ∃ f ∈ fs, f.volt * d = v f.k
/-- the program's way: each feeder in turn holds its voltage -/
def floatZ (n : Nat) (ws : List Wi) (tk : Nat → Int) (fs : List Fe) : List Fe → Option ((Nat → Int) × Int)
  | [] => none
  | f :: gs =>
    let A := augT n ws tk f
    if (fs.filter (fun g => decide (cramN A n g.k < g.volt * cramD A n))).length = 0 then some (cramN A n, cramD A n) else floatZ n ws tk fs gs
theorem augT_sol {n : Nat} {ws : List Wi} (h : CirOk n ws) (tk : Nat → Int) {f : Fe} (hf : f.k < n) (htot : total n tk = 0) :
    cramN (augT n ws tk f) n f.k = f.volt * cramD (augT n ws tk f) n ∧ ∀ i, i < n → sumL (List.range n) (fun j => lapl ws i j * cramN (augT n ws tk f) n j) = - (cramD (augT n ws tk f) n * tk i) := by
  have e0 := cramer (augT n ws tk f) n f.k hf
  rw [augT_row h tk hf hf, if_pos rfl] at e0
  have e2 : augT n ws tk f f.k n = f.volt := by unfold augT; rw [if_pos rfl, if_pos rfl]
  rw [e2] at e0
  have hne : ∀ i, i < n → i ≠ f.k → sumL (List.range n) (fun j => lapl ws i j * cramN (augT n ws tk f) n j) = - (cramD (augT n ws tk f) n * tk i) := by
    intro i hi hk
    have e := cramer (augT n ws tk f) n i hi
    rw [augT_row h tk hf hi, if_neg hk] at e
    have e3 : augT n ws tk f i n = - tk i := by unfold augT; rw [if_neg hk, if_pos rfl]
    rw [e, e3]; grind
  refine ⟨by rw [e0, Int.mul_comm], fun i hi => ?_⟩
  rcases Decidable.em (i = f.k) with e | e
  · have h0 := lapl_all h (cramN (augT n ws tk f) n)
    have h1 : sumL (List.range n) (fun i => sumL (List.range n) (fun j => lapl ws i j * cramN (augT n ws tk f) n j) + cramD (augT n ws tk f) n * tk i) = 0 := by
      rw [sumL_add, h0, sumL_mul]; unfold total at htot; rw [htot]; simp
    rw [sumL_one (x := i) List.nodup_range (List.mem_range.2 hi) (fun j hj hji => by rw [hne j (List.mem_range.1 hj) (by omega)]; omega)] at h1
    omega
  · exact hne i hi e
theorem floatZ_some {n : Nat} {ws : List Wi} (h : CirOk n ws) (tk : Nat → Int) {fs : List Fe} (hf : FeOk n fs) (htot : total n tk = 0) {gs : List Fe} (hg : ∀ f ∈ gs, f ∈ fs) {v : Nat → Int} {d : Int} (he : floatZ n ws tk fs gs = some (v, d)) :
    ∃ f ∈ fs, v = cramN (augT n ws tk f) n ∧ d = cramD (augT n ws tk f) n ∧ SolT n ws tk fs v d := by
  induction gs with
  | nil => cases he
  | cons f gs ih =>
    unfold floatZ at he
    simp only at he
    split at he
    · rename_i hl
      have hfm := hg f (by simp)
      have hk := (hf.f f hfm).1
      obtain ⟨e1, e2⟩ := augT_sol h tk hk htot
      simp only [Option.some.injEq, Prod.mk.injEq] at he
      refine ⟨f, hfm, he.1.symm, he.2.symm, ?_⟩
      rw [← he.1, ← he.2]
      refine ⟨(augT_mm h tk hk).pos, e2, fun g hgm => ?_, f, hfm, e1.symm⟩
      rcases Int.lt_or_le (cramN (augT n ws tk f) n g.k) (g.volt * cramD (augT n ws tk f) n) with q | q
      · exfalso
        have : g ∈ fs.filter (fun g => decide (cramN (augT n ws tk f) n g.k < g.volt * cramD (augT n ws tk f) n)) := List.mem_filter.2 ⟨hgm, by simpa using q⟩
        rw [List.length_eq_zero_iff.1 hl] at this; cases this
      · exact q
    · exact ih (fun g hgm => hg g (by simp [hgm])) he
theorem exists_maxF (l : List Fe) (hl : l ≠ []) (y : Fe → Int) : ∃ m ∈ l, ∀ x ∈ l, y x ≤ y m := by
  induction l with
  | nil => exact absurd rfl hl
  | cons a l ih =>
    cases l with
    | nil => exact ⟨a, by simp, fun x hx => by simp at hx; subst hx; exact Int.le_refl _⟩
    | cons b l =>
      obtain ⟨m, hm, h⟩ := ih (by simp)
      rcases Int.lt_or_le (y m) (y a) with q | q
      · exact ⟨a, by simp, fun x hx => by cases hx with | head => exact Int.le_refl _ | tail _ hx => have := h x hx; omega⟩
      · exact ⟨m, by simp [hm], fun x hx => by cases hx with | head => exact q | tail _ hx => exact h x hx⟩
/-- a solution, raised such that it touches a feeder's voltage and no feeder has more than its node -/
theorem raise_ok {n : Nat} {ws : List Wi} (h : CirOk n ws) (tk : Nat → Int) {fs : List Fe} (hf : FeOk n fs) {v : Nat → Int} {d r : Int} (hd : 0 < d)
    (hv : ∀ i, i < n → sumL (List.range n) (fun j => lapl ws i j * v j) = - (d * tk i)) (hr : ∀ f ∈ fs, f.volt * d - v f.k ≤ r) (ht : ∃ f ∈ fs, f.volt * d - v f.k = r) : SolT n ws tk fs (fun i => v i + r) d := by
  refine ⟨hd, fun i hi => ?_, fun f hfm => ?_, ?_⟩
  · have e : sumL (List.range n) (fun j => lapl ws i j * (v j + r)) = sumL (List.range n) (fun j => lapl ws i j * v j) + sumL (List.range n) (lapl ws i) * r := by
      rw [← sumL_mul_right, ← sumL_add]; exact sumL_congr (fun j _ => by grind)
    rw [e, hv i hi, lapl_row0 h]; simp
  · have := hr f hfm; omega
  · obtain ⟨f, hfm, e⟩ := ht; exact ⟨f, hfm, by omega⟩
theorem floatZ_is {n : Nat} {ws : List Wi} (h : CirOk n ws) (tk : Nat → Int) {fs : List Fe} (hf : FeOk n fs) (htot : total n tk = 0) {u : Nat → Int} {e : Int} (hu : SolT n ws tk fs u e) {f : Fe} (hfm : f ∈ fs) (hft : f.volt * e = u f.k) :
    SolT n ws tk fs (cramN (augT n ws tk f) n) (cramD (augT n ws tk f) n) := by
  have hk := (hf.f f hfm).1
  obtain ⟨e1, e2⟩ := augT_sol h tk hk htot
  have hm := augT_mm h tk hk
  have hd : 0 < cramD (augT n ws tk f) n := hm.pos
  have heq : ∀ j, j < n → e * cramN (augT n ws tk f) n j = cramD (augT n ws tk f) n * u j := by
    have := hm.inj (x := fun j => e * cramN (augT n ws tk f) n j) (y := fun j => cramD (augT n ws tk f) n * u j) (fun i hi => by
      have hi' := List.mem_range.1 hi
      rw [augT_row h tk hk hi', augT_row h tk hk hi']
      split
      · rw [e1, ← hft]; grind
      · have a : sumL (List.range n) (fun j => lapl ws i j * (e * cramN (augT n ws tk f) n j)) = e * sumL (List.range n) (fun j => lapl ws i j * cramN (augT n ws tk f) n j) := by
          rw [← sumL_mul]; exact sumL_congr (fun j _ => by grind)
        have b : sumL (List.range n) (fun j => lapl ws i j * (cramD (augT n ws tk f) n * u j)) = cramD (augT n ws tk f) n * sumL (List.range n) (fun j => lapl ws i j * u j) := by
          rw [← sumL_mul]; exact sumL_congr (fun j _ => by grind)
        rw [a, b, e2 i hi', hu.eq i hi']; grind)
    exact fun j hj => this j (List.mem_range.2 hj)
  refine ⟨hd, e2, fun g hgm => ?_, f, hfm, e1.symm⟩
  have a := heq g.k (hf.f g hgm).1
  have b := Int.mul_le_mul_of_nonneg_left (hu.le g hgm) (Int.le_of_lt hd)
  rw [← a] at b
  have c : e * (g.volt * cramD (augT n ws tk f) n) ≤ e * cramN (augT n ws tk f) n g.k := by grind
  exact Int.le_of_mul_le_mul_left c hu.pos
theorem floatZ_hits {n : Nat} {ws : List Wi} (tk : Nat → Int) {fs gs : List Fe} {f : Fe} (hfm : f ∈ gs) (hs : ∀ g ∈ fs, g.volt * cramD (augT n ws tk f) n ≤ cramN (augT n ws tk f) n g.k) : ∃ v d, floatZ n ws tk fs gs = some (v, d) := by
  induction gs with
  | nil => cases hfm
  | cons x gs ih =>
    unfold floatZ
    simp only
    split
    · exact ⟨_, _, rfl⟩
    · rename_i hl
      cases hfm with
      | head =>
        exfalso; apply hl
        rw [List.length_eq_zero_iff, List.filter_eq_nil_iff]
        intro g hgm
        have := hs g hgm
        simp; omega
      | tail _ q => exact ih q
theorem float_ok {n : Nat} {ws : List Wi} (h : CirOk n ws) (tk : Nat → Int) {fs : List Fe} (hf : FeOk n fs) (hne : fs ≠ []) (htot : total n tk = 0) :
    ∃ f ∈ fs, floatZ n ws tk fs fs = some (cramN (augT n ws tk f) n, cramD (augT n ws tk f) n) ∧ SolT n ws tk fs (cramN (augT n ws tk f) n) (cramD (augT n ws tk f) n) := by
  obtain ⟨f0, rest, hfs⟩ : ∃ f gs, fs = f :: gs := by cases fs with | nil => exact absurd rfl hne | cons f gs => exact ⟨f, gs, rfl⟩
  have hk0 := (hf.f f0 (by rw [hfs]; simp)).1
  obtain ⟨e1, e2⟩ := augT_sol h tk hk0 htot
  have hd : 0 < cramD (augT n ws tk f0) n := (augT_mm h tk hk0).pos
  obtain ⟨g, hgm, hmax⟩ := exists_maxF fs hne (fun f => f.volt * cramD (augT n ws tk f0) n - cramN (augT n ws tk f0) n f.k)
  have hu := raise_ok h tk hf hd e2 hmax ⟨g, hgm, rfl⟩
  have hg := floatZ_is h tk hf htot hu hgm (by omega)
  obtain ⟨v, d, hvd⟩ := floatZ_hits tk hgm hg.le
  obtain ⟨f, hfm, hv, hd', hs⟩ := floatZ_some h tk hf htot (fun _ h => h) hvd
  exact ⟨f, hfm, by rw [hvd, hv, hd'], by rw [← hv, ← hd']; exact hs⟩
end Go.Proofs.YtbnfnpakibkboaaGreat

namespace Go.Proofs.YtbnfnpakibkboaaGreat
set_option linter.unusedVariables false
set_option linter.unusedSimpArgs false


/-! parts: nodes that wires connect -/
inductive Cn (ps : List (Nat × Nat)) : Nat → Nat → Prop
  | refl (x : Nat) : Cn ps x x
  | step {x y z : Nat} : Cn ps x y → (y, z) ∈ ps ∨ (z, y) ∈ ps → Cn ps x z
theorem Cn.trans {ps : List (Nat × Nat)} {x y z : Nat} (h : Cn ps x y) (g : Cn ps y z) : Cn ps x z := by
  induction g with
  | refl => exact h
  | step _ e ih => exact ih.step e
theorem Cn.one {ps : List (Nat × Nat)} {x y : Nat} (h : (x, y) ∈ ps ∨ (y, x) ∈ ps) : Cn ps x y := (Cn.refl x).step h
theorem Cn.symm {ps : List (Nat × Nat)} {x y : Nat} (h : Cn ps x y) : Cn ps y x := by
  induction h with
  | refl => exact Cn.refl _
  | step _ e ih => exact (Cn.one e.symm).trans ih
theorem Cn.lt {ps : List (Nat × Nat)} {N : Nat} (hN : ∀ p ∈ ps, p.1 < N ∧ p.2 < N) {x y : Nat} (h : Cn ps x y) (hx : x < N) : y < N := by
  cases h with
  | refl => exact hx
  | step _ e => rcases e with e | e <;> have := hN _ e <;> simp only at this <;> omega
def relax (f : Nat → Nat) (p : Nat × Nat) : Nat → Nat := fun k => if k = p.1 ∨ k = p.2 then min (f p.1) (f p.2) else f k
def rnd (ps : List (Nat × Nat)) (f : Nat → Nat) : Nat → Nat := ps.foldl relax f
/-- the names of nodes after so many rounds -/
def labs (ps : List (Nat × Nat)) : Nat → (Nat → Nat)
  | 0 => id
  | t + 1 => rnd ps (labs ps t)
theorem relax_le (f : Nat → Nat) (p : Nat × Nat) (k : Nat) : relax f p k ≤ f k := by
  unfold relax; split
  · rename_i h; rcases h with h | h <;> subst h <;> omega
  · exact Nat.le_refl _
theorem rnd_le (ps : List (Nat × Nat)) (f : Nat → Nat) (k : Nat) : rnd ps f k ≤ f k := by
  unfold rnd
  induction ps generalizing f with
  | nil => exact Nat.le_refl _
  | cons p ps ih => exact Nat.le_trans (ih _) (relax_le f p k)
theorem labs_le (ps : List (Nat × Nat)) (t k : Nat) : labs ps t k ≤ k := by
  induction t with
  | zero => exact Nat.le_refl _
  | succ t ih => exact Nat.le_trans (rnd_le ps _ k) ih
theorem rnd_cn (qs ps : List (Nat × Nat)) (hs : ∀ p ∈ ps, p ∈ qs) (f : Nat → Nat) (h : ∀ k, Cn qs k (f k)) : ∀ k, Cn qs k (rnd ps f k) := by
  unfold rnd
  induction ps generalizing f with
  | nil => exact h
  | cons p ps ih =>
    refine ih (fun q hq => hs q (by simp [hq])) _ (fun k => ?_)
    have hp : Cn qs p.1 p.2 := Cn.one (Or.inl (hs p (by simp)))
    unfold relax; split
    · rename_i e
      rcases Nat.le_total (f p.1) (f p.2) with q | q
      · rw [Nat.min_eq_left q]
        rcases e with e | e <;> subst e
        · exact h _
        · exact hp.symm.trans (h _)
      · rw [Nat.min_eq_right q]
        rcases e with e | e <;> subst e
        · exact hp.trans (h _)
        · exact h _
    · exact h k
theorem labs_cn (ps : List (Nat × Nat)) (t k : Nat) : Cn ps k (labs ps t k) := by
  induction t generalizing k with
  | zero => exact Cn.refl k
  | succ t ih => exact rnd_cn ps ps (fun _ h => h) _ ih k
/-- a round hands the least name on -/
theorem rnd_hand (qs ps : List (Nat × Nat)) (hs : ∀ p ∈ ps, p ∈ qs) (f : Nat → Nat) (h : ∀ k, Cn qs k (f k)) (a m : Nat) (hm : ∀ x, Cn qs a x → m ≤ x) (p : Nat × Nat) (hp : p ∈ ps) (ha : Cn qs a p.1) (hf : f p.1 = m ∨ f p.2 = m) : rnd ps f p.1 = m ∧ rnd ps f p.2 = m := by
  have hpc : Cn qs p.1 p.2 := Cn.one (Or.inl (hs p hp))
  have hlow : ∀ (rs : List (Nat × Nat)) (hr : ∀ p ∈ rs, p ∈ qs) (g : Nat → Nat) (hg : ∀ k, Cn qs k (g k)) (k : Nat), Cn qs a k → m ≤ rnd rs g k := fun rs hr g hg k hk => hm _ (hk.trans (rnd_cn qs rs hr g hg k))
  unfold rnd
  induction ps generalizing f with
  | nil => cases hp
  | cons q ps ih =>
    have hcn := rnd_cn qs [q] (fun x hx => hs x (by simp at hx; simp [hx])) f h
    have hle : ∀ k, rnd ps (relax f q) k ≤ relax f q k := rnd_le ps _
    cases hp with
    | head =>
      have h1 : min (f p.1) (f p.2) = m := by
        have a1 := hm _ (ha.trans (h p.1)); have a2 := hm _ ((ha.trans hpc).trans (h p.2)); omega
      have e1 : relax f p p.1 = m := by unfold relax; rw [if_pos (Or.inl rfl)]; exact h1
      have e2 : relax f p p.2 = m := by unfold relax; rw [if_pos (Or.inr rfl)]; exact h1
      have l1 := hlow ps (fun x hx => hs x (by simp [hx])) (relax f p) hcn p.1 ha
      have l2 := hlow ps (fun x hx => hs x (by simp [hx])) (relax f p) hcn p.2 (ha.trans hpc)
      have u1 := hle p.1; have u2 := hle p.2
      exact ⟨by show rnd ps (relax f p) p.1 = m; omega, by show rnd ps (relax f p) p.2 = m; omega⟩
    | tail _ hp' =>
      refine ih (fun x hx => hs x (by simp [hx])) (relax f q) hcn hp' ?_
      rcases hf with e | e
      · left
        have := relax_le f q p.1
        have := hm _ (ha.trans (hcn p.1))
        have : rnd [q] f p.1 = relax f q p.1 := rfl
        omega
      · right
        have := relax_le f q p.2
        have := hm _ ((ha.trans hpc).trans (hcn p.2))
        have : rnd [q] f p.2 = relax f q p.2 := rfl
        omega
theorem exists_least (P : Nat → Prop) (a : Nat) (ha : P a) : ∃ m, P m ∧ ∀ x, P x → m ≤ x := by
  induction a using Nat.strongRecOn with
  | ind a ih =>
    rcases Classical.em (∃ b, b < a ∧ P b) with ⟨b, hb, hp⟩ | h
    · exact ih b hb hp
    · exact ⟨a, ha, fun x hx => Nat.le_of_not_lt (fun hl => h ⟨x, hl, hx⟩)⟩
theorem count_le {N : Nat} {p q : Nat → Bool} (h : ∀ k, k < N → p k = true → q k = true) : ((List.range N).filter p).length ≤ ((List.range N).filter q).length := by
  induction N with
  | zero => simp
  | succ N ih =>
    rw [List.range_succ, List.filter_append, List.filter_append, List.length_append, List.length_append]
    have := ih (fun k hk => h k (by omega))
    have hN := h N (by omega)
    simp only [List.filter_cons, List.filter_nil]
    cases hp : p N <;> cases hq : q N <;> simp_all <;> omega
theorem count_lt {N : Nat} {p q : Nat → Bool} (h : ∀ k, k < N → p k = true → q k = true) (hx : ∃ k, k < N ∧ p k = false ∧ q k = true) : ((List.range N).filter p).length < ((List.range N).filter q).length := by
  induction N with
  | zero => obtain ⟨k, hk, _⟩ := hx; omega
  | succ N ih =>
    rw [List.range_succ, List.filter_append, List.filter_append, List.length_append, List.length_append]
    have hN := h N (by omega)
    simp only [List.filter_cons, List.filter_nil]
    obtain ⟨k, hk, hpk, hqk⟩ := hx
    rcases Decidable.em (k = N) with e | e
    · subst e
      have := count_le (N := k) (p := p) (q := q) (fun j hj => h j (by omega))
      rw [hpk, hqk]; simp; omega
    · have := ih (fun j hj => h j (by omega)) ⟨k, by omega, hpk, hqk⟩
      cases hp : p N <;> cases hq : q N <;> simp_all <;> omega
/-- after as many rounds as there are nodes, nodes that are connected have one name -/
theorem labs_eq {ps : List (Nat × Nat)} {N : Nat} (hN : ∀ p ∈ ps, p.1 < N ∧ p.2 < N) {a b : Nat} (h : Cn ps a b) : labs ps N a = labs ps N b := by
  obtain ⟨m, hm, hleast⟩ := exists_least (fun x => Cn ps a x) a (Cn.refl a)
  by_cases haN : a < N
  case neg =>
    have : a = b := by
      cases h.symm with
      | refl => rfl
      | step hh e => rcases e with e | e <;> have := hN _ e <;> simp only at this <;> omega
    rw [this]
  have hmN := hm.lt hN haN
  have low : ∀ t k, Cn ps a k → m ≤ labs ps t k := fun t k hk => hleast _ (hk.trans (labs_cn ps t k))
  -- closed: each neighbor of a node with the least name has it, too
  let clo (t : Nat) : Prop := ∀ p ∈ ps, (labs ps t p.1 = m → labs ps t p.2 = m) ∧ (labs ps t p.2 = m → labs ps t p.1 = m)
  have inS : ∀ t k, labs ps t k = m → Cn ps a k := fun t k e => hm.trans (by have := (labs_cn ps t k).symm; rw [e] at this; exact this)
  have mono : ∀ t k, labs ps t k = m → labs ps (t + 1) k = m := fun t k e => by
    have h1 : labs ps (t + 1) k ≤ labs ps t k := rnd_le ps _ k
    have := low (t + 1) k (inS t k e); omega
  have hand : ∀ t, ∀ p ∈ ps, labs ps t p.1 = m ∨ labs ps t p.2 = m → labs ps (t + 1) p.1 = m ∧ labs ps (t + 1) p.2 = m := fun t p hp hor => by
    have hc : Cn ps p.1 p.2 := Cn.one (Or.inl hp)
    have ha : Cn ps a p.1 := by rcases hor with e | e; exact inS t _ e; exact (inS t _ e).trans hc.symm
    exact rnd_hand ps ps (fun _ h => h) (labs ps t) (labs_cn ps t) a m hleast p hp ha hor
  have key : ∀ t, clo t ∨ t + 1 ≤ ((List.range N).filter (fun k => labs ps t k == m)).length := by
    intro t
    induction t with
    | zero =>
      right
      have : m ∈ (List.range N).filter (fun k => labs ps 0 k == m) := List.mem_filter.2 ⟨List.mem_range.2 hmN, by simp [labs]⟩
      exact List.length_pos_of_mem this
    | succ t ih =>
      rcases Classical.em (clo t) with c | c
      · left
        -- closed at t: the nodes with the least name are all that are connected
        have all : ∀ k, Cn ps a k → labs ps t k = m := by
          have hmm : labs ps t m = m := Nat.le_antisymm (labs_le ps t m) (low t m hm)
          intro k hk
          have : Cn ps m k := hm.symm.trans hk
          clear hk
          induction this with
          | refl => exact hmm
          | step _ e ih => rcases e with e | e; exact (c _ e).1 ih; exact (c _ e).2 ih
        intro p hp
        exact ⟨fun e => (hand t p hp (Or.inl (all _ (inS _ _ e)))).2, fun e => (hand t p hp (Or.inr (all _ (inS _ _ e)))).1⟩
      · right
        have hlen := ih.resolve_left c
        have hc : ∃ p ∈ ps, ¬ ((labs ps t p.1 = m → labs ps t p.2 = m) ∧ (labs ps t p.2 = m → labs ps t p.1 = m)) := by
          rcases Classical.em (∃ p ∈ ps, ¬ ((labs ps t p.1 = m → labs ps t p.2 = m) ∧ (labs ps t p.2 = m → labs ps t p.1 = m))) with q | q
          · exact q
          · exact absurd (fun p hp => Classical.byContradiction (fun hn => q ⟨p, hp, hn⟩)) c
        obtain ⟨p, hp, hnp⟩ := hc
        have hpN := hN p hp
        have hlt := count_lt (N := N) (p := fun k => labs ps t k == m) (q := fun k => labs ps (t + 1) k == m) (fun k _ e => by simp at e ⊢; exact mono t k e) (by
          rcases Decidable.em (labs ps t p.1 = m) with e | e
          · rcases Decidable.em (labs ps t p.2 = m) with g | g
            · exact absurd ⟨fun _ => g, fun _ => e⟩ hnp
            · exact ⟨p.2, hpN.2, by simpa using g, by simpa using (hand t p hp (Or.inl e)).2⟩
          · rcases Decidable.em (labs ps t p.2 = m) with g | g
            · exact ⟨p.1, hpN.1, by simpa using e, by simpa using (hand t p hp (Or.inr g)).1⟩
            · exact absurd ⟨fun x => absurd x e, fun x => absurd x g⟩ hnp)
        omega
  have hclo : clo N := by
    rcases key N with c | c
    · exact c
    · have := List.length_filter_le (fun k => labs ps N k == m) (List.range N)
      rw [List.length_range] at this; omega
  have all : ∀ k, Cn ps a k → labs ps N k = m := by
    have hmm : labs ps N m = m := Nat.le_antisymm (labs_le ps N m) (low N m hm)
    intro k hk
    have : Cn ps m k := hm.symm.trans hk
    clear hk h
    induction this with
    | refl => exact hmm
    | step _ e ih => rcases e with e | e; exact (hclo _ e).1 ih; exact (hclo _ e).2 ih
  rw [all a (Cn.refl a), all b h]
theorem labs_iff {ps : List (Nat × Nat)} {N : Nat} (hN : ∀ p ∈ ps, p.1 < N ∧ p.2 < N) (a b : Nat) : labs ps N a = labs ps N b ↔ Cn ps a b :=
  ⟨fun e => (labs_cn ps N a).trans (e ▸ (labs_cn ps N b).symm), labs_eq hN⟩
/-- the nodes of the part whose least node is i -/
def partL (ps : List (Nat × Nat)) (N i : Nat) : List Nat := (List.range N).filter (fun k => labs ps N k == i)
/-- the parts, in the order of their least nodes -/
def partsL (ps : List (Nat × Nat)) (N : Nat) : List (List Nat) := ((List.range N).filter (fun i => labs ps N i == i)).map (partL ps N)

/-! lists of nodes -/
theorem range_asc (N : Nat) (p : Nat → Bool) : ((List.range N).filter p).Pairwise (· < ·) := List.Pairwise.filter _ List.pairwise_lt_range
/-- a sorted list of different numbers -/
theorem sort_asc {l : List Nat} (hn : l.Nodup) {m : List Nat} (hm : m.Pairwise (· < ·)) (h : ∀ x, x ∈ l ↔ x ∈ m) : (l.map fun x : Nat => (x : Int)).mergeSort (fun x y => decide (x ≤ y)) = m.map fun x : Nat => (x : Int) := by
  have hp : (l.map fun x : Nat => (x : Int)).Perm (m.map fun x : Nat => (x : Int)) := by
    apply List.Perm.map
    exact (List.perm_ext_iff_of_nodup hn (hm.imp (fun h => Nat.ne_of_lt h))).2 h
  have hs1 := List.pairwise_mergeSort (le := fun x y : Int => decide (x ≤ y)) (fun a b c h1 h2 => by simp at *; omega) (fun a b => by simp; omega) (l.map fun x : Nat => (x : Int))
  have hs2 : (m.map fun x : Nat => (x : Int)).Pairwise (fun x y => decide (x ≤ y) = true) := by
    rw [List.pairwise_map]; exact hm.imp (fun h => by simp; omega)
  exact List.Perm.eq_of_pairwise (le := fun x y : Int => decide (x ≤ y) = true) (fun a b _ _ h1 h2 => by simp at *; omega) hs1 hs2 ((List.mergeSort_perm _ _).trans hp)
theorem nodup_len {l : List Nat} {N : Nat} (hn : l.Nodup) (h : ∀ x ∈ l, x < N) : l.length ≤ N := by
  have : l.length ≤ (List.range N).length := by
    apply List.Nodup.length_le_of_subset hn
    intro x hx; exact List.mem_range.2 (h x hx)
  rwa [List.length_range] at this
/-- a list of nodes that is closed and begins with a node is its part -/
theorem closed_part {ps : List (Nat × Nat)} {N f : Nat} (hN : ∀ p ∈ ps, p.1 < N ∧ p.2 < N) (hf : f < N) {l : List Nat} (h0 : f ∈ l) (hc : ∀ x ∈ l, Cn ps f x) (hcl : ∀ x ∈ l, ∀ y, (x, y) ∈ ps ∨ (y, x) ∈ ps → y ∈ l) (x : Nat) : x ∈ l ↔ x ∈ (List.range N).filter (fun k => labs ps N k == labs ps N f) := by
  have all : ∀ y, Cn ps f y → y ∈ l := by
    intro y hy
    induction hy with
    | refl => exact h0
    | step _ e ih => exact hcl _ ih _ e
  rw [List.mem_filter, List.mem_range]
  constructor
  · intro hx
    exact ⟨(hc x hx).lt hN hf, by simpa using (labs_eq hN (hc x hx)).symm⟩
  · rintro ⟨_, he⟩
    exact all x (((labs_iff hN x f).1 (by simpa using he)).symm)
end Go.Proofs.YtbnfnpakibkboaaGreat
