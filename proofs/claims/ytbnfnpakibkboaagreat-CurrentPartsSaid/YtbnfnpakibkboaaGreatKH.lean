/- Texts C15 C16 C33 C17 C18. -/
import Derived.Test.YtbnfnpakibkboaaGreatKC
import Derived.Maps.Own
import Derived.Test.YtbnfnpakibkboaaGreatJBT
import Derived.Test.YtbnfnpakibkboaaGreatJQ
import Derived.Test.YtbnfnpakibkboaaGreatKG
import Derived.Laws.EntriesVeiled
namespace Go.Proofs.YtbnfnpakibkboaaGreat
set_option linter.unusedVariables false
set_option linter.unusedSimpArgs false
open Go.RowKit
open Go.ChangeMaps (setBlock heap_setBlock_same heap_setBlock_other)

theorem kd3 : Maps.Keyed Tryz.prog 3 := Maps.int_keyed Tryz.underlying3
theorem zero3i (w : World) : (zeroValue 3).run Tryz.prog w = .ok (.int .i64 0) w := by kernel_rfl
def kn (q : Int) : Value := .int .i64 q
theorem kn_ok {q : Int} (h : (Lit.int .i64 q).wf = true) : keyOf Tryz.prog 3 (kn q) = some (.int .i64 q) := Maps.keyOf_int_mk Tryz.underlying3 h
/-- block b is a map of the pairs ks -/
def KmAt (w : World) (b : Nat) (ks : List (Int × Int)) : Prop :=
  ∃ es clock, w.heap[b]? = some (.map es clock) ∧ es.toList.map (fun e => (e.key, e.val)) = ks.map (fun q => (kn q.1, kn q.2))
theorem KmAt.made (w : World) : KmAt (w.alloc (.map #[] 0)) w.heap.size [] := ⟨#[], 0, heap_alloc_new w _, by simp⟩
theorem KmAt.lt {w : World} {b : Nat} {ks : List (Int × Int)} (h : KmAt w b ks) : b < w.heap.size := by
  obtain ⟨_, _, hb, _⟩ := h; exact (Array.getElem?_eq_some_iff.1 hb).1
theorem KmAt.kept {w w' : World} {b : Nat} {ks : List (Int × Int)} (h : KmAt w b ks) (hb : w'.heap[b]? = w.heap[b]?) : KmAt w' b ks := by
  obtain ⟨es, c, h1, h2⟩ := h; exact ⟨es, c, hb.trans h1, h2⟩
theorem kn_inj {q r : Int} (h : kn q = kn r) : q = r := by
  unfold kn at h; injection h
section
variable {w : World} {b : Nat} {ks : List (Int × Int)} {q : Int}
theorem KmAt.mem (es : Array MapEntry) (hm : es.toList.map (fun e => (e.key, e.val)) = ks.map (fun q => (kn q.1, kn q.2))) : ∀ e ∈ es.toList, ∃ r ∈ ks, e.key = kn r.1 ∧ e.val = kn r.2 := fun e he => by
  have h1 : (e.key, e.val) ∈ ks.map (fun q => (kn q.1, kn q.2)) := by rw [← hm]; exact List.mem_map.2 ⟨e, he, rfl⟩
  obtain ⟨r, hr, e1⟩ := List.mem_map.1 h1
  injection e1 with e1 e2
  exact ⟨r, hr, e1.symm, e2.symm⟩
def kOk (ks : List (Int × Int)) : Prop := ∀ r ∈ ks, (Lit.int .i64 r.1).wf = true
/-- what is found at a number: the value and true, or 0 and false -/
theorem km_look (h : KmAt w b ks) (hk : kOk ks) (hq : (Lit.int .i64 q).wf = true) :
    (∃ d, (q, d) ∈ ks ∧ (Instr.lookup 201 (.map (some b)) (kn q) true).run Tryz.prog w = .ok (.tuple #[kn d, .bool true]) w) ∨
    ((∀ r ∈ ks, r.1 ≠ q) ∧ (Instr.lookup 201 (.map (some b)) (kn q) true).run Tryz.prog w = .ok (.tuple #[kn 0, .bool false]) w) := by
  obtain ⟨es, clock, hb, hm⟩ := h
  have hl := kn_ok hq
  have hmem := KmAt.mem es hm
  rcases kd3.find w hl es.toList (fun e he => by obtain ⟨r, hr, e1, _⟩ := hmem e he; rw [e1]; exact ⟨_, kn_ok (hk r hr)⟩) with ⟨h1, h2⟩ | ⟨j, e0, h1, h2, h3⟩
  · refine .inr ⟨fun r hr e => ?_, ?_⟩
    · have h4 : (kn r.1, kn r.2) ∈ es.toList.map (fun e => (e.key, e.val)) := by rw [hm]; exact List.mem_map.2 ⟨r, hr, rfl⟩
      obtain ⟨x, hx, e1⟩ := List.mem_map.1 h4
      injection e1 with e1 e2
      exact h2 x hx (by rw [e1, e])
    · simp [Instr.lookup, run_underlying Tryz.underlying201, MapKept.run_getObj_map hb, kd3.check w _ hl, h1, zero3i, Result.andThen]; rfl
  · have hm0 : e0 ∈ es.toList := List.mem_of_getElem? h2
    obtain ⟨r, hr, e1, e2⟩ := hmem e0 hm0
    have hqr : q = r.1 := kn_inj (h3.symm.trans e1)
    refine .inl ⟨r.2, by rw [hqr]; exact hr, ?_⟩
    simp [Instr.lookup, run_underlying Tryz.underlying201, MapKept.run_getObj_map hb, kd3.check w _ hl, h1, e2, Result.andThen]
theorem km_addS (h : KmAt w b ks) (hk : kOk ks) (hq : (Lit.int .i64 q).wf = true) (hn : ∀ r ∈ ks, r.1 ≠ q) (d : Int) : ∃ w', (Instr.mapUpdate 201 (.map (some b)) (kn q) (kn d)).run Tryz.prog w = .ok () w' ∧ KmAt w' b (ks ++ [(q, d)]) ∧ w.grownBy w' (some b) ∧ w'.heap.size = w.heap.size := by
  obtain ⟨es, clock, hb, hm⟩ := h
  have hl := kn_ok hq
  have hmem := KmAt.mem es hm
  rcases kd3.find w hl es.toList (fun e he => by obtain ⟨r, hr, e1, _⟩ := hmem e he; rw [e1]; exact ⟨_, kn_ok (hk r hr)⟩) with ⟨h1, h2⟩ | ⟨j, e0, h1, h2, h3⟩
  · refine ⟨setBlock w b (.map (es.push ⟨kn q, kn d, clock⟩) (clock + 1)), ?_, ⟨_, _, heap_setBlock_same hb _, ?_⟩, ⟨rfl, rfl, rfl, by simp [setBlock], fun i _ hi => heap_setBlock_other hb _ (fun e => hi (by rw [e]))⟩, by simp [setBlock]⟩
    · simp [Instr.mapUpdate, run_underlying Tryz.underlying201, MapKept.run_getObj_map hb, kd3.check w false hl, h1, MapKept.run_setObj_map _ hb, Result.andThen, setBlock]
    · rw [Array.toList_push, List.map_append, hm]; simp
  · have hm0 : e0 ∈ es.toList := List.mem_of_getElem? h2
    obtain ⟨r, hr, e1, e2⟩ := hmem e0 hm0
    exact absurd (kn_inj (e1.symm.trans h3)) (hn r hr)
theorem km_add (h : KmAt w b ks) (hk : kOk ks) (hq : (Lit.int .i64 q).wf = true) (hn : ∀ r ∈ ks, r.1 ≠ q) (d : Int) : ∃ w', (Instr.mapUpdate 201 (.map (some b)) (kn q) (kn d)).run Tryz.prog w = .ok () w' ∧ KmAt w' b (ks ++ [(q, d)]) ∧ w.grownBy w' (some b) := by
  obtain ⟨w', h1, h2, h3, _⟩ := km_addS h hk hq hn d
  exact ⟨w', h1, h2, h3⟩
end
end Go.Proofs.YtbnfnpakibkboaaGreat

namespace Go.Proofs.YtbnfnpakibkboaaGreat
set_option linter.unusedVariables false
set_option linter.unusedSimpArgs false

theorem bitsL_split {i S : Nat} (m : Nat) (hi : i < m) (hb : S.testBit i = true) : ∃ post, bitsL m S = bitsL i S ++ i :: post := by
  induction m with
  | zero => omega
  | succ m ih =>
    rw [bitsL_succ]
    by_cases e : i = m
    · subst e; rw [hb]; exact ⟨[], by simp⟩
    · obtain ⟨post, hp⟩ := ih (by omega)
      exact ⟨post ++ (if S.testBit m then [m] else []), by rw [hp]; simp⟩
theorem bitsL_low {n S : Nat} (hn : n ≤ 11) (hS : S < 2 ^ n) : bitsL 11 S = bitsL n S := by
  have key : ∀ d, bitsL (n + d) S = bitsL n S := fun d => by
   induction d with
   | zero => rfl
   | succ d ih =>
    rw [← ih, show n + (d + 1) = (n + d) + 1 from rfl, bitsL_succ]
    have : S.testBit (n + d) = false := Nat.testBit_lt_two_pow (Nat.lt_of_lt_of_le hS (Nat.pow_le_pow_right (by decide) (by omega)))
    rw [this]; simp
  have := key (11 - n)
  rwa [show n + (11 - n) = 11 from by omega] at this
theorem bitsL_sub {n S : Nat} (hn : n ≤ 10) (hS : S < 2 ^ (n + 1)) : (bitsL 11 S).Sublist (List.range (n + 1)) := by
  rw [bitsL_low (by omega) hS]; exact List.filter_sublist
def erow (ρ : Nat → Int) (i c : Nat) : Int := if c = i then ρ i else 0
def lrow (ρ : Nat → Int) (i c : Nat) : Int := if c < i then ρ c else 0
theorem altS_none (ρ : Nat → Int) (i : Nat) (f : List Nat → Int) (cs : List Nat) (h : i ∉ cs) : altS (erow ρ i) f cs = 0 := by
  induction cs generalizing f with
  | nil => rfl
  | cons c cs ih =>
    unfold altS
    rw [ih _ (fun h2 => h (by simp [h2]))]
    unfold erow
    rw [if_neg (fun e => h (by simp [e]))]; simp
theorem altS_one (ρ : Nat → Int) (i : Nat) (f : List Nat → Int) (pre post : List Nat) (h : i ∉ pre) (h2 : i ∉ post) : altS (erow ρ i) f (pre ++ i :: post) = (-1) ^ pre.length * (ρ i * f (pre ++ post)) := by
  induction pre generalizing f with
  | nil =>
    simp only [List.nil_append, altS]
    rw [altS_none _ _ _ _ h2]; simp [erow]
  | cons c pre ih =>
    have hc : c ≠ i := fun e => h (by simp [e])
    simp only [List.cons_append, altS]
    rw [ih (fun l => f (c :: l)) (fun h3 => h (by simp [h3]))]
    have : erow ρ i c = 0 := by unfold erow; rw [if_neg hc]
    rw [this, List.length_cons, Int.pow_succ]
    simp [Int.mul_assoc, Int.neg_mul]
theorem lrow_step (ρ : Nat → Int) (rs : List (Nat → Int)) (i : Nat) (cs : List Nat) : det (lrow ρ (i + 1) :: rs) cs = det (lrow ρ i :: rs) cs + det (erow ρ i :: rs) cs := by
  rw [det_cons, det_cons, det_cons]
  have := altS_add_row (lrow ρ i) (erow ρ i) 1 1 (det rs) cs
  rw [Int.one_mul, Int.one_mul] at this
  rw [← this]
  refine altS_congr cs (fun c _ => ?_) (fun _ => rfl)
  unfold lrow erow
  rcases Nat.lt_trichotomy c i with h | h | h
  · rw [if_pos (by omega), if_pos h, if_neg (by omega)]; omega
  · subst h; simp
  · rw [if_neg (by omega), if_neg (by omega), if_neg (by omega)]; omega
theorem erow_det (ρ : Nat → Int) (rs : List (Nat → Int)) {i S : Nat} (hi : i < 11) (hS : S < 2048) (hb : S.testBit i = true) : det (erow ρ i :: rs) (bitsL 11 S) = (-1) ^ (bitsL i S).length * (ρ i * det rs (bitsL 11 (S - 2 ^ i))) := by
  obtain ⟨post, hp⟩ := bitsL_split 11 hi hb
  have hn := bitsL_nodup 11 S
  rw [hp, List.nodup_append] at hn
  obtain ⟨n1, n2, n3⟩ := hn
  have h1 : i ∉ bitsL i S := fun h => by have := (mem_bitsL.1 h).1; omega
  have h2 : i ∉ post := (List.nodup_cons.1 n2).1
  rw [det_cons, hp, altS_one ρ i _ _ _ h1 h2, erase_bits i hi S hS hb, hp, List.erase_append_right _ h1, List.erase_cons_head]
theorem erow_no (ρ : Nat → Int) (rs : List (Nat → Int)) {i S : Nat} (hb : S.testBit i = false) : det (erow ρ i :: rs) (bitsL 11 S) = 0 := by
  rw [det_cons]; exact altS_none _ _ _ _ (fun h => by rw [(mem_bitsL.1 h).2] at hb; cases hb)
theorem lrow_zero (ρ : Nat → Int) (rs : List (Nat → Int)) (cs : List Nat) : det (lrow ρ 0 :: rs) cs = 0 := by
  rw [det_cons]
  have := altS_congr (ρ := lrow ρ 0) (σ := fun c => 0 * ρ c + 0 * ρ c) (f := det rs) (g := det rs) cs (fun c _ => by unfold lrow; simp) (fun _ => rfl)
  rw [this, altS_add_row]; simp
theorem lrow_all (ρ : Nat → Int) (rs : List (Nat → Int)) (m : Nat) (cs : List Nat) (h : ∀ c ∈ cs, c < m) : det (lrow ρ m :: rs) cs = det (ρ :: rs) cs := by
  rw [det_cons, det_cons]
  exact altS_congr cs (fun c hc => by unfold lrow; rw [if_pos (h c hc)]) (fun _ => rfl)
/-- rows that are small: their numbers but the one at z together, and that at z -/
def SmR (n z : Nat) (ρ : Nat → Int) : Prop := absL ((List.range (n + 1)).filter (fun c => c != z)) ρ ≤ 28 ∧ ((ρ z).natAbs : Int) ≤ 4040
theorem absL_le {l : List Nat} {ρ σ : Nat → Int} (h : ∀ c ∈ l, (ρ c).natAbs ≤ (σ c).natAbs) : absL l ρ ≤ absL l σ := sumL_le (fun c hc => Int.ofNat_le.2 (h c hc))
theorem SmR.of {n z : Nat} {ρ σ : Nat → Int} (h : SmR n z σ) (hc : ∀ c, (ρ c).natAbs ≤ (σ c).natAbs) : SmR n z ρ :=
  ⟨Int.le_trans (absL_le fun c _ => hc c) h.1, Int.le_trans (Int.ofNat_le.2 (hc z)) h.2⟩
theorem SmR.e {n z : Nat} {ρ : Nat → Int} (h : SmR n z ρ) (i : Nat) : SmR n z (erow ρ i) := h.of (fun c => by
  unfold erow
  split
  · rename_i e; rw [e]; exact Nat.le_refl _
  · simp)
theorem SmR.l {n z : Nat} {ρ : Nat → Int} (h : SmR n z ρ) (i : Nat) : SmR n z (lrow ρ i) := h.of (fun c => by unfold lrow; split <;> simp)
theorem small_det {n z : Nat} {rs : List (Nat → Int)} (hr : rs.length ≤ 10) (h : ∀ ρ ∈ rs, SmR n z ρ) {S : Nat} (hn : n ≤ 10) (hS : S < 2 ^ (n + 1)) : -430000000000000000 ≤ det rs (bitsL 11 S) ∧ det rs (bitsL 11 S) ≤ 430000000000000000 := by
  have := det_small rs n z hr (bitsL 11 S) (bitsL_sub hn hS) h
  split at this <;> omega
/-- the rows that a minor of k columns takes -/
def rsK (F : Nat → Nat → Int) (n k : Nat) : List (Nat → Int) := ((List.range n).drop (n - k)).map F
theorem rsK_len (F : Nat → Nat → Int) {n k : Nat} (hk : k ≤ n) : (rsK F n k).length = k := by unfold rsK; simp; omega
theorem rsK_succ (F : Nat → Nat → Int) {n k : Nat} (hk : k + 1 ≤ n) : rsK F n (k + 1) = F (n - (k + 1)) :: rsK F n k := by
  unfold rsK
  rw [List.drop_eq_getElem_cons (by simp; omega), List.map_cons, List.getElem_range, show n - (k + 1) + 1 = n - k from by omega]
theorem rsK_mem {F : Nat → Nat → Int} {n k : Nat} {ρ : Nat → Int} (h : ρ ∈ rsK F n k) : ∃ i, i < n ∧ ρ = F i := by
  unfold rsK at h
  obtain ⟨i, hi, e⟩ := List.mem_map.1 h
  exact ⟨i, List.mem_range.1 (List.mem_of_mem_drop hi), e.symm⟩
def minZ (F : Nat → Nat → Int) (n S : Nat) : Int := det (rsK F n (bitsL 11 S).length) (bitsL 11 S)
theorem minZ_none (F : Nat → Nat → Int) (n S : Nat) (h : (bitsL 11 S).length = 0) : minZ F n S = 1 := by
  unfold minZ; rw [h, List.length_eq_zero_iff.1 h]
  have : rsK F n 0 = [] := by unfold rsK; rw [List.drop_of_length_le (by simp)]; rfl
  rw [this]; rfl
theorem bits_less {i S : Nat} (hi : i < 11) (hS : S < 2048) (hb : S.testBit i = true) : (bitsL 11 (S - 2 ^ i)).length + 1 = (bitsL 11 S).length := by
  rw [erase_bits i hi S hS hb, List.length_erase_of_mem (mem_bitsL.2 ⟨hi, hb⟩)]
  have : 0 < (bitsL 11 S).length := List.length_pos_of_mem (mem_bitsL.2 ⟨hi, hb⟩)
  omega
/-- what a row's loop holds after i columns -/
def sumZ (F : Nat → Nat → Int) (n k S i : Nat) : Int := det (lrow (F (n - (k + 1))) i :: rsK F n k) (bitsL 11 S)
def sgZ (S i : Nat) : Int := (-1) ^ (bitsL i S).length
theorem sg_one (S i : Nat) : sgZ S i = 1 ∨ sgZ S i = -1 := by
  unfold sgZ
  generalize (bitsL i S).length = k
  induction k with
  | zero => left; rfl
  | succ k ih => rw [Int.pow_succ]; rcases ih with e | e <;> rw [e] <;> simp
theorem sg_yes {S i : Nat} (h : S.testBit i = true) : sgZ S (i + 1) = - sgZ S i := by
  unfold sgZ; rw [bitsL_succ, h]; simp [Int.pow_succ]
theorem sg_no {S i : Nat} (h : S.testBit i = false) : sgZ S (i + 1) = sgZ S i := by
  unfold sgZ; rw [bitsL_succ, h]; simp
theorem sum_no {F : Nat → Nat → Int} {n k S i : Nat} (h : S.testBit i = false) : sumZ F n k S (i + 1) = sumZ F n k S i := by
  unfold sumZ; rw [lrow_step, erow_no _ _ h]; omega
theorem sum_yes {F : Nat → Nat → Int} {n k S i : Nat} (hi : i < 11) (hS : S < 2048) (h : S.testBit i = true) (hk : (bitsL 11 S).length = k + 1) :
    sumZ F n k S (i + 1) = sumZ F n k S i + sgZ S i * F (n - (k + 1)) i * minZ F n (S - 2 ^ i) ∧ det (erow (F (n - (k + 1))) i :: rsK F n k) (bitsL 11 S) = sgZ S i * F (n - (k + 1)) i * minZ F n (S - 2 ^ i) := by
  have e := erow_det (F (n - (k + 1))) (rsK F n k) hi hS h
  have hl := bits_less hi hS h
  have e2 : minZ F n (S - 2 ^ i) = det (rsK F n k) (bitsL 11 (S - 2 ^ i)) := by unfold minZ; rw [show (bitsL 11 (S - 2 ^ i)).length = k from by omega]
  have e3 : det (erow (F (n - (k + 1))) i :: rsK F n k) (bitsL 11 S) = sgZ S i * F (n - (k + 1)) i * minZ F n (S - 2 ^ i) := by rw [e, e2, Int.mul_assoc]; rfl
  exact ⟨by unfold sumZ; rw [lrow_step, e3], e3⟩
theorem sum_start (F : Nat → Nat → Int) (n k S : Nat) : sumZ F n k S 0 = 0 := lrow_zero _ _ _
theorem sum_end (F : Nat → Nat → Int) {n k S : Nat} (hn : n ≤ 10) (hS : S < 2 ^ (n + 1)) (hk : (bitsL 11 S).length = k + 1) (hkn : k + 1 ≤ n) : sumZ F n k S (n + 1) = minZ F n S := by
  unfold sumZ minZ
  rw [lrow_all, hk, rsK_succ F hkn]
  intro c hc
  rw [bitsL_low (by omega) hS] at hc
  exact (mem_bitsL.1 hc).1
/-- the bounds of what the loop computes -/
theorem sum_bd {F : Nat → Nat → Int} {n z k S i : Nat} (hF : ∀ i, i < n → SmR n z (F i)) (hn : n ≤ 10) (hS : S < 2 ^ (n + 1)) (hkn : k + 1 ≤ n) :
    (-430000000000000000 ≤ sumZ F n k S i ∧ sumZ F n k S i ≤ 430000000000000000) ∧ (-430000000000000000 ≤ det (erow (F (n - (k + 1))) i :: rsK F n k) (bitsL 11 S) ∧ det (erow (F (n - (k + 1))) i :: rsK F n k) (bitsL 11 S) ≤ 430000000000000000) := by
  have hr : ∀ ρ ∈ rsK F n k, SmR n z ρ := fun ρ h => by obtain ⟨i, hi, rfl⟩ := rsK_mem h; exact hF i hi
  have hl := rsK_len F (n := n) (k := k) (by omega)
  refine ⟨small_det (z := z) (by simp; omega) (fun ρ h => ?_) hn hS, small_det (z := z) (by simp; omega) (fun ρ h => ?_) hn hS⟩
  · rcases List.mem_cons.1 h with rfl | h
    · exact (hF _ (by omega)).l _
    · exact hr ρ h
  · rcases List.mem_cons.1 h with rfl | h
    · exact (hF _ (by omega)).e _
    · exact hr ρ h
theorem min_bd {F : Nat → Nat → Int} {n z S : Nat} (hF : ∀ i, i < n → SmR n z (F i)) (hn : n ≤ 10) (hS : S < 2 ^ (n + 1)) (hkn : (bitsL 11 S).length ≤ n) :
    -430000000000000000 ≤ minZ F n S ∧ minZ F n S ≤ 430000000000000000 :=
  small_det (z := z) (by rw [rsK_len F hkn]; omega) (fun ρ h => by obtain ⟨i, hi, rfl⟩ := rsK_mem h; exact hF i hi) hn hS
theorem cell_bd {F : Nat → Nat → Int} {n z i j : Nat} (hF : ∀ i, i < n → SmR n z (F i)) (hi : i < n) (hj : j < n + 1) : -4040 ≤ F i j ∧ F i j ≤ 4040 := by
  by_cases e : j = z
  · subst e; have := (hF i hi).2; omega
  · have h1 := sumL_mem_le (l := (List.range (n + 1)).filter (fun c => c != z)) (f := fun c => ((F i c).natAbs : Int)) (fun _ _ => Int.natCast_nonneg _) (List.mem_filter.2 ⟨List.mem_range.2 hj, by simp [e]⟩)
    have h2 := (hF i hi).1
    unfold absL at h2
    have h3 : ((F i j).natAbs : Int) ≤ 28 := Int.le_trans h1 h2
    omega
end Go.Proofs.YtbnfnpakibkboaaGreat

namespace Go.Proofs.YtbnfnpakibkboaaGreat
set_option linter.unusedVariables false
set_option linter.unusedSimpArgs false

def hrow (ρ : Nat → Int) (i c : Nat) : Int := if i ≤ c then ρ c else 0
section
variable {F : Nat → Nat → Int} {k S i : Nat}
end
end Go.Proofs.YtbnfnpakibkboaaGreat

namespace Go.Proofs.YtbnfnpakibkboaaGreat
set_option linter.unusedVariables false
set_option linter.unusedSimpArgs false
open Go.RowKit

theorem grown_below {w w' : World} {b B : Nat} (h : w.grownBy w' (some b)) (hb : B ≤ b) (hB : B ≤ w.heap.size) : Below B w w' := bGrown (Below.refl B w) h (fun j e => by cases e; exact hb) hB
theorem wf_i64 {x : Int} (h1 : -9223372036854775808 ≤ x) (h2 : x ≤ 9223372036854775807) : (Lit.int .i64 x).wf = true := by
  simp [Lit.wf, IntKind.min, IntKind.max, IntKind.bits, IntKind.signed]; omega
/-- what cramer's closure holds: block bm is its map -/
structure CrA (w : World) (s q rb : Nat) (bs : Nat → Nat) (n : Nat) (F : Nat → Nat → Int) (ks : List (Int × Int)) : Prop where
  rows : Rw w q 31 #[.slice (some ⟨rb, 0, none⟩) n n]
  qn : Rw w (s + 1) 3 #[.int .i64 (n : Int)]
  known : Rw w (s + 3) 201 #[.map (some (s + 2))]
  minor : Rw w (s + 4) 151 #[.func (.func 153) #[] #[.pointer (some ⟨s + 3, 0, none⟩), .pointer (some ⟨q, 0, none⟩), .pointer (some ⟨s + 1, 0, none⟩), .pointer (some ⟨s + 4, 0, none⟩)]]
  m : ∃ B, Mx w B rb bs n (n + 1) n F
  lrb : rb < s
  lq : q < s
  lbs : ∀ i, i < n → bs i < s
  map : KmAt w (s + 2) ks
  ok : ∀ r ∈ ks, ∃ S : Nat, S < 2 ^ (n + 1) ∧ (bitsL 11 S).length ≤ n ∧ r = ((S : Int), minZ F n S)
  zero : ∃ d : Int, ((0 : Int), d) ∈ ks
theorem CrA.kept {w w' : World} {s q rb : Nat} {bs : Nat → Nat} {n : Nat} {F : Nat → Nat → Int} {ks ks' : List (Int × Int)} (h : CrA w s q rb bs n F ks) (hg : w.grownBy w' (some (s + 2))) (hm : KmAt w' (s + 2) ks')
    (hk : ∀ r ∈ ks', ∃ S : Nat, S < 2 ^ (n + 1) ∧ (bitsL 11 S).length ≤ n ∧ r = ((S : Int), minZ F n S)) (hz : ∃ d : Int, ((0 : Int), d) ∈ ks') : CrA w' s q rb bs n F ks' := by
  have hlt := h.minor.lt
  have hb : ∀ k, k < s + 5 → k ≠ s + 2 → w'.heap[k]? = w.heap[k]? := fun k h1 h2 => hg.block k (by omega) (fun e => h2 (Option.some.inj e))
  obtain ⟨B, hM⟩ := h.m
  exact ⟨(hb _ (by have := h.lq; omega) (by have := h.lq; omega)).trans h.rows, (hb _ (by omega) (by omega)).trans h.qn, (hb _ (by omega) (by omega)).trans h.known, (hb _ (by omega) (by omega)).trans h.minor,
    ⟨B, ⟨(hb _ (by have := h.lrb; omega) (by have := h.lrb; omega)).trans hM.r, fun i hi => (hb _ (by have := h.lbs i hi; omega) (by have := h.lbs i hi; omega)).trans (hM.q i hi), hM.inj, hM.ne, hM.lo, hM.lo2⟩⟩, h.lrb, h.lq, h.lbs, hm, hk, hz⟩
theorem CrA.kok {w : World} {s q rb : Nat} {bs : Nat → Nat} {n : Nat} {F : Nat → Nat → Int} {ks : List (Int × Int)} (h : CrA w s q rb bs n F ks) (hn : n ≤ 10) : kOk ks := fun r hr => by
  obtain ⟨S, h1, _, rfl⟩ := h.ok r hr
  have := Nat.pow_le_pow_right (show 0 < 2 by decide) (show n + 1 ≤ 11 by omega)
  refine wf_i64 ?_ ?_ <;> omega
def Mins (S s q rb : Nat) (bs : Nat → Nat) (n : Nat) (F : Nat → Nat → Int) (ks : List (Int × Int)) (w : World) : Ending → World → Prop := fun e w' => e = .returned (.int .i64 (minZ F n S)) ∧ ∃ ks', CrA w' s q rb bs n F ks' ∧ w.grownBy w' (some (s + 2)) ∧ ∀ q ∈ ks', q ∈ ks ∨ ∃ T : Nat, q.1 = (T : Int) ∧ (bitsL 11 T).length ≤ (bitsL 11 S).length
theorem below_grown {w w' : World} (h : Below w.heap.size w w') (r : Option Nat) : w.grownBy w' r := ⟨h.1, h.2, h.3, h.4, fun k hk _ => h.5 k hk⟩
set_option maxRecDepth 100000 in
set_option maxHeartbeats 4000000 in
theorem no_bits : ∀ S : Nat, S < 2048 → (bitsL 11 S).length = 0 → S = 0 := by decide +kernel
set_option maxRecDepth 100000 in
set_option maxHeartbeats 8000000 in
theorem minor_step (z n s q rb : Nat) (bs : Nat → Nat) (F : Nat → Nat → Int) (hn : n ≤ 10) (hF : ∀ i, i < n → SmR n z (F i)) (k : Nat) (hk1 : k + 1 ≤ n)
    (ih : ∀ S, S < 2 ^ (n + 1) → (bitsL 11 S).length = k → ∀ w ks, CrA w s q rb bs n F ks → Calls Tryz.prog 153 #[.int .i64 (S : Int), .pointer (some ⟨s + 3, 0, none⟩), .pointer (some ⟨q, 0, none⟩), .pointer (some ⟨s + 1, 0, none⟩), .pointer (some ⟨s + 4, 0, none⟩)] w (Mins S s q rb bs n F ks w))
    (S : Nat) (hS : S < 2 ^ (n + 1)) (hk : (bitsL 11 S).length = k + 1) (w : World) (ks : List (Int × Int)) (hC : CrA w s q rb bs n F ks) :
    Calls Tryz.prog 153 #[.int .i64 (S : Int), .pointer (some ⟨s + 3, 0, none⟩), .pointer (some ⟨q, 0, none⟩), .pointer (some ⟨s + 1, 0, none⟩), .pointer (some ⟨s + 4, 0, none⟩)] w (Mins S s q rb bs n F ks w) := by
  have hp := Nat.pow_le_pow_right (show 0 < 2 by decide) (show n + 1 ≤ 11 by omega)
  have hS2 : S < 2048 := by omega
  have hwfS : (Lit.int .i64 (S : Int)).wf = true := wf_i64 (by omega) (by omega)
  have e3 := hC.known.cell 0
  have e0 := hC.rows.cell 0
  have e1 := hC.qn.cell 0
  have HC := Lib.hid hC; have HF := Lib.hid hF; have HIH := Lib.hid ih; have HS0 := Lib.hid hS; have HK := Lib.hid hk; have HP := Lib.hid hp; have HS2 := Lib.hid hS2
  rcases km_look hC.map (hC.kok hn) hwfS with ⟨d, hd, hlk⟩ | ⟨hno, hlk⟩
  · obtain ⟨S', _, _, hr⟩ := hC.ok _ hd
    have h1 : S' = S := by injection hr with h1 h2; omega
    have h2 : d = minZ F n S := by injection hr with h3 h2; rw [h2, h1]
    subst h2
    unfold kn at hlk
    obtain ⟨v, hv⟩ : ∃ v, minZ F n S = v := ⟨_, rfl⟩
    have HV := Lib.hid hv
    rw [hv] at hlk
    clear hd hr h1 hC hF ih hS hk hp hS2 hwfS hv hk1 hn
    go_enter Tryz.func153, Tryz.ntmps153
    go_wp2
    go_ret
    exact ⟨by rw [HV.out]; rfl, ks, HC.out, World.grownBy.refl _ _, fun q hq => .inl hq⟩
  · have HNO := Lib.hid hno
    have H87 := Lib.hid (show ∀ wx, Below w.heap.size w wx → Calls Tryz.prog 87 #[.int .u64 (S : Int)] wx fun e w' => e = .returned (.int .i64 ((k : Int) + 1)) ∧ Below wx.heap.size wx w' from fun wx _ => by
      have := ones_any S hS2 wx
      rw [popc_bits S hS2, hk] at this
      exact this.mono (fun e w' h => ⟨h.1, by rw [← h.2]; exact Below.refl _ _⟩))
    obtain ⟨B, hM⟩ := hC.m
    have cr := hM.row (i := n - (k + 1)) (by omega) (by omega)
    have HQ := Lib.hid (hM.q (n - (k + 1)) (by omega))
    have hw1 : IntKind.i64.wrap ((n : Int) - ((k : Int) + 1)) = ((n - (k + 1) : Nat) : Int) := by rw [IntKind.wrap_i64]; omega
    have hi0 : ((n - (k + 1) : Nat) : Int) < (n : Int) := by omega
    have hi1 : (0 : Int) ≤ ((n - (k + 1) : Nat) : Int) := by omega
    have hw2 : IntKind.u64.wrap (S : Int) = (S : Int) := by rw [IntKind.wrap_u64]; omega
    unfold kn at hlk
    have HK1 := Lib.hid hk1; have HN := Lib.hid hn
    have HRS0 := Lib.hid (show ∀ wx, Below w.heap.size w wx → Rw wx q 31 #[.slice (some ⟨rb, 0, none⟩) n n] ∧ Rw wx (s + 1) 3 #[.int .i64 (n : Int)] ∧ wx.cell? ⟨rb, n - (k + 1), none⟩ = some (.slice (some ⟨bs (n - (k + 1)), 0, none⟩) (n + 1) (n + 1)) from fun wx h =>
      ⟨hC.rows.below h hC.rows.lt, hC.qn.below h hC.qn.lt, (hM.below h (Nat.le_refl _)).row (by omega) (by omega)⟩)
    obtain ⟨r, hr⟩ : ∃ r, n - (k + 1) = r := ⟨_, rfl⟩
    rw [hr] at hw1 hi0 hi1 cr HQ HRS0
    have HRS := HRS0
    have HR := Lib.hid hr
    clear hno hM hC hF ih hS hk hp hS2 hwfS hr hk1 hn
    go_enter Tryz.func153, Tryz.ntmps153
    go_wp2_with fail
    have hbq : Below w.heap.size w w.drew := (Below.refl _ _).drew
    have HS := Lib.hid (HRS.out _ hbq)
    refine wp_region_noPanic ?_
    refine wp_region_held_drew (S := fun wx => Rw wx (q) 31 #[.slice (some ⟨rb, 0, none⟩) n n] ∧ Rw wx (s + 1) 3 #[.int .i64 (n : Int)] ∧ wx.cell? ⟨rb, r, none⟩ = some (.slice (some ⟨bs r, 0, none⟩) (n + 1) (n + 1))) (by kernel_rfl) HS.out (fun _ => ?_)
    refine hTk (i := 0) (d := 21) (v := .slice (some ⟨rb, 0, none⟩) n n) rfl rfl (Or.inl ⟨rfl, by rintro W' ⟨r0, r1, r2⟩; have ry0 := r0.cell; have ry1 := r1.cell; go_simp⟩) HS.out ?_
    simp only [Act.put, sB, sZ, sS]
    refine hTk (i := 1) (d := 22) (v := .int .i64 (n : Int)) rfl rfl (Or.inl ⟨rfl, by rintro W' ⟨r0, r1, r2⟩; have ry0 := r0.cell; have ry1 := r1.cell; go_simp⟩) HS.out ?_
    simp only [Act.put, sB, sZ, sS]
    refine hTk (i := 2) (d := 23) (v := .int .i64 (S : Int)) rfl rfl (Or.inl ⟨rfl, by rintro W' ⟨r0, r1, r2⟩; have ry0 := r0.cell; have ry1 := r1.cell; go_simp⟩) HS.out ?_
    simp only [Act.put, sB, sZ, sS]
    refine hTk (i := 3) (d := 24) (v := .int .u64 (S : Int)) rfl rfl (Or.inl ⟨rfl, by rintro W' ⟨r0, r1, r2⟩; have ry0 := r0.cell; have ry1 := r1.cell; go_simp⟩) HS.out ?_
    simp only [Act.put, sB, sZ, sS]
    refine hTk (i := 9) (d := 30) (v := .int .i64 0) rfl rfl (Or.inl ⟨rfl, by rintro W' ⟨r0, r1, r2⟩; have ry0 := r0.cell; have ry1 := r1.cell; go_simp⟩) HS.out ?_
    simp only [Act.put, sB, sZ, sS]
    refine wpAnyH_ready (rs := [4]) (by kernel_rfl) (by simp) ?_
    refine AllReadyH.cons rfl (fun K hK => ?_) AllReadyH.nil
    rw [if_pos (by rfl)]
    go_simp
    go_at_call 87
    (with_reducible refine (H87.out _ hbq).mono ?_)
    rintro e wc0 ⟨rfl, hbn⟩
    replace hbq := hbq.trans (hbn.mono hbq.size)
    clear hbn
    have HS := Lib.hid (HRS.out _ hbq)
    refine hK.out _ _ HS.out (fun _ => ?_)
    clear hK K
    try simp only [Act.put, sB, sZ, sS]
    refine hTk (i := 5) (d := 26) (v := .int .i64 (r : Int)) rfl rfl (Or.inl ⟨rfl, by rintro W' ⟨r0, r1, r2⟩; have ry0 := r0.cell; have ry1 := r1.cell; go_simp⟩) HS.out ?_
    simp only [Act.put, sB, sZ, sS]
    refine hTk (i := 6) (d := 27) (v := .pointer (some ⟨rb, r, none⟩)) rfl rfl (Or.inl ⟨rfl, by rintro W' ⟨r0, r1, r2⟩; have ry0 := r0.cell; have ry1 := r1.cell; go_simp⟩) HS.out ?_
    simp only [Act.put, sB, sZ, sS]
    refine hTk (i := 7) (d := 28) (v := .slice (some ⟨bs r, 0, none⟩) (n + 1) (n + 1)) rfl rfl (Or.inl ⟨rfl, by rintro W' ⟨r0, r1, r2⟩; have ry0 := r0.cell; have ry1 := r1.cell; go_simp⟩) HS.out ?_
    simp only [Act.put, sB, sZ, sS]
    refine hTk (i := 8) (d := 29) (v := .int .i64 ((n : Int) + 1)) rfl rfl (Or.inl ⟨rfl, by rintro W' ⟨r0, r1, r2⟩; have ry0 := r0.cell; have ry1 := r1.cell; go_simp⟩) HS.out ?_
    simp only [Act.put, sB, sZ, sS]
    refine wpAnyH_done (by kernel_rfl) ?_ _
    clear HS
    refine NoPanic.normal ?_
    have hg0 := below_grown hbq (some (s + 2))
    have HG0 := Lib.hid hg0
    have HC0 := Lib.hid (HC.out.kept hg0 (HC.out.map.kept (hbq.5 _ HC.out.map.lt)) HC.out.ok HC.out.zero)
    have HNE := Lib.hid (show ∀ q ∈ ks, q.1 ≠ (S : Int) from HNO.out)
    have HS' := HS0
    clear hg0 hbq e3 e0 e1 cr hlk hi0 hi1 hw1 hw2 HRS HRS0 H87 HQ HC HNO
    go_wp2
    go_loopw [9, 10, 30] (fun s9 s10 s30 wr => ∃ (i : Nat) (ks' : List (Int × Int)), i ≤ n + 1 ∧ s30 = .int .i64 (i : Int) ∧ s9 = .int .i64 (sumZ F n k S i) ∧ s10 = .int .i64 (sgZ S i) ∧ CrA wr s q rb bs n F ks' ∧ w.grownBy wr (some (s + 2)) ∧ ∀ q ∈ ks', q ∈ ks ∨ ∃ T : Nat, q.1 = (T : Int) ∧ (bitsL 11 T).length ≤ k) (fun _ _ s30 _ => n + 1 - (intOf s30).toNat)
    case atStart => exact ⟨0, ks, Nat.zero_le _, rfl, by rw [sum_start], rfl, HC0.out, HG0.out, fun q hq => .inl hq⟩
    case round =>
      obtain ⟨i, kt, hi, rfl, rfl, rfl, hcr, hgr, hkt⟩ := hrel
      by_cases hin : i < n + 1
      · have hii : (i : Int) < (n : Int) + 1 := by omega
        have hi0 : (0 : Int) ≤ (i : Int) := by omega
        obtain ⟨B2, hM2⟩ := hcr.m
        have c0 := (hM2.q r (by have := HR.out; have := HK1.out; omega)).cell hin
        have em := hcr.minor.cell 0
        obtain ⟨x, hx⟩ : ∃ x, F r i = x := ⟨_, rfl⟩
        have hi11 : i < 11 := by have := HN.out; omega
        have hpb : 2 ^ i ≤ 2 ^ 10 := Nat.pow_le_pow_right (by decide) (by omega)
        have hp0 : 0 < 2 ^ i := Nat.pow_pos (by decide)
        have hsh0 := shr_bits i hi11 S HS2.out
        have hsh : bits BinOp.and .i64 ((S : Int) / 2 ^ i) 1 = (if S.testBit i = true then 1 else 0) := by rw [Int.natCast_pow] at hsh0; exact hsh0
        have hsg := sg_one S i
        have hng : wrap64 (- sgZ S i) = - sgZ S i := by rcases hsg with e | e <;> rw [e] <;> (simp only [wrap64]; omega)
        have hF' : ∀ j, j < n → SmR n z (F j) := HF.out
        have hxb := cell_bd hF' (show r < n by have := HR.out; have := HK1.out; omega) hin
        have hbd := sum_bd (i := i) hF' HN.out HS'.out HK1.out
        have hbd1 := (sum_bd (i := i + 1) hF' HN.out HS'.out HK1.out).1
        rw [HR.out] at hbd
        have HI := Lib.hid hin; have HCR := Lib.hid hcr; have HGR := Lib.hid hgr; have HKT := Lib.hid hkt
        rw [hx] at c0 hxb
        clear hcr hgr hkt hM2 hin hsh0 hF'
        by_cases hb : S.testBit i = true
        · rw [if_pos hb] at hsh
          obtain ⟨e1, e2⟩ := sum_yes (F := F) (n := n) hi11 HS2.out hb HK.out
          have e3 := sg_yes hb
          have hle : 2 ^ i ≤ S := by
            rcases Nat.lt_or_ge S (2 ^ i) with h | h
            · rw [Nat.testBit_lt_two_pow h] at hb; cases hb
            · exact h
          have hl := bits_less hi11 HS2.out hb
          have hand0 := andNot_bits i hi11 S HS2.out hb
          have hand1 : bits BinOp.andNot .i64 (S : Int) (2 ^ i) = ((S - 2 ^ i : Nat) : Int) := by rw [Int.natCast_pow] at hand0; exact hand0
          have hpw : IntKind.i64.wrap ((2 : Int) ^ i) = 2 ^ i := by
            have : ((2 : Int) ^ i) = ((2 ^ i : Nat) : Int) := by rw [Int.natCast_pow]; rfl
            rw [this, IntKind.wrap_i64]; omega
          rw [HR.out, hx] at e1 e2
          rw [e2] at hbd
          obtain ⟨c, hc⟩ : ∃ c, S - 2 ^ i = c := ⟨_, rfl⟩
          rw [hc] at e1 e2 hl hand1 hbd
          obtain ⟨sm, hsm⟩ : ∃ g, sumZ F n k S i = g := ⟨_, rfl⟩
          obtain ⟨sg, hsgn⟩ : ∃ g, sgZ S i = g := ⟨_, rfl⟩
          obtain ⟨mm, hmm⟩ : ∃ g, minZ F n c = g := ⟨_, rfl⟩
          rw [hsgn] at e3 hsg hng
          rw [hsm, hsgn, hmm] at e1 hbd
          rw [e1] at hbd1
          have HC := Lib.hid (show c < 2 ^ (n + 1) ∧ (bitsL 11 c).length = k from ⟨by have := HS'.out; omega, by have := HK.out; omega⟩)
          have HE1 := Lib.hid e1; have HE3 := Lib.hid e3
          rw [hsm, hsgn]
          have HM := Lib.hid hmm
          clear e1 e2 e3 hle hl hand0 hc hsm hsgn hmm
          by_cases hx0 : x = 0
          · subst hx0
            clear hbd hbd1 hxb hpw hand1
            go_wp2
            go_roundw
            case rel => exact ⟨i + 1, kt, by have := HI.out; omega, by go_num, by rw [HE1.out]; simp, by rw [HE3.out], HCR.out, HGR.out, HKT.out⟩
            case measure => have := HI.out; simp [intOf] <;> omega
          · have hw45 : IntKind.i64.wrap (sg * x) = sg * x := by rw [IntKind.wrap_i64]; rcases hsg with e | e <;> rw [e] <;> omega
            have hw52 : IntKind.i64.wrap (sg * x * mm) = sg * x * mm := by rw [IntKind.wrap_i64]; have := hbd.2; omega
            have hw53 : IntKind.i64.wrap (sm + sg * x * mm) = sm + sg * x * mm := by rw [IntKind.wrap_i64]; omega
            have HCALL := Lib.hid (show ∀ wx, Below wr.heap.size wr wx → Calls Tryz.prog 153 #[.int .i64 (c : Int), .pointer (some ⟨s + 3, 0, none⟩), .pointer (some ⟨q, 0, none⟩), .pointer (some ⟨s + 1, 0, none⟩), .pointer (some ⟨s + 4, 0, none⟩)] wx (fun e w' => e = .returned (.int .i64 mm) ∧ ∃ kt2, CrA w' s q rb bs n F kt2 ∧ wr.grownBy w' (some (s + 2)) ∧ ∀ q ∈ kt2, q ∈ ks ∨ ∃ T : Nat, q.1 = (T : Int) ∧ (bitsL 11 T).length ≤ k) from fun wx h => by
              have hg := below_grown h (some (s + 2))
              have := HIH.out c HC.out.1 HC.out.2 wx kt (HCR.out.kept hg (HCR.out.map.kept (h.5 _ HCR.out.map.lt)) HCR.out.ok HCR.out.zero)
              refine this.mono (fun e w' hp => ?_)
              obtain ⟨p1, kt2, p2, p3, p4⟩ := hp
              refine ⟨by rw [p1, HM.out], kt2, p2, hg.trans p3, fun q hq => ?_⟩
              rcases p4 q hq with h | ⟨T, h1, h2⟩
              · exact HKT.out q h
              · exact .inr ⟨T, h1, by rw [HC.out.2] at h2; exact h2⟩)
            have HRS := Lib.hid (show ∀ wx, Below wr.heap.size wr wx → Rw wx (s + 4) 151 #[.func (.func 153) #[] #[.pointer (some ⟨s + 3, 0, none⟩), .pointer (some ⟨q, 0, none⟩), .pointer (some ⟨s + 1, 0, none⟩), .pointer (some ⟨s + 4, 0, none⟩)]] from fun wx h => HCR.out.minor.below h HCR.out.minor.lt)
            clear hbd hbd1 hxb
            go_wp2_with fail
            have hbq : Below wr.heap.size wr wr.drew := (Below.refl _ _).drew
            have HS := Lib.hid (HRS.out _ hbq)
            refine wp_region_noPanic ?_
            refine wp_region_held_drew (S := fun wx => Rw wx (s + 4) 151 #[.func (.func 153) #[] #[.pointer (some ⟨s + 3, 0, none⟩), .pointer (some ⟨q, 0, none⟩), .pointer (some ⟨s + 1, 0, none⟩), .pointer (some ⟨s + 4, 0, none⟩)]]) (by kernel_rfl) HS.out (fun _ => ?_)
            refine hTk (i := 0) (d := 42) (v := .int .i64 sm) rfl rfl (Or.inl ⟨rfl, by rintro W' r0; have ry0 := r0.cell; go_simp⟩) HS.out ?_
            simp only [Act.put, sB, sZ, sS]
            refine hTk (i := 1) (d := 43) (v := .int .i64 sg) rfl rfl (Or.inl ⟨rfl, by rintro W' r0; have ry0 := r0.cell; go_simp⟩) HS.out ?_
            simp only [Act.put, sB, sZ, sS]
            refine hTk (i := 2) (d := 44) (v := .int .i64 x) rfl rfl (Or.inl ⟨rfl, by rintro W' r0; have ry0 := r0.cell; go_simp⟩) HS.out ?_
            simp only [Act.put, sB, sZ, sS]
            refine hTk (i := 3) (d := 45) (v := .int .i64 (sg * x)) rfl rfl (Or.inl ⟨rfl, by rintro W' r0; have ry0 := r0.cell; go_simp⟩) HS.out ?_
            simp only [Act.put, sB, sZ, sS]
            refine hTk (i := 4) (d := 46) (v := .func (.func 153) #[] #[.pointer (some ⟨s + 3, 0, none⟩), .pointer (some ⟨q, 0, none⟩), .pointer (some ⟨s + 1, 0, none⟩), .pointer (some ⟨s + 4, 0, none⟩)]) rfl rfl (Or.inl ⟨rfl, by rintro W' r0; have ry0 := r0.cell; go_simp⟩) HS.out ?_
            simp only [Act.put, sB, sZ, sS]
            refine hTk (i := 5) (d := 47) (v := .int .i64 (S : Int)) rfl rfl (Or.inl ⟨rfl, by rintro W' r0; have ry0 := r0.cell; go_simp⟩) HS.out ?_
            simp only [Act.put, sB, sZ, sS]
            refine hTk (i := 6) (d := 48) (v := .int .i64 (i : Int)) rfl rfl (Or.inl ⟨rfl, by rintro W' r0; have ry0 := r0.cell; go_simp⟩) HS.out ?_
            simp only [Act.put, sB, sZ, sS]
            refine hTk (i := 7) (d := 49) (v := .int .i64 (2 ^ i)) rfl rfl (Or.inl ⟨rfl, by rintro W' r0; have ry0 := r0.cell; go_simp⟩) HS.out ?_
            simp only [Act.put, sB, sZ, sS]
            refine hTk (i := 8) (d := 50) (v := .int .i64 (c : Int)) rfl rfl (Or.inl ⟨rfl, by rintro W' r0; have ry0 := r0.cell; go_simp⟩) HS.out ?_
            simp only [Act.put, sB, sZ, sS]
            refine wpAnyH_ready (rs := [9]) (by kernel_rfl) (by simp) ?_
            refine AllReadyH.cons rfl (fun K hK => ?_) AllReadyH.nil
            rw [if_pos (by rfl)]
            go_simp
            go_at_call 153
            (with_reducible refine (HCALL.out _ hbq).mono ?_)
            rintro e wc0 ⟨rfl, kt2, hcr2, hgr2, hkt2⟩
            have HS := Lib.hid hcr2.minor
            refine hK.out _ _ HS.out (fun _ => ?_)
            clear hK K
            try simp only [Act.put, sB, sZ, sS]
            refine hTk (i := 10) (d := 52) (v := .int .i64 (sg * x * mm)) rfl rfl (Or.inl ⟨rfl, by rintro W' r0; have ry0 := r0.cell; go_simp⟩) HS.out ?_
            simp only [Act.put, sB, sZ, sS]
            refine hTk (i := 11) (d := 53) (v := .int .i64 (sm + sg * x * mm)) rfl rfl (Or.inl ⟨rfl, by rintro W' r0; have ry0 := r0.cell; go_simp⟩) HS.out ?_
            simp only [Act.put, sB, sZ, sS]
            refine hTk (i := 12) (d := 9) (v := .int .i64 (sm + sg * x * mm)) rfl rfl (Or.inl ⟨rfl, by rintro W' r0; have ry0 := r0.cell; go_simp⟩) HS.out ?_
            simp only [Act.put, sB, sZ, sS]
            refine wpAnyH_done (by kernel_rfl) ?_ _
            clear HS
            refine NoPanic.normal ?_
            go_wp2
            go_roundw
            case rel => exact ⟨i + 1, kt2, by have := HI.out; omega, by go_num, by rw [HE1.out], by rw [HE3.out], hcr2, HGR.out.trans hgr2, hkt2⟩
            case measure => have := HI.out; simp [intOf] <;> omega
        · rw [if_neg hb] at hsh
          have e1 := sum_no (F := F) (n := n) (k := k) (Bool.not_eq_true _ ▸ hb)
          have e3 := sg_no (S := S) (i := i) (Bool.not_eq_true _ ▸ hb)
          have HE1 := Lib.hid e1; have HE3 := Lib.hid e3
          clear hbd hbd1 hxb e1 e3 hng hsg
          go_wp2
          go_roundw
          case rel => exact ⟨i + 1, kt, by have := HI.out; omega, by go_num, by rw [HE1.out], by rw [HE3.out], HCR.out, HGR.out, HKT.out⟩
          case measure => have := HI.out; simp [intOf] <;> omega
      · have hii : ¬ (i : Int) < (n : Int) + 1 := by omega
        obtain rfl : i = n + 1 := by omega
        have hse := sum_end F HN.out HS'.out HK.out HK1.out
        have hnk : ∀ q ∈ kt, q.1 ≠ (S : Int) := fun q hq e => by
          rcases hkt q hq with h | ⟨T, h1, h2⟩
          · exact HNE.out q h e
          · have h3 : T = S := by omega
            rw [h3, HK.out] at h2; omega
        obtain ⟨v, hv⟩ : ∃ v, minZ F n S = v := ⟨_, rfl⟩
        have HV := Lib.hid hv
        rw [hse, hv]
        obtain ⟨w2, hup, hm2, hg2⟩ := km_add hcr.map (hcr.kok HN.out) (wf_i64 (x := (S : Int)) (by omega) (by have := HS2.out; omega)) hnk v
        have ek := hcr.known.cell 0
        have HEND := Lib.hid (show ∃ ks', CrA w2 s q rb bs n F ks' ∧ w.grownBy w2 (some (s + 2)) ∧ ∀ q ∈ ks', q ∈ ks ∨ ∃ T : Nat, q.1 = (T : Int) ∧ (bitsL 11 T).length ≤ (bitsL 11 S).length from by
          refine ⟨_, hcr.kept hg2 hm2 (fun q hq => ?_) (by obtain ⟨d, hd⟩ := hcr.zero; exact ⟨d, List.mem_append_left _ hd⟩), hgr.trans hg2, fun q hq => ?_⟩
          · rcases List.mem_append.1 hq with h | h
            · exact hcr.ok q h
            · exact ⟨S, HS'.out, by have := HK.out; have := HK1.out; omega, by rw [List.mem_singleton.1 h, hv]⟩
          · rcases List.mem_append.1 hq with h | h
            · rcases hkt q h with h | ⟨T, h1, h2⟩
              · exact .inl h
              · exact .inr ⟨T, h1, by have := HK.out; omega⟩
            · exact .inr ⟨S, by rw [List.mem_singleton.1 h], Nat.le_refl _⟩)
        unfold kn at hup
        clear hm2 hg2 hnk hse hv hcr hgr hkt
        go_wp2
        go_ret
        exact ⟨by rw [HV.out]; rfl, HEND.out⟩
set_option maxRecDepth 100000 in
set_option maxHeartbeats 8000000 in
theorem minor_zero (n s q rb : Nat) (bs : Nat → Nat) (F : Nat → Nat → Int) (hn : n ≤ 10)
    (S : Nat) (hS : S < 2 ^ (n + 1)) (hk : (bitsL 11 S).length = 0) (w : World) (ks : List (Int × Int)) (hC : CrA w s q rb bs n F ks) :
    Calls Tryz.prog 153 #[.int .i64 (S : Int), .pointer (some ⟨s + 3, 0, none⟩), .pointer (some ⟨q, 0, none⟩), .pointer (some ⟨s + 1, 0, none⟩), .pointer (some ⟨s + 4, 0, none⟩)] w (Mins S s q rb bs n F ks w) := by
  have hp := Nat.pow_le_pow_right (show 0 < 2 by decide) (show n + 1 ≤ 11 by omega)
  have hS2 : S < 2048 := by omega
  have hwfS : (Lit.int .i64 (S : Int)).wf = true := wf_i64 (by omega) (by omega)
  have e3 := hC.known.cell 0
  have HC := Lib.hid hC
  rcases km_look hC.map (hC.kok hn) hwfS with ⟨d, hd, hlk⟩ | ⟨hno, hlk⟩
  · obtain ⟨S', _, _, hr⟩ := hC.ok _ hd
    have h1 : S' = S := by injection hr with h1 h2; omega
    have h2 : d = minZ F n S := by injection hr with h3 h2; rw [h2, h1]
    subst h2
    unfold kn at hlk
    obtain ⟨v, hv⟩ : ∃ v, minZ F n S = v := ⟨_, rfl⟩
    have HV := Lib.hid hv
    rw [hv] at hlk
    clear hd hr h1 hC hS hk hp hS2 hwfS hv hn
    go_enter Tryz.func153, Tryz.ntmps153
    go_wp2
    go_ret
    exact ⟨by rw [HV.out]; rfl, ks, HC.out, World.grownBy.refl _ _, fun q hq => .inl hq⟩
  · obtain ⟨d, hd⟩ := hC.zero
    exact absurd (show ((0 : Int), d).1 = (S : Int) by rw [no_bits S hS2 hk]; rfl) (hno _ hd)
theorem minor_any (z n s q rb : Nat) (bs : Nat → Nat) (F : Nat → Nat → Int) (hn : n ≤ 10) (hF : ∀ i, i < n → SmR n z (F i)) (k : Nat) (hk1 : k ≤ n) :
    ∀ S, S < 2 ^ (n + 1) → (bitsL 11 S).length = k → ∀ w ks, CrA w s q rb bs n F ks → Calls Tryz.prog 153 #[.int .i64 (S : Int), .pointer (some ⟨s + 3, 0, none⟩), .pointer (some ⟨q, 0, none⟩), .pointer (some ⟨s + 1, 0, none⟩), .pointer (some ⟨s + 4, 0, none⟩)] w (Mins S s q rb bs n F ks w) := by
  induction k with
  | zero => exact fun S hS hk w ks hC => minor_zero n s q rb bs F hn S hS hk w ks hC
  | succ k ih => exact fun S hS hk w ks hC => minor_step z n s q rb bs F hn hF k hk1 (ih (by omega)) S hS hk w ks hC
end Go.Proofs.YtbnfnpakibkboaaGreat

namespace Go.Proofs.YtbnfnpakibkboaaGreat
set_option linter.unusedVariables false
set_option linter.unusedSimpArgs false
open Go.RowKit
open Go.ChangeMaps (setBlock heap_setBlock_same heap_setBlock_other)

theorem pow_wrap {n : Nat} (hn : n ≤ 11) : wrap64 ((2 : Int) ^ n) = 2 ^ n ∧ IntKind.i64.wrap ((2 : Int) ^ n) = 2 ^ n := by
  have h : ((2 : Int) ^ n) = ((2 ^ n : Nat) : Int) := by rw [Int.natCast_pow]; rfl
  have h2 : 2 ^ n ≤ 2048 := Nat.pow_le_pow_right (show 0 < 2 by decide) hn
  rw [h]
  generalize 2 ^ n = k at h2
  exact ⟨by simp only [wrap64]; omega, by rw [IntKind.wrap_i64]; omega⟩
theorem bits_zero : bitsL 11 0 = [] := by unfold bitsL; rw [List.filter_eq_nil_iff]; intro i _; simp
theorem bits_all {n : Nat} (hn : n ≤ 10) : bitsL 11 (2 ^ (n + 1) - 1) = List.range (n + 1) := by
  rw [bitsL_low (n := n + 1) (by omega) (by have := Nat.pow_pos (n := n + 1) (show 0 < 2 by decide); omega)]
  unfold bitsL
  rw [List.filter_eq_self]
  intro i hi
  rw [Nat.testBit_two_pow_sub_one]
  exact decide_eq_true (List.mem_range.1 hi)
theorem idxOf_firstN {l : List Nat} {x : Nat} {i : Nat} (hi : i < l.length) (hx : l[i] = x) (hb : ∀ j (hj : j < l.length), j < i → l[j] ≠ x) : l.idxOf x = i := by
  have hm : x ∈ l := by rw [← hx]; exact List.getElem_mem hi
  have h1 := List.idxOf_lt_length_iff.2 hm
  have h2 := List.getElem_idxOf h1
  rcases Nat.lt_trichotomy (l.idxOf x) i with q | q | q
  · exact absurd h2 (hb _ h1 q)
  · exact q
  · exfalso
    have h3 := List.not_of_lt_findIdx (p := (· == x)) (xs := l) (i := i) (by simpa [List.idxOf] using q)
    exact absurd hx (by simpa using h3)
theorem bits_but {n i : Nat} (hn : n ≤ 10) (hi : i ≤ n) : bitsL 11 (2 ^ (n + 1) - 1 - 2 ^ i) = (List.range (n + 1)).eraseIdx i ∧ (2 ^ (n + 1) - 1).testBit i = true ∧ 2 ^ (n + 1) - 1 < 2048 := by
  have h1 : (2 ^ (n + 1) - 1).testBit i = true := by rw [Nat.testBit_two_pow_sub_one]; exact decide_eq_true (by omega)
  have hp := Nat.pow_le_pow_right (show 0 < 2 by decide) (show n + 1 ≤ 11 by omega)
  have hp1 := Nat.pow_pos (n := n + 1) (show 0 < 2 by decide)
  refine ⟨?_, h1, by omega⟩
  rw [erase_bits i (by omega) _ (by omega) h1, bits_all hn]
  exact List.erase_eq_eraseIdx_of_idxOf (idxOf_firstN (l := List.range (n + 1)) (x := i) (i := i) (by simp; omega) (by rw [List.getElem_range]) (fun j hj h => by rw [List.getElem_range]; omega))
theorem CrA.moved {w w' : World} {s q rb : Nat} {bs : Nat → Nat} {n : Nat} {F : Nat → Nat → Int} {ks : List (Int × Int)} (h : CrA w s q rb bs n F ks) (hg : ∀ k, k < s + 5 → w'.heap[k]? = w.heap[k]?) : CrA w' s q rb bs n F ks := by
  obtain ⟨B, hM⟩ := h.m
  exact ⟨(hg _ (by have := h.lq; omega)).trans h.rows, (hg _ (by omega)).trans h.qn, (hg _ (by omega)).trans h.known, (hg _ (by omega)).trans h.minor,
    ⟨B, ⟨(hg _ (by have := h.lrb; omega)).trans hM.r, fun i hi => (hg _ (by have := h.lbs i hi; omega)).trans (hM.q i hi), hM.inj, hM.ne, hM.lo, hM.lo2⟩⟩, h.lrb, h.lq, h.lbs, h.map.kept (hg _ (by omega)), h.ok, h.zero⟩
theorem set3 {w : World} {k : Nat} {v0 v1 v2 : Value} :
    (∀ (t : TypeId) (c0 c1 c2 : Value), Rw w k t #[c0, c1, c2] → Rw (((w.setCell ⟨k, 0, none⟩ v0).setCell ⟨k, 1, none⟩ v1).setCell ⟨k, 2, none⟩ v2) k t #[v0, v1, v2]) ∧
    (∀ j, j ≠ k → (((w.setCell ⟨k, 0, none⟩ v0).setCell ⟨k, 1, none⟩ v1).setCell ⟨k, 2, none⟩ v2).heap[j]? = w.heap[j]?) ∧
    (∀ B, B ≤ k → Below B w (((w.setCell ⟨k, 0, none⟩ v0).setCell ⟨k, 1, none⟩ v1).setCell ⟨k, 2, none⟩ v2)) := by
  refine ⟨fun t c0 c1 c2 h => ?_, fun j hj => ?_, fun B hB => ?_⟩
  · exact ((h.set 0 v0).set 1 v1).set 2 v2
  · exact (Below.heap_setCell _ _ _ j hj).trans ((Below.heap_setCell _ _ _ j hj).trans (Below.heap_setCell _ _ _ j hj))
  · exact (((Below.refl B w).setCell (p := ⟨k, 0, none⟩) hB v0).setCell (p := ⟨k, 1, none⟩) hB v1).setCell (p := ⟨k, 2, none⟩) hB v2
theorem len_but {n i : Nat} (hn : n ≤ 10) (hi : i ≤ n) : (bitsL 11 (2 ^ (n + 1) - 1 - 2 ^ i)).length = n := by
  rw [(bits_but hn hi).1, List.length_eraseIdx, if_pos (by simp; omega)]; simp
theorem min_but (F : Nat → Nat → Int) {n i : Nat} (hn : n ≤ 10) (hi : i ≤ n) : minZ F n (2 ^ (n + 1) - 1 - 2 ^ i) = det ((List.range n).map F) ((List.range (n + 1)).eraseIdx i) := by
  unfold minZ
  rw [len_but hn hi, (bits_but hn hi).1]
  unfold rsK
  rw [Nat.sub_self, List.drop_zero]
theorem min_under (F : Nat → Nat → Int) {n : Nat} (hn : n ≤ 10) : minZ F n (2 ^ (n + 1) - 1 - 2 ^ n) = cramD F n := by
  rw [min_but F hn (Nat.le_refl _), range_erase_last]; rfl
theorem min_volt (F : Nat → Nat → Int) {n i : Nat} (hn : n ≤ 10) (hi : i < n) : (-1) ^ (n - 1 - i) * minZ F n (2 ^ (n + 1) - 1 - 2 ^ i) = cramN F n i := by
  rw [min_but F hn (by omega)]; rfl
theorem sgn_mod (k : Nat) : 1 - 2 * ((k % 2 : Nat) : Int) = (-1) ^ k := by
  induction k with
  | zero => rfl
  | succ k ih => rw [Int.pow_succ, ← ih]; omega
/-- the frame of cramer behind its first six regions -/
def FCr (s tb : Nat) (al : Nat) (u : Nat → Value) : Array Value := #[u 0, .pointer (some ⟨s, 0, none⟩), .pointer (some ⟨s + 1, 0, none⟩), .pointer (some ⟨s + 1 + 1, 0, none⟩), .pointer (some ⟨s + 4, 0, none⟩), .pointer (some ⟨s + 4 + 1, 0, none⟩), .int .i64 (al : Int), .pointer (some ⟨tb, 0, none⟩), u 8, u 9, u 10, u 11, u 12, u 13, u 14, u 15, u 16, u 17, u 18, u 19, u 20, u 21, u 22, u 23, u 24, u 25, u 26, u 27, u 28, u 29, u 30, u 31, u 32, u 33, u 34, u 35, u 36, u 37, u 38, u 39, u 40, u 41, u 42, u 43, u 44, u 45, u 46, u 47, u 48, u 49, u 50, u 51]
/-- worlds that differ at block m and from B on alone -/
structure Bt (m B : Nat) (a b : World) : Prop where
  os : b.os = a.os
  tape : b.tape = a.tape
  output : b.output = a.output
  size : a.heap.size ≤ b.heap.size
  block : ∀ k, k < B → k ≠ m → b.heap[k]? = a.heap[k]?
theorem Bt.refl (m B : Nat) (a : World) : Bt m B a a := ⟨rfl, rfl, rfl, Nat.le_refl _, fun _ _ _ => rfl⟩
theorem Bt.trans {m B : Nat} {a b c : World} (h : Bt m B a b) (k : Bt m B b c) : Bt m B a c := ⟨k.os.trans h.os, k.tape.trans h.tape, k.output.trans h.output, Nat.le_trans h.size k.size, fun j h1 h2 => (k.block j h1 h2).trans (h.block j h1 h2)⟩
theorem Bt.of {m B : Nat} {a b : World} (h : Below B a b) : Bt m B a b := ⟨h.1, h.2, h.3, h.4, fun k h1 _ => h.5 k h1⟩
theorem Bt.drew {m B : Nat} {a b : World} (h : Bt m B a b) : Bt m B a b.drew := ⟨h.os, h.tape, h.output, h.size, h.block⟩
theorem Bt.alloc {m B : Nat} {a b : World} (h : Bt m B a b) (hB : B ≤ b.heap.size) (o : Obj) : Bt m B a (b.alloc o) := h.trans (Bt.of ((Below.refl B b).alloc hB o))
theorem Bt.grown {m B : Nat} {a b c : World} (h : Bt m B a b) (hg : b.grownBy c (some m)) (hB : B ≤ b.heap.size) : Bt m B a c := h.trans ⟨hg.os, hg.tape, hg.output, hg.size, fun k h1 h2 => hg.block k (by omega) (fun e => h2 (Option.some.inj e))⟩
theorem btGrown {m B : Nat} {a b c : World} {row : Option Nat} (h : Bt m B a b) (hg : b.grownBy c row) (hr : ∀ j, row = some j → B ≤ j) (hB : B ≤ b.heap.size) : Bt m B a c := h.trans (Bt.of (bGrown (Below.refl B b) hg hr hB))
set_option maxRecDepth 100000 in
set_option maxHeartbeats 8000000 in
theorem cramer_any (z n rb : Nat) (bs : Nat → Nat) (F : Nat → Nat → Int) (hn : n ≤ 10) (hF : ∀ i, i < n → SmR n z (F i)) (B : Nat) (w : World) (hM : Mx w B rb bs n (n + 1) n F) :
    Calls Tryz.prog 146 #[.slice (some ⟨rb, 0, none⟩) n n] w fun e w' => ∃ (A : Option Addr) (c : Nat), e = .returned (.agg #[.slice A n c, .slice none 0 0, .int .i64 (cramD F n)]) ∧ Own w' w.heap.size 3 1 fI (.slice A n c) ((List.range n).map (cramN F n)) ∧ Below w.heap.size w w' := by
  have HM := Lib.hid hM
  have HF := Lib.hid hF
  clear hM hF
  have hmk := fun W : World => (show (Instr.makeMap 201 none).run Tryz.prog W = .ok (.map (some W.heap.size)) (W.alloc (.map #[] 0)) from rfl)
  go_enter Tryz.func146, Tryz.ntmps146
  go_upto_region 2 with (fail)
  have hb3 := (((Below.refl w.heap.size w).alloc (Nat.le_refl _) (.cells #[.slice (some ⟨rb, 0, none⟩) n n] 31)).alloc (by simp) (.cells #[.slice none 0 0, .slice none 0 0, .int .i64 0] 136)).alloc (by simp; omega) (.cells #[.int .i64 (n : Int)] 3)
  have q0 := ((Rw.new w #[.slice (some ⟨rb, 0, none⟩) n n] 31).alloc (.cells #[.slice none 0 0, .slice none 0 0, .int .i64 0] 136)).alloc (.cells #[.int .i64 (n : Int)] 3)
  have q1 := (Rw.new (w.alloc (.cells #[.slice (some ⟨rb, 0, none⟩) n n] 31)) #[.slice none 0 0, .slice none 0 0, .int .i64 0] 136).alloc (.cells #[.int .i64 (n : Int)] 3)
  have q2 := Rw.new ((w.alloc (.cells #[.slice (some ⟨rb, 0, none⟩) n n] 31)).alloc (.cells #[.slice none 0 0, .slice none 0 0, .int .i64 0] 136)) #[.int .i64 (n : Int)] 3
  have hz3 : (((w.alloc (.cells #[.slice (some ⟨rb, 0, none⟩) n n] 31)).alloc (.cells #[.slice none 0 0, .slice none 0 0, .int .i64 0] 136)).alloc (.cells #[.int .i64 (n : Int)] 3)).heap.size = w.heap.size + 3 := by simp
  obtain ⟨W3, hW3⟩ : ∃ z, ((w.alloc (.cells #[.slice (some ⟨rb, 0, none⟩) n n] 31)).alloc (.cells #[.slice none 0 0, .slice none 0 0, .int .i64 0] 136)).alloc (.cells #[.int .i64 (n : Int)] 3) = z := ⟨_, rfl⟩
  rw [hW3] at hb3 q0 q1 q2 hz3 ⊢
  simp at q1 q2
  obtain ⟨W5, hup, hkm, hg5, hz5⟩ := km_addS (KmAt.made W3) (fun r hr => by simp at hr) (wf_i64 (x := 0) (by omega) (by omega)) (fun r hr => by simp at hr) 1
  unfold kn at hup
  have hz5' : W5.heap.size = w.heap.size + 4 := by rw [hz5]; simp [hz3]
  rw [hz3] at hup hkm hg5
  clear hz5 hW3
  go_upto_region 4 with (fail)
  have hb5 := grown_below hg5 (B := w.heap.size) (by omega) (by simp; omega)
  have hb7 := (((hb3.alloc (by omega) (.map #[] 0)).trans hb5).alloc (by omega) (.cells #[.map (some (w.heap.size + 3))] 201)).alloc (by simp; omega) (.cells #[.nilFunc] 151)
  have hkeep : ∀ k, k < W3.heap.size → ((W5.alloc (.cells #[.map (some (w.heap.size + 3))] 201)).alloc (.cells #[.nilFunc] 151)).heap[k]? = W3.heap[k]? := fun k hk => by
    rw [(MapKept.heap_alloc _ _).2 _ (by simp; omega), (MapKept.heap_alloc _ _).2 _ (by omega), hg5.block k (by simp; omega) (fun e => by have := Option.some.inj e; omega), (MapKept.heap_alloc _ _).2 _ hk]
  have p0 : Rw ((W5.alloc (.cells #[.map (some (w.heap.size + 3))] 201)).alloc (.cells #[.nilFunc] 151)) w.heap.size 31 #[.slice (some ⟨rb, 0, none⟩) n n] := (hkeep w.heap.size (by omega)).trans q0
  have p1 : Rw ((W5.alloc (.cells #[.map (some (w.heap.size + 3))] 201)).alloc (.cells #[.nilFunc] 151)) (w.heap.size + 1) 136 #[.slice none 0 0, .slice none 0 0, .int .i64 0] := (hkeep (w.heap.size + 1) (by omega)).trans q1
  have p2 : Rw ((W5.alloc (.cells #[.map (some (w.heap.size + 3))] 201)).alloc (.cells #[.nilFunc] 151)) (w.heap.size + 1 + 1) 3 #[.int .i64 (n : Int)] := (hkeep (w.heap.size + 1 + 1) (by omega)).trans q2
  have p4 := (Rw.new W5 #[.map (some (w.heap.size + 3))] 201).alloc (.cells #[.nilFunc] 151)
  have p5 := Rw.new (W5.alloc (.cells #[.map (some (w.heap.size + 3))] 201)) #[.nilFunc] 151
  have pk : KmAt ((W5.alloc (.cells #[.map (some (w.heap.size + 3))] 201)).alloc (.cells #[.nilFunc] 151)) (w.heap.size + 3) [(0, 1)] := hkm.kept (by rw [(MapKept.heap_alloc _ _).2 _ (by simp; omega), (MapKept.heap_alloc _ _).2 _ (by omega)])
  have hz7 : ((W5.alloc (.cells #[.map (some (w.heap.size + 3))] 201)).alloc (.cells #[.nilFunc] 151)).heap.size = w.heap.size + 6 := by simp [hz5']
  rw [hz5'] at p4
  rw [show (W5.alloc (.cells #[.map (some (w.heap.size + 3))] 201)).heap.size = w.heap.size + 4 + 1 from by simp [hz5']] at p5
  obtain ⟨W7, hW7⟩ : ∃ z, (W5.alloc (.cells #[.map (some (w.heap.size + 3))] 201)).alloc (.cells #[.nilFunc] 151) = z := ⟨_, rfl⟩
  rw [hW7] at hb7 p0 p1 p2 p4 p5 pk hz7 ⊢
  clear hkeep hW7 hb5 hb3 q0 q1 q2 hg5 hkm hup hz3
  have c5 := p5.cell 0; have f5 := p5.frozen
  have c2 := p2.cell 0
  go_upto_region 5 with (fail)
  have c2' := (p2.far (k := w.heap.size + 4 + 1) 0 (.func (.func 153) #[] #[.pointer (some ⟨w.heap.size + 4, 0, none⟩), .pointer (some ⟨w.heap.size, 0, none⟩), .pointer (some ⟨w.heap.size + 1 + 1, 0, none⟩), .pointer (some ⟨w.heap.size + 4 + 1, 0, none⟩)]) (by omega)).cell 0
  have hp := Nat.pow_le_pow_right (show 0 < 2 by decide) (show n + 1 ≤ 11 by omega)
  have hp1 := Nat.pow_pos (n := n + 1) (show 0 < 2 by decide)
  obtain ⟨al, hal⟩ : ∃ al, 2 ^ (n + 1) - 1 = al := ⟨_, rfl⟩
  have h2p : ((2 : Int) ^ (n + 1)) = ((2 ^ (n + 1) : Nat) : Int) := by rw [Int.natCast_pow]; rfl
  have hw1 : wrap64 ((2 : Int) ^ (n + 1)) = 2 ^ (n + 1) := by rw [h2p]; simp only [wrap64]; omega
  have hw2 : wrap64 ((2 : Int) ^ (n + 1) - 1) = (al : Int) := by rw [h2p]; simp only [wrap64]; omega
  have hw1' : IntKind.i64.wrap ((2 : Int) ^ (n + 1)) = 2 ^ (n + 1) := by rw [h2p, IntKind.wrap_i64]; omega
  have hw2' : IntKind.i64.wrap ((2 : Int) ^ (n + 1) - 1) = (al : Int) := by rw [h2p, IntKind.wrap_i64]; omega
  clear h2p
  go_upto_region 6 with (fail)
  have HAL := Lib.hid hal
  have hcr := (show CrA (W7.setCell ⟨w.heap.size + 4 + 1, 0, none⟩ (.func (.func 153) #[] #[.pointer (some ⟨w.heap.size + 4, 0, none⟩), .pointer (some ⟨w.heap.size, 0, none⟩), .pointer (some ⟨w.heap.size + 1 + 1, 0, none⟩), .pointer (some ⟨w.heap.size + 4 + 1, 0, none⟩)])) (w.heap.size + 1) w.heap.size rb bs n F [(0, 1)] from by
    have hMl : ∀ k, k < w.heap.size → (W7.setCell ⟨w.heap.size + 4 + 1, 0, none⟩ (.func (.func 153) #[] #[.pointer (some ⟨w.heap.size + 4, 0, none⟩), .pointer (some ⟨w.heap.size, 0, none⟩), .pointer (some ⟨w.heap.size + 1 + 1, 0, none⟩), .pointer (some ⟨w.heap.size + 4 + 1, 0, none⟩)])).heap[k]? = w.heap[k]? := fun k hk => (Below.heap_setCell _ _ _ _ (by show k ≠ w.heap.size + 4 + 1; omega)).trans (hb7.5 k hk)
    refine ⟨p0.far (k := w.heap.size + 4 + 1) 0 _ (by omega), p2.far (k := w.heap.size + 4 + 1) 0 _ (by omega), p4.far (k := w.heap.size + 4 + 1) 0 _ (by omega), p5.set 0 _, ⟨B, HM.out.moved (fun j _ hj => hMl j hj)⟩, by have := HM.out.r.lt; omega, by omega, fun i hi => by have := (HM.out.q i hi).lt; omega, pk.kept (Below.heap_setCell _ _ _ _ (by show w.heap.size + 3 ≠ w.heap.size + 4 + 1; omega)), fun r hr => ?_, ⟨1, by simp⟩⟩
    obtain rfl := List.mem_singleton.1 hr
    exact ⟨0, by omega, by rw [bits_zero]; exact Nat.zero_le _, by rw [minZ_none F n 0 (by rw [bits_zero]; rfl)]; exact Prod.ext rfl rfl⟩)
  have hres := p1.far (k := w.heap.size + 4 + 1) 0 (.func (.func 153) #[] #[.pointer (some ⟨w.heap.size + 4, 0, none⟩), .pointer (some ⟨w.heap.size, 0, none⟩), .pointer (some ⟨w.heap.size + 1 + 1, 0, none⟩), .pointer (some ⟨w.heap.size + 4 + 1, 0, none⟩)]) (by omega)
  have hb8 : Below w.heap.size w (W7.setCell ⟨w.heap.size + 4 + 1, 0, none⟩ (.func (.func 153) #[] #[.pointer (some ⟨w.heap.size + 4, 0, none⟩), .pointer (some ⟨w.heap.size, 0, none⟩), .pointer (some ⟨w.heap.size + 1 + 1, 0, none⟩), .pointer (some ⟨w.heap.size + 4 + 1, 0, none⟩)])) := hb7.setCell (p := ⟨w.heap.size + 4 + 1, 0, none⟩) (by show w.heap.size ≤ w.heap.size + 4 + 1; omega) _
  have hz8 : (W7.setCell ⟨w.heap.size + 4 + 1, 0, none⟩ (.func (.func 153) #[] #[.pointer (some ⟨w.heap.size + 4, 0, none⟩), .pointer (some ⟨w.heap.size, 0, none⟩), .pointer (some ⟨w.heap.size + 1 + 1, 0, none⟩), .pointer (some ⟨w.heap.size + 4 + 1, 0, none⟩)])).heap.size = w.heap.size + 6 := by simp [World.setCell, hz7]
  obtain ⟨W8, hW8⟩ : ∃ z, W7.setCell ⟨w.heap.size + 4 + 1, 0, none⟩ (.func (.func 153) #[] #[.pointer (some ⟨w.heap.size + 4, 0, none⟩), .pointer (some ⟨w.heap.size, 0, none⟩), .pointer (some ⟨w.heap.size + 1 + 1, 0, none⟩), .pointer (some ⟨w.heap.size + 4 + 1, 0, none⟩)]) = z := ⟨_, rfl⟩
  rw [hW8] at hcr hres hb8 hz8 ⊢
  have HCR := Lib.hid hcr; have HRES := Lib.hid hres; have HB8 := Lib.hid hb8; have HZ8 := Lib.hid hz8
  clear hcr hres hb8 hW8 hz7 p0 p1 p2 p4 p5 pk hb7 c5 f5 c2 c2' hz5' hmk hal
  refine Code.wp_mono (Q := fun e a' w' => e = .normal ∧ ∃ (tb : Nat) (ks : List (Int × Int)), a' = { tmps := FCr w.heap.size tb al (fun i => a'.tmps.getD i undef), defers := [] } ∧ Rw w' tb 136 #[.slice none 0 0, .slice none 0 0, .int .i64 (cramD F n)] ∧ CrA w' (w.heap.size + 1) w.heap.size rb bs n F ks ∧ Rw w' (w.heap.size + 1) 136 #[.slice none 0 0, .slice none 0 0, .int .i64 0] ∧ w.heap.size + 6 ≤ tb ∧ Below w.heap.size w w') (fun e a' w' h => ?rest) ?reg
  case reg =>
    have hcl := len_but hn (Nat.le_refl n)
    have hcu := min_under F hn
    have hbb := bits_but hn (Nat.le_refl n)
    have hand0 := andNot_bits n (by omega) _ hbb.2.2 hbb.2.1
    have hal := HAL.out
    rw [hal] at hcl hcu hand0
    have hand : bits BinOp.andNot .i64 (al : Int) (2 ^ n) = ((al - 2 ^ n : Nat) : Int) := by rw [Int.natCast_pow] at hand0; exact hand0
    have hw3 := (pow_wrap (n := n) (by omega)).1
    have hw3' := (pow_wrap (n := n) (by omega)).2
    have hlt : al - 2 ^ n < 2 ^ (n + 1) := by omega
    obtain ⟨c, hc⟩ : ∃ c, al - 2 ^ n = c := ⟨_, rfl⟩
    rw [hc] at hcl hcu hand hlt
    obtain ⟨cd, hcd⟩ : ∃ cd, cramD F n = cd := ⟨_, rfl⟩
    rw [hcd] at hcu
    have HCD := Lib.hid hcd
    have HCALL := Lib.hid (show ∀ wx, CrA wx (w.heap.size + 1) w.heap.size rb bs n F [(0, 1)] → Calls Tryz.prog 153 #[.int .i64 (c : Int), .pointer (some ⟨w.heap.size + 4, 0, none⟩), .pointer (some ⟨w.heap.size, 0, none⟩), .pointer (some ⟨w.heap.size + 1 + 1, 0, none⟩), .pointer (some ⟨w.heap.size + 4 + 1, 0, none⟩)] wx (fun e w' => e = .returned (.int .i64 cd) ∧ ∃ ks2, CrA w' (w.heap.size + 1) w.heap.size rb bs n F ks2 ∧ wx.grownBy w' (some (w.heap.size + 3))) from fun wx h =>
      (minor_any z n (w.heap.size + 1) w.heap.size rb bs F hn HF.out n (Nat.le_refl n) c hlt hcl wx _ h).mono (fun e w' hp => by
        obtain ⟨p1, kt2, p2, p3, _⟩ := hp
        exact ⟨by rw [p1, hcu], kt2, p2, p3⟩))
    clear hcl hcu hbb hand0 hal hlt hc hcd hw1 hw2 hw1' hw2' hp hp1 hz8
    have hcd0 : CrA W8.drew (w.heap.size + 1) w.heap.size rb bs n F [(0, 1)] := HCR.out.moved (fun _ _ => rfl)
    have HS := Lib.hid (show (fun wx => Rw wx (w.heap.size + 4 + 1) 151 #[.func (.func 153) #[] #[.pointer (some ⟨w.heap.size + 4, 0, none⟩), .pointer (some ⟨w.heap.size, 0, none⟩), .pointer (some ⟨w.heap.size + 1 + 1, 0, none⟩), .pointer (some ⟨w.heap.size + 4 + 1, 0, none⟩)]] ∧ Rw wx (w.heap.size + 1 + 1) 3 #[.int .i64 (n : Int)]) W8.drew from ⟨hcd0.minor, hcd0.qn⟩)
    refine wp_region_noPanic ?_
    refine wp_region_held_drew (S := fun wx => Rw wx (w.heap.size + 4 + 1) 151 #[.func (.func 153) #[] #[.pointer (some ⟨w.heap.size + 4, 0, none⟩), .pointer (some ⟨w.heap.size, 0, none⟩), .pointer (some ⟨w.heap.size + 1 + 1, 0, none⟩), .pointer (some ⟨w.heap.size + 4 + 1, 0, none⟩)]] ∧ Rw wx (w.heap.size + 1 + 1) 3 #[.int .i64 (n : Int)]) (by kernel_rfl) HS.out (fun _ => ?_)
    refine hTk (i := 0) (d := 19) (v := .func (.func 153) #[] #[.pointer (some ⟨w.heap.size + 4, 0, none⟩), .pointer (some ⟨w.heap.size, 0, none⟩), .pointer (some ⟨w.heap.size + 1 + 1, 0, none⟩), .pointer (some ⟨w.heap.size + 4 + 1, 0, none⟩)]) rfl rfl (Or.inl ⟨rfl, by rintro W' ⟨r0, r1⟩; have ry0 := r0.cell; have ry1 := r1.cell; go_simp⟩) HS.out ?_
    simp only [Act.put, sB, sZ, sS]
    refine hTk (i := 1) (d := 20) (v := .int .i64 (al : Int)) rfl rfl (Or.inl ⟨rfl, by rintro W' ⟨r0, r1⟩; have ry0 := r0.cell; have ry1 := r1.cell; go_simp⟩) HS.out ?_
    simp only [Act.put, sB, sZ, sS]
    refine hTk (i := 2) (d := 21) (v := .int .i64 (n : Int)) rfl rfl (Or.inl ⟨rfl, by rintro W' ⟨r0, r1⟩; have ry0 := r0.cell; have ry1 := r1.cell; go_simp⟩) HS.out ?_
    simp only [Act.put, sB, sZ, sS]
    refine hTk (i := 3) (d := 22) (v := .int .i64 (2 ^ n)) rfl rfl (Or.inl ⟨rfl, by rintro W' ⟨r0, r1⟩; have ry0 := r0.cell; have ry1 := r1.cell; go_simp⟩) HS.out ?_
    simp only [Act.put, sB, sZ, sS]
    refine hTk (i := 4) (d := 23) (v := .int .i64 (c : Int)) rfl rfl (Or.inl ⟨rfl, by rintro W' ⟨r0, r1⟩; have ry0 := r0.cell; have ry1 := r1.cell; go_simp⟩) HS.out ?_
    simp only [Act.put, sB, sZ, sS]
    refine wpAnyH_ready (rs := [5, 7]) (by kernel_rfl) (by simp) ?_
    refine AllReadyH.cons rfl (fun K hK => ?_) (AllReadyH.cons rfl (fun K hK => ?_) AllReadyH.nil)
    · rw [if_pos (by rfl)]
      go_simp
      go_at_call 153
      (with_reducible refine (HCALL.out _ hcd0).mono ?_)
      rintro e wc0 ⟨rfl, ks2, hcr2, hg2⟩
      have hb := HB8.out.drew.trans ((grown_below hg2 (B := w.heap.size) (by omega) (by have := HB8.out.size; exact this)))
      have HS := Lib.hid (show (fun wx => Rw wx (w.heap.size + 4 + 1) 151 #[.func (.func 153) #[] #[.pointer (some ⟨w.heap.size + 4, 0, none⟩), .pointer (some ⟨w.heap.size, 0, none⟩), .pointer (some ⟨w.heap.size + 1 + 1, 0, none⟩), .pointer (some ⟨w.heap.size + 4 + 1, 0, none⟩)]] ∧ Rw wx (w.heap.size + 1 + 1) 3 #[.int .i64 (n : Int)]) wc0 from ⟨hcr2.minor, hcr2.qn⟩)
      refine hK.out _ _ HS.out (fun _ => ?_)
      clear hK K
      try simp only [Act.put, sB, sZ, sS]
      refine hTk (i := 6) (d := 25) (v := .agg #[.slice none 0 0, .slice none 0 0, .int .i64 cd]) rfl rfl (Or.inl ⟨rfl, by rintro W' ⟨r0, r1⟩; have ry0 := r0.cell; have ry1 := r1.cell; go_simp⟩) HS.out ?_
      simp only [Act.put, sB, sZ, sS]
      refine wpAnyH_ready (rs := [7]) (by kernel_rfl) (by simp) ?_
      refine AllReadyH.cons rfl (fun K hK => ?_) AllReadyH.nil
      rw [if_pos (by rfl)]
      go_simp
      have HS := Lib.hid (show (fun wx => Rw wx (w.heap.size + 4 + 1) 151 #[.func (.func 153) #[] #[.pointer (some ⟨w.heap.size + 4, 0, none⟩), .pointer (some ⟨w.heap.size, 0, none⟩), .pointer (some ⟨w.heap.size + 1 + 1, 0, none⟩), .pointer (some ⟨w.heap.size + 4 + 1, 0, none⟩)]] ∧ Rw wx (w.heap.size + 1 + 1) 3 #[.int .i64 (n : Int)]) (wc0.alloc (.cells #[.slice none 0 0, .slice none 0 0, .int .i64 0] 136)) from ⟨hcr2.minor.alloc _, hcr2.qn.alloc _⟩)
      refine hK.out _ _ HS.out (fun _ => ?_)
      clear hK K
      try simp only [Act.put, sB, sZ, sS]
      refine wpAnyH_ready (rs := [8]) (by kernel_rfl) (by simp) ?_
      refine AllReadyH.cons rfl (fun K hK => ?_) AllReadyH.nil
      rw [if_pos (by rfl)]
      go_simp
      have HS := Lib.hid (show (fun wx => Rw wx (w.heap.size + 4 + 1) 151 #[.func (.func 153) #[] #[.pointer (some ⟨w.heap.size + 4, 0, none⟩), .pointer (some ⟨w.heap.size, 0, none⟩), .pointer (some ⟨w.heap.size + 1 + 1, 0, none⟩), .pointer (some ⟨w.heap.size + 4 + 1, 0, none⟩)]] ∧ Rw wx (w.heap.size + 1 + 1) 3 #[.int .i64 (n : Int)]) (wc0.alloc (.cells #[.slice none 0 0, .slice none 0 0, .int .i64 cd] 136)) from ⟨hcr2.minor.alloc _, hcr2.qn.alloc _⟩)
      refine hK.out _ _ HS.out (fun _ => ?_)
      clear hK K
      try simp only [Act.put, sB, sZ, sS]
      refine wpAnyH_done (by kernel_rfl) ?_ _
      clear HS
      refine NoPanic.normal ?_
      have hsz := hg2.size
      have hsz8 : w.heap.size + 6 ≤ wc0.heap.size := by have := HZ8.out; have h : W8.drew.heap.size = W8.heap.size := rfl; omega
      exact ⟨rfl, wc0.heap.size, ks2, rfl, by rw [HCD.out]; exact Rw.new wc0 _ 136, hcr2.moved (fun k hk => (MapKept.heap_alloc _ _).2 _ (by omega)), Rw.alloc (show Rw wc0 (w.heap.size + 1) 136 #[.slice none 0 0, .slice none 0 0, .int .i64 0] from (hg2.block (w.heap.size + 1) (by have := HZ8.out; have h : W8.drew.heap.size = W8.heap.size := rfl; omega) (fun e => by have := Option.some.inj e; omega)).trans HRES.out) _, hsz8, hb.alloc (by omega) _⟩

    · rw [if_pos (by rfl)]
      go_simp
      have hca : CrA ((W8.alloc (.cells #[.slice none 0 0, .slice none 0 0, .int .i64 0] 136)).drew) (w.heap.size + 1) w.heap.size rb bs n F [(0, 1)] := hcd0.moved (fun k hk => (MapKept.heap_alloc _ _).2 _ (by have := HZ8.out; show k < W8.heap.size; omega))
      have hqa : Rw ((W8.alloc (.cells #[.slice none 0 0, .slice none 0 0, .int .i64 0] 136)).drew) W8.heap.size 136 #[.slice none 0 0, .slice none 0 0, .int .i64 0] := (Rw.new W8 _ 136).drew
      have hqres : Rw ((W8.alloc (.cells #[.slice none 0 0, .slice none 0 0, .int .i64 0] 136)).drew) (w.heap.size + 1) 136 #[.slice none 0 0, .slice none 0 0, .int .i64 0] := (HRES.out.alloc _).drew
      have hba := (HB8.out.alloc HB8.out.size (.cells #[.slice none 0 0, .slice none 0 0, .int .i64 0] 136)).drew
      have hza : W8.heap.size < ((W8.alloc (.cells #[.slice none 0 0, .slice none 0 0, .int .i64 0] 136)).drew).heap.size := by show W8.heap.size < (W8.alloc (.cells #[.slice none 0 0, .slice none 0 0, .int .i64 0] 136)).heap.size; rw [World.size_alloc]; exact Nat.lt_succ_self _
      obtain ⟨wa, hwa⟩ : ∃ z, (W8.alloc (.cells #[.slice none 0 0, .slice none 0 0, .int .i64 0] 136)).drew = z := ⟨_, rfl⟩
      rw [hwa] at hca hqa hqres hba hza ⊢
      clear hwa
      have HS := Lib.hid (show (fun wx => Rw wx (w.heap.size + 4 + 1) 151 #[.func (.func 153) #[] #[.pointer (some ⟨w.heap.size + 4, 0, none⟩), .pointer (some ⟨w.heap.size, 0, none⟩), .pointer (some ⟨w.heap.size + 1 + 1, 0, none⟩), .pointer (some ⟨w.heap.size + 4 + 1, 0, none⟩)]] ∧ Rw wx (w.heap.size + 1 + 1) 3 #[.int .i64 (n : Int)]) wa from ⟨hca.minor, hca.qn⟩)
      refine hK.out _ _ HS.out (fun _ => ?_)
      clear hK K
      try simp only [Act.put, sB, sZ, sS]
      refine wpAnyH_ready (rs := [5]) (by kernel_rfl) (by simp) ?_
      refine AllReadyH.cons rfl (fun K hK => ?_) AllReadyH.nil
      rw [if_pos (by rfl)]
      go_simp
      go_at_call 153
      (with_reducible refine (HCALL.out _ hca).mono ?_)
      rintro e wc0 ⟨rfl, ks2, hcr2, hg2⟩
      have hq := hg2.block W8.heap.size (by have := hza; omega) (fun e => by have := Option.some.inj e; have := HZ8.out; omega)
      have hqr : Rw wc0 W8.heap.size 136 #[.slice none 0 0, .slice none 0 0, .int .i64 0] := hq.trans hqa
      have hb := hba.trans ((grown_below hg2 (B := w.heap.size) (by omega) (by have := hba.size; omega)))
      have HS := Lib.hid (show (fun wx => Rw wx (w.heap.size + 4 + 1) 151 #[.func (.func 153) #[] #[.pointer (some ⟨w.heap.size + 4, 0, none⟩), .pointer (some ⟨w.heap.size, 0, none⟩), .pointer (some ⟨w.heap.size + 1 + 1, 0, none⟩), .pointer (some ⟨w.heap.size + 4 + 1, 0, none⟩)]] ∧ Rw wx (w.heap.size + 1 + 1) 3 #[.int .i64 (n : Int)]) wc0 from ⟨hcr2.minor, hcr2.qn⟩)
      refine hK.out _ _ HS.out (fun _ => ?_)
      clear hK K
      try simp only [Act.put, sB, sZ, sS]
      refine hTk (i := 6) (d := 25) (v := .agg #[.slice none 0 0, .slice none 0 0, .int .i64 cd]) rfl rfl (Or.inl ⟨rfl, by rintro W' ⟨r0, r1⟩; have ry0 := r0.cell; have ry1 := r1.cell; go_simp⟩) HS.out ?_
      simp only [Act.put, sB, sZ, sS]
      refine wpAnyH_ready (rs := [8]) (by kernel_rfl) (by simp) ?_
      refine AllReadyH.cons rfl (fun K hK => ?_) AllReadyH.nil
      rw [if_pos (by rfl)]
      have hx := hqr.cell; have hf := hqr.frozen
      go_simp
      clear hx hf
      have h3 := set3 (w := wc0) (k := W8.heap.size) (v0 := .slice none 0 0) (v1 := .slice none 0 0) (v2 := .int .i64 cd)
      have HS := Lib.hid (show (fun wx => Rw wx (w.heap.size + 4 + 1) 151 #[.func (.func 153) #[] #[.pointer (some ⟨w.heap.size + 4, 0, none⟩), .pointer (some ⟨w.heap.size, 0, none⟩), .pointer (some ⟨w.heap.size + 1 + 1, 0, none⟩), .pointer (some ⟨w.heap.size + 4 + 1, 0, none⟩)]] ∧ Rw wx (w.heap.size + 1 + 1) 3 #[.int .i64 (n : Int)]) _ from ⟨(h3.2.1 _ (by have := HZ8.out; omega)).trans hcr2.minor, (h3.2.1 _ (by have := HZ8.out; omega)).trans hcr2.qn⟩)
      refine hK.out _ _ HS.out (fun _ => ?_)
      clear hK K
      try simp only [Act.put, sB, sZ, sS]
      refine wpAnyH_done (by kernel_rfl) ?_ _
      clear HS
      refine NoPanic.normal ?_
      exact ⟨rfl, W8.heap.size, ks2, rfl, by rw [HCD.out]; exact h3.1 136 _ _ _ hqr, hcr2.moved (fun k hk => h3.2.1 k (by have := HZ8.out; omega)), (h3.2.1 _ (by have := HZ8.out; omega)).trans ((hg2.block (w.heap.size + 1) (by have := HZ8.out; omega) (fun e => by have := Option.some.inj e; omega)).trans hqres), by have := HZ8.out; omega, hb.trans (h3.2.2 w.heap.size (by have := HZ8.out; omega))⟩
  case rest =>
    obtain ⟨rfl, tb, ks, ha, htb, hcr, hres, htl, hbw⟩ := h
    obtain ⟨u, rfl⟩ : ∃ u, a' = { tmps := FCr w.heap.size tb al u, defers := [] } := ⟨_, ha⟩
    have HB9 := Lib.hid hbw; have HCR9 := Lib.hid hcr; have HTB := Lib.hid htb; have HRES9 := Lib.hid hres; have HTL := Lib.hid htl
    have c2 := hcr.qn.cell 0
    clear ha htb hcr hres htl hbw HCR HRES HB8 hz8
    simp only [FCr, Exit.then]
    go_wp2
    obtain ⟨cd, hcd⟩ : ∃ cd, cramD F n = cd := ⟨_, rfl⟩
    have HCDD := Lib.hid hcd
    rw [hcd] at HTB
    clear c2 hcd hw1 hw2 hw1' hw2' hp hp1
    obtain ⟨i6, hi6, hz6, hs6, hy6⟩ := info_parts info3
    go_loopw [27] (fun s27 wr => ∃ (i : Nat) (A : Option Addr) (m c : Nat) (kt : List (Int × Int)), i ≤ n ∧ s27 = .int .i64 (i : Int) ∧ Rw wr tb 136 #[.slice A m c, .slice none 0 0, .int .i64 cd] ∧ Own wr (tb + 1) 3 1 fI (.slice A m c) ((List.range i).map (cramN F n)) ∧ m = i ∧ CrA wr (w.heap.size + 1) w.heap.size rb bs n F kt ∧ Rw wr (w.heap.size + 1) 136 #[.slice none 0 0, .slice none 0 0, .int .i64 0] ∧ Below w.heap.size w wr ∧ tb + 1 ≤ wr.heap.size) (fun s27 _ => n - (intOf s27).toNat)
    case atStart => exact ⟨0, none, 0, 0, ks, Nat.zero_le _, rfl, HTB.out, Own.nil _ _ _ _ _, rfl, HCR9.out, HRES9.out, HB9.out, HTB.out.lt⟩
    case round =>
      obtain ⟨i, A, m, c, kt, hi, rfl, hrt, hoo, hmi, hcr, hres, hbr, hsz⟩ := hrel
      by_cases hin : i < n
      · have hii : (i : Int) < (n : Int) := by omega
        have hi0 : (0 : Int) ≤ (i : Int) := by omega
        have HRT := Lib.hid hrt; have HOO := Lib.hid hoo; have HMI := Lib.hid hmi; have HCRR := Lib.hid hcr; have HRES := Lib.hid hres; have HBR := Lib.hid hbr; have HBD := Lib.hid hsz; have HI := Lib.hid hin
        have c2 := hcr.qn.cell 0
        have hcl := len_but hn (Nat.le_of_lt hin)
        have hbb := bits_but hn (Nat.le_of_lt hin)
        have hcv := min_volt F hn hin
        have hand0 := andNot_bits i (by omega) _ hbb.2.2 hbb.2.1
        have hal := HAL.out
        have hpp := Nat.pow_pos (n := n + 1) (show 0 < 2 by decide)
        have hlt : al - 2 ^ i < 2 ^ (n + 1) := Nat.lt_of_le_of_lt (Nat.sub_le _ _) (by omega)
        rw [hal] at hcl hcv hand0
        have hmb := min_bd HF.out hn hlt (Nat.le_of_eq hcl)
        have hand : bits BinOp.andNot .i64 (al : Int) (2 ^ i) = ((al - 2 ^ i : Nat) : Int) := by rw [Int.natCast_pow] at hand0; exact hand0
        have hw3' := (pow_wrap (n := i) (by omega)).2
        obtain ⟨mk, hmk⟩ : ∃ mk, al - 2 ^ i = mk := ⟨_, rfl⟩
        rw [hmk] at hcl hcv hand hlt hmb
        obtain ⟨e, he⟩ : ∃ e, (n - 1 - i) % 2 = e := ⟨_, rfl⟩
        have hsg := sgn_mod (n - 1 - i)
        rw [he] at hsg
        have he1 : e ≤ 1 := by omega
        have hrem : Int.tmod ((n : Int) - 1 - (i : Int)) 2 = (e : Int) := by rw [Int.tmod_eq_emod_of_nonneg (by omega)]; omega
        obtain ⟨sg, hsgn⟩ : ∃ sg : Int, (-1 : Int) ^ (n - 1 - i) = sg := ⟨_, rfl⟩
        rw [hsgn] at hsg hcv
        obtain ⟨mm, hmm⟩ : ∃ mm, minZ F n mk = mm := ⟨_, rfl⟩
        rw [hmm] at hcv hmb
        have hs1 : IntKind.i64.wrap (2 * (e : Int)) = 2 * (e : Int) := by rw [IntKind.wrap_i64]; omega
        have hs2 : IntKind.i64.wrap (1 - 2 * (e : Int)) = sg := by rw [IntKind.wrap_i64]; omega
        have hs46 : IntKind.i64.wrap (sg * mm) = sg * mm := by
          have : sg = 1 ∨ sg = -1 := by omega
          rw [IntKind.wrap_i64]; rcases this with e1 | e1 <;> rw [e1] <;> omega
        have HCV := Lib.hid hcv
        have HLN := Lib.hid (show ((List.range i).map (cramN F n)).length ≤ 10 from by simp; omega)
        have HNE := HTL
        have HCALL := Lib.hid (show ∀ wx, CrA wx (w.heap.size + 1) w.heap.size rb bs n F kt → Calls Tryz.prog 153 #[.int .i64 (mk : Int), .pointer (some ⟨w.heap.size + 4, 0, none⟩), .pointer (some ⟨w.heap.size, 0, none⟩), .pointer (some ⟨w.heap.size + 1 + 1, 0, none⟩), .pointer (some ⟨w.heap.size + 4 + 1, 0, none⟩)] wx (fun e w' => e = .returned (.int .i64 mm) ∧ ∃ ks2, CrA w' (w.heap.size + 1) w.heap.size rb bs n F ks2 ∧ wx.grownBy w' (some (w.heap.size + 3))) from fun wx h =>
          (minor_any z n (w.heap.size + 1) w.heap.size rb bs F hn HF.out n (Nat.le_refl n) mk hlt hcl wx _ h).mono (fun e w' hp => by
            obtain ⟨p1, kt2, p2, p3, _⟩ := hp
            exact ⟨by rw [p1, hmm], kt2, p2, p3⟩))
        have HRS := Lib.hid (show ∀ wx, Bt (w.heap.size + 3) (tb + 1) wr wx → Rw wx tb 136 #[.slice A m c, .slice none 0 0, .int .i64 cd] ∧ Rw wx (w.heap.size + 4 + 1) 151 #[.func (.func 153) #[] #[.pointer (some ⟨w.heap.size + 4, 0, none⟩), .pointer (some ⟨w.heap.size, 0, none⟩), .pointer (some ⟨w.heap.size + 1 + 1, 0, none⟩), .pointer (some ⟨w.heap.size + 4 + 1, 0, none⟩)]] from fun wx h =>
          ⟨(h.block _ (by omega) (by have := HTL.out; omega)).trans HRT.out, (h.block _ (by have := HTL.out; omega) (by omega)).trans HCRR.out.minor⟩)
        clear hrt hoo hmi hcr hres hbr hsz hin hcl hbb hcv hand0 hal hpp hlt hmb hmk hmm he hsg hsgn
        go_upto_region 11 with (fail)
        have hbq : Bt (w.heap.size + 3) (tb + 1) wr wr.drew := (Bt.refl _ _ _).drew
        have ho0 := HOO.out
        have HS := Lib.hid (show (fun wx => (∃ v, Rw wx (tb) 136 #[v, .slice none 0 0, .int .i64 cd]) ∧ Rw wx (w.heap.size + 4 + 1) 151 #[.func (.func 153) #[] #[.pointer (some ⟨w.heap.size + 4, 0, none⟩), .pointer (some ⟨w.heap.size, 0, none⟩), .pointer (some ⟨w.heap.size + 1 + 1, 0, none⟩), .pointer (some ⟨w.heap.size + 4 + 1, 0, none⟩)]]) wr.drew from ⟨⟨_, (HRS.out _ hbq).1⟩, (HRS.out _ hbq).2⟩)
        refine wp_region_noPanic ?_
        refine wp_region_held_drew (S := fun wx => (∃ v, Rw wx (tb) 136 #[v, .slice none 0 0, .int .i64 cd]) ∧ Rw wx (w.heap.size + 4 + 1) 151 #[.func (.func 153) #[] #[.pointer (some ⟨w.heap.size + 4, 0, none⟩), .pointer (some ⟨w.heap.size, 0, none⟩), .pointer (some ⟨w.heap.size + 1 + 1, 0, none⟩), .pointer (some ⟨w.heap.size + 4 + 1, 0, none⟩)]]) (by kernel_rfl) HS.out (fun _ => ?_)
        obtain ⟨wd, hwd⟩ : ∃ z, wr.drew = z := ⟨_, rfl⟩
        replace ho0 := ho0.drewN 1
        rw [show wr.drewN 1 = wd from hwd] at ho0
        rw [hwd] at hbq HS ⊢
        have hcx : CrA wd (w.heap.size + 1) w.heap.size rb bs n F kt := HCRR.out.moved (fun k _ => by rw [← hwd]; rfl)
        clear hwd
        refine hTk (i := 0) (d := 37) (v := .pointer (some ⟨tb, 0, none⟩)) rfl rfl (Or.inl ⟨rfl, by rintro W' ⟨⟨u0, s0⟩, r0⟩; have sy := s0.cell; have ry0 := r0.cell; go_simp⟩) HS.out ?_
        simp only [Act.put, sB, sZ, sS]
        refine hTk (i := 2) (d := 39) (v := .int .i64 sg) rfl rfl (Or.inl ⟨rfl, by rintro W' ⟨⟨u0, s0⟩, r0⟩; have sy := s0.cell; have ry0 := r0.cell; go_simp⟩) HS.out ?_
        simp only [Act.put, sB, sZ, sS]
        refine hTk (i := 3) (d := 40) (v := .func (.func 153) #[] #[.pointer (some ⟨w.heap.size + 4, 0, none⟩), .pointer (some ⟨w.heap.size, 0, none⟩), .pointer (some ⟨w.heap.size + 1 + 1, 0, none⟩), .pointer (some ⟨w.heap.size + 4 + 1, 0, none⟩)]) rfl rfl (Or.inl ⟨rfl, by rintro W' ⟨⟨u0, s0⟩, r0⟩; have sy := s0.cell; have ry0 := r0.cell; go_simp⟩) HS.out ?_
        simp only [Act.put, sB, sZ, sS]
        refine hTk (i := 4) (d := 41) (v := .int .i64 (al : Int)) rfl rfl (Or.inl ⟨rfl, by rintro W' ⟨⟨u0, s0⟩, r0⟩; have sy := s0.cell; have ry0 := r0.cell; go_simp⟩) HS.out ?_
        simp only [Act.put, sB, sZ, sS]
        refine hTk (i := 5) (d := 42) (v := .int .i64 (i : Int)) rfl rfl (Or.inl ⟨rfl, by rintro W' ⟨⟨u0, s0⟩, r0⟩; have sy := s0.cell; have ry0 := r0.cell; go_simp⟩) HS.out ?_
        simp only [Act.put, sB, sZ, sS]
        refine hTk (i := 6) (d := 43) (v := .int .i64 (2 ^ i)) rfl rfl (Or.inl ⟨rfl, by rintro W' ⟨⟨u0, s0⟩, r0⟩; have sy := s0.cell; have ry0 := r0.cell; go_simp⟩) HS.out ?_
        simp only [Act.put, sB, sZ, sS]
        refine hTk (i := 7) (d := 44) (v := .int .i64 (mk : Int)) rfl rfl (Or.inl ⟨rfl, by rintro W' ⟨⟨u0, s0⟩, r0⟩; have sy := s0.cell; have ry0 := r0.cell; go_simp⟩) HS.out ?_
        simp only [Act.put, sB, sZ, sS]
        refine wpAnyH_ready (rs := [1, 8]) (by kernel_rfl) (by simp) ?_
        refine AllReadyH.cons rfl (fun K hK => ?_) (AllReadyH.cons rfl (fun K hK => ?_) AllReadyH.nil)
        · rw [if_pos (by rfl)]
          have hx := (HRS.out _ hbq).1.cell
          go_simp
          clear hx
          have HS := Lib.hid (show (fun wx => (∃ v, Rw wx (tb) 136 #[v, .slice none 0 0, .int .i64 cd]) ∧ Rw wx (w.heap.size + 4 + 1) 151 #[.func (.func 153) #[] #[.pointer (some ⟨w.heap.size + 4, 0, none⟩), .pointer (some ⟨w.heap.size, 0, none⟩), .pointer (some ⟨w.heap.size + 1 + 1, 0, none⟩), .pointer (some ⟨w.heap.size + 4 + 1, 0, none⟩)]]) wd from ⟨⟨_, (HRS.out _ hbq).1⟩, (HRS.out _ hbq).2⟩)
          refine hK.out _ _ HS.out (fun _ => ?_)
          clear hK K
          try simp only [Act.put, sB, sZ, sS]
          refine wpAnyH_ready (rs := [8]) (by kernel_rfl) (by simp) ?_
          refine AllReadyH.cons rfl (fun K hK => ?_) AllReadyH.nil
          rw [if_pos (by rfl)]
          go_simp
          go_at_call 153
          (with_reducible refine (HCALL.out _ hcx).mono ?_)
          rintro e wc0 ⟨rfl, ks2, hcr2, hg2⟩
          have hbc := Below.refl (tb + 1) wc0
          have HCR2 := Lib.hid hcr2
          have hgz := hbq.size
          replace hbq := hbq.grown hg2 (by have := HBD.out; omega)
          replace ho0 := ho0.kept hg2 (.inr (fun e => by have := (ho0.lt _ e).1; have := HTL.out; omega))
          clear hcr2 hg2 hgz
          have HS := Lib.hid (show (fun wx => (∃ v, Rw wx (tb) 136 #[v, .slice none 0 0, .int .i64 cd]) ∧ Rw wx (w.heap.size + 4 + 1) 151 #[.func (.func 153) #[] #[.pointer (some ⟨w.heap.size + 4, 0, none⟩), .pointer (some ⟨w.heap.size, 0, none⟩), .pointer (some ⟨w.heap.size + 1 + 1, 0, none⟩), .pointer (some ⟨w.heap.size + 4 + 1, 0, none⟩)]]) wc0 from ⟨⟨_, (HRS.out _ hbq).1⟩, (HRS.out _ hbq).2⟩)
          refine hK.out _ _ HS.out (fun _ => ?_)
          clear hK K
          try simp only [Act.put, sB, sZ, sS]
          refine hTk (i := 9) (d := 46) (v := .int .i64 (sg * mm)) rfl rfl (Or.inl ⟨rfl, by rintro W' ⟨⟨u0, s0⟩, r0⟩; have sy := s0.cell; have ry0 := r0.cell; go_simp⟩) HS.out ?_
          simp only [Act.put, sB, sZ, sS]
          refine wpAnyH_ready (rs := [10]) (by kernel_rfl) (by simp) ?_
          refine AllReadyH.cons rfl (fun K hK => ?_) AllReadyH.nil
          rw [if_pos (by rfl)]
          go_simp
          have hsn := Sl.new (f := fI) (size := 1) wc0 3 ((sg * mm) : Int) #[.int .i64 (sg * mm)] rfl
          have hzw := hbq.size
          replace hbc := hbc.alloc (by have := HBD.out; omega) (.cells #[.int .i64 (sg * mm)] 3)
          replace hbq := hbq.alloc (by have := HBD.out; omega) (.cells #[.int .i64 (sg * mm)] 3)
          obtain ⟨w13, hw13⟩ : ∃ z, wc0.alloc (.cells #[.int .i64 (sg * mm)] 3) = z := ⟨_, rfl⟩
          have hgo := (show wc0.grownBy w13 none from by rw [← hw13]; exact World.grownBy_alloc _ _ _)
          rw [hw13] at hsn hbq hbc ⊢
          have ho13 := ho0.of_blocks (w' := w13) (fun k hk => hgo.block k (ho0.lt k hk).2 (by simp))
          clear hw13 hgo hzw
          have HS := Lib.hid (show (fun wx => (∃ v, Rw wx (tb) 136 #[v, .slice none 0 0, .int .i64 cd]) ∧ Rw wx (w.heap.size + 4 + 1) 151 #[.func (.func 153) #[] #[.pointer (some ⟨w.heap.size + 4, 0, none⟩), .pointer (some ⟨w.heap.size, 0, none⟩), .pointer (some ⟨w.heap.size + 1 + 1, 0, none⟩), .pointer (some ⟨w.heap.size + 4 + 1, 0, none⟩)]]) w13 from ⟨⟨_, (HRS.out _ hbq).1⟩, (HRS.out _ hbq).2⟩)
          refine hK.out _ _ HS.out (fun _ => ?_)
          clear hK K
          try simp only [Act.put, sB, sZ, sS]
          refine wpAnyH_ready (rs := [11]) (by kernel_rfl) (by simp) ?_
          refine AllReadyH.cons rfl (fun K hK => ?_) AllReadyH.nil
          rw [if_pos (by rfl)]
          refine wp_app _ (.tmp 38) (.tmp 47) _ rfl (tb + 1) 3 i6 _ 1 8 Tryz.underlying40 hi6 hz6 hs6 hy6 rfl (by omega) fI_len fI_one (.slice A m c) ((List.range i).map (cramN F n)) rfl ho13 _ _ [((sg * mm) : Int)] 1 rfl hsn (by have := HLN.out; unfold maxLen; simp only [List.length_cons, List.length_nil]; omega) (by have := HLN.out; simp only [List.length_cons, List.length_nil]; omega) (by have := HBD.out; have := hbq.size; omega) (fun _ => .inr ⟨_, rfl⟩) ?_
          intro v2 w14 o14 gr14 at14 ne14
          obtain ⟨Av, cv, hve, _, _, _⟩ := o14.form
          generalize hn2 : List.length (_ ++ [_]) = n2 at hve
          subst hve
          have hb14 := btGrown hbq gr14 (fun b hb => (ho13.lt b hb).1) (by have := HBD.out; have := hbq.size; omega)
          have hbc14 := bGrown hbc gr14 (fun b hb => (ho13.lt b hb).1) (by have := HBD.out; have := hbq.size; omega)
          have hx := HRS.out w14 hb14
          have HS := Lib.hid (show (fun wx => (∃ v, Rw wx (tb) 136 #[v, .slice none 0 0, .int .i64 cd]) ∧ Rw wx (w.heap.size + 4 + 1) 151 #[.func (.func 153) #[] #[.pointer (some ⟨w.heap.size + 4, 0, none⟩), .pointer (some ⟨w.heap.size, 0, none⟩), .pointer (some ⟨w.heap.size + 1 + 1, 0, none⟩), .pointer (some ⟨w.heap.size + 4 + 1, 0, none⟩)]]) w14 from ⟨⟨_, (HRS.out _ hb14).1⟩, (HRS.out _ hb14).2⟩)
          have HX14 := Lib.hid hx
          refine hK.out _ _ HS.out (fun _ => ?_)
          clear hK K
          try simp only [Act.put, sB, sZ, sS]
          refine hTk (i := 12) (d := 49) (v := .pointer (some ⟨tb, 0, none⟩)) rfl rfl (Or.inl ⟨rfl, by rintro W' ⟨⟨u0, s0⟩, r0⟩; have sy := s0.cell; have ry0 := r0.cell; go_simp⟩) HS.out ?_
          simp only [Act.put, sB, sZ, sS]
          refine wpAnyH_ready (rs := [13]) (by kernel_rfl) (by simp) ?_
          refine AllReadyH.cons rfl (fun K hK => ?_) AllReadyH.nil
          rw [if_pos (by rfl)]
          have hx9 := HX14.out.1.cell; have hf9 := HX14.out.1.frozen
          go_simp
          clear hx9 hf9
          have t0 := HX14.out.1.set 0 (.slice Av n2 cv)
          have t1 := HX14.out.2.far (k := tb) 0 (.slice Av n2 cv) (by have := HNE.out; omega)
          have HS := Lib.hid (show (fun wx => (∃ v, Rw wx (tb) 136 #[v, .slice none 0 0, .int .i64 cd]) ∧ Rw wx (w.heap.size + 4 + 1) 151 #[.func (.func 153) #[] #[.pointer (some ⟨w.heap.size + 4, 0, none⟩), .pointer (some ⟨w.heap.size, 0, none⟩), .pointer (some ⟨w.heap.size + 1 + 1, 0, none⟩), .pointer (some ⟨w.heap.size + 4 + 1, 0, none⟩)]]) (w14.setCell ⟨tb, 0, none⟩ (.slice Av n2 cv)) from ⟨⟨_, t0⟩, t1⟩)
          have HR15 := Lib.hid t0
          clear t0 t1
          refine hK.out _ _ HS.out (fun _ => ?_)
          clear hK K
          try simp only [Act.put, sB, sZ, sS]
          refine wpAnyH_done (by kernel_rfl) ?_ _
          have HO14 := Lib.hid o14; have HB14 := Lib.hid hb14; have HBC14 := Lib.hid hbc14
          clear hbc14 hbc hbq HS hx HX14 o14 gr14 at14 ne14 hb14 ho0 ho13 hsn
          refine NoPanic.normal ?_
          have hl := HTL.out
          have hbm := HBD.out
          have HX1 := Lib.hid (show CrA (w14.setCell ⟨tb, 0, none⟩ (.slice Av n2 cv)) (w.heap.size + 1) w.heap.size rb bs n F ks2 from HCR2.out.moved (fun k hk => (Below.heap_setCell _ _ _ k (by show k ≠ tb; omega)).trans (HBC14.out.5 k (by omega))))
          have HX2 := Lib.hid (show Rw (w14.setCell ⟨tb, 0, none⟩ (.slice Av n2 cv)) (w.heap.size + 1) 136 #[.slice none 0 0, .slice none 0 0, .int .i64 0] from (Below.heap_setCell _ _ _ _ (by show w.heap.size + 1 ≠ tb; omega)).trans ((HB14.out.block _ (by omega) (by omega)).trans HRES.out))
          have HX3 := Lib.hid (show Below w.heap.size w (w14.setCell ⟨tb, 0, none⟩ (.slice Av n2 cv)) from (HBR.out.trans ⟨HB14.out.os, HB14.out.tape, HB14.out.output, HB14.out.size, fun k hk => HB14.out.block k (by omega) (by omega)⟩).setCell (p := ⟨tb, 0, none⟩) (by show w.heap.size ≤ tb; omega) _)
          have HX4 := Lib.hid (show Own (w14.setCell ⟨tb, 0, none⟩ (.slice Av n2 cv)) (tb + 1) 3 1 fI (.slice Av n2 cv) ((List.range (i + 1)).map (cramN F n)) from by
            rw [List.range_succ, List.map_append, List.map_singleton, ← HCV.out]
            exact HO14.out.of_blocks (fun j hj => Below.heap_setCell _ _ _ j (by show j ≠ tb; have := (HO14.out.lt j hj).1; omega)))
          have HX5 := Lib.hid (show n2 = i + 1 from by rw [← hn2]; simp)
          have HX6 := Lib.hid (show tb + 1 ≤ (w14.setCell ⟨tb, 0, none⟩ (.slice Av n2 cv)).heap.size from by rw [World.size_setCell]; have := HB14.out.size; omega)
          clear hl hbm hn2
          (try simp only [Exit.inBlock, Exit.then])
          go_wp2
          refine ⟨⟨i + 1, Av, n2, cv, ks2, by have := HI.out; omega, by simp, HR15.out, HX4.out, HX5.out, HX1.out, HX2.out, HX3.out, HX6.out⟩, ?_⟩
          have := HI.out; simp [intOf] <;> omega
        · rw [if_pos (by rfl)]
          go_simp
          go_at_call 153
          (with_reducible refine (HCALL.out _ hcx).mono ?_)
          rintro e wc0 ⟨rfl, ks2, hcr2, hg2⟩
          have hbc := Below.refl (tb + 1) wc0
          have HCR2 := Lib.hid hcr2
          have hgz := hbq.size
          replace hbq := hbq.grown hg2 (by have := HBD.out; omega)
          replace ho0 := ho0.kept hg2 (.inr (fun e => by have := (ho0.lt _ e).1; have := HTL.out; omega))
          clear hcr2 hg2 hgz
          have HS := Lib.hid (show (fun wx => (∃ v, Rw wx (tb) 136 #[v, .slice none 0 0, .int .i64 cd]) ∧ Rw wx (w.heap.size + 4 + 1) 151 #[.func (.func 153) #[] #[.pointer (some ⟨w.heap.size + 4, 0, none⟩), .pointer (some ⟨w.heap.size, 0, none⟩), .pointer (some ⟨w.heap.size + 1 + 1, 0, none⟩), .pointer (some ⟨w.heap.size + 4 + 1, 0, none⟩)]]) wc0 from ⟨⟨_, (HRS.out _ hbq).1⟩, (HRS.out _ hbq).2⟩)
          refine hK.out _ _ HS.out (fun _ => ?_)
          clear hK K
          try simp only [Act.put, sB, sZ, sS]
          refine hTk (i := 9) (d := 46) (v := .int .i64 (sg * mm)) rfl rfl (Or.inl ⟨rfl, by rintro W' ⟨⟨u0, s0⟩, r0⟩; have sy := s0.cell; have ry0 := r0.cell; go_simp⟩) HS.out ?_
          simp only [Act.put, sB, sZ, sS]
          refine wpAnyH_ready (rs := [1, 10]) (by kernel_rfl) (by simp) ?_
          refine AllReadyH.cons rfl (fun K hK => ?_) (AllReadyH.cons rfl (fun K hK => ?_) AllReadyH.nil)
          · rw [if_pos (by rfl)]
            have hx := (HRS.out _ hbq).1.cell
            go_simp
            clear hx
            have HS := Lib.hid (show (fun wx => (∃ v, Rw wx (tb) 136 #[v, .slice none 0 0, .int .i64 cd]) ∧ Rw wx (w.heap.size + 4 + 1) 151 #[.func (.func 153) #[] #[.pointer (some ⟨w.heap.size + 4, 0, none⟩), .pointer (some ⟨w.heap.size, 0, none⟩), .pointer (some ⟨w.heap.size + 1 + 1, 0, none⟩), .pointer (some ⟨w.heap.size + 4 + 1, 0, none⟩)]]) wc0 from ⟨⟨_, (HRS.out _ hbq).1⟩, (HRS.out _ hbq).2⟩)
            refine hK.out _ _ HS.out (fun _ => ?_)
            clear hK K
            try simp only [Act.put, sB, sZ, sS]
            refine wpAnyH_ready (rs := [10]) (by kernel_rfl) (by simp) ?_
            refine AllReadyH.cons rfl (fun K hK => ?_) AllReadyH.nil
            rw [if_pos (by rfl)]
            go_simp
            have hsn := Sl.new (f := fI) (size := 1) wc0 3 ((sg * mm) : Int) #[.int .i64 (sg * mm)] rfl
            have hzw := hbq.size
            replace hbc := hbc.alloc (by have := HBD.out; omega) (.cells #[.int .i64 (sg * mm)] 3)
            replace hbq := hbq.alloc (by have := HBD.out; omega) (.cells #[.int .i64 (sg * mm)] 3)
            obtain ⟨w13, hw13⟩ : ∃ z, wc0.alloc (.cells #[.int .i64 (sg * mm)] 3) = z := ⟨_, rfl⟩
            have hgo := (show wc0.grownBy w13 none from by rw [← hw13]; exact World.grownBy_alloc _ _ _)
            rw [hw13] at hsn hbq hbc ⊢
            have ho13 := ho0.of_blocks (w' := w13) (fun k hk => hgo.block k (ho0.lt k hk).2 (by simp))
            clear hw13 hgo hzw
            have HS := Lib.hid (show (fun wx => (∃ v, Rw wx (tb) 136 #[v, .slice none 0 0, .int .i64 cd]) ∧ Rw wx (w.heap.size + 4 + 1) 151 #[.func (.func 153) #[] #[.pointer (some ⟨w.heap.size + 4, 0, none⟩), .pointer (some ⟨w.heap.size, 0, none⟩), .pointer (some ⟨w.heap.size + 1 + 1, 0, none⟩), .pointer (some ⟨w.heap.size + 4 + 1, 0, none⟩)]]) w13 from ⟨⟨_, (HRS.out _ hbq).1⟩, (HRS.out _ hbq).2⟩)
            refine hK.out _ _ HS.out (fun _ => ?_)
            clear hK K
            try simp only [Act.put, sB, sZ, sS]
            refine wpAnyH_ready (rs := [11]) (by kernel_rfl) (by simp) ?_
            refine AllReadyH.cons rfl (fun K hK => ?_) AllReadyH.nil
            rw [if_pos (by rfl)]
            refine wp_app _ (.tmp 38) (.tmp 47) _ rfl (tb + 1) 3 i6 _ 1 8 Tryz.underlying40 hi6 hz6 hs6 hy6 rfl (by omega) fI_len fI_one (.slice A m c) ((List.range i).map (cramN F n)) rfl ho13 _ _ [((sg * mm) : Int)] 1 rfl hsn (by have := HLN.out; unfold maxLen; simp only [List.length_cons, List.length_nil]; omega) (by have := HLN.out; simp only [List.length_cons, List.length_nil]; omega) (by have := HBD.out; have := hbq.size; omega) (fun _ => .inr ⟨_, rfl⟩) ?_
            intro v2 w14 o14 gr14 at14 ne14
            obtain ⟨Av, cv, hve, _, _, _⟩ := o14.form
            generalize hn2 : List.length (_ ++ [_]) = n2 at hve
            subst hve
            have hb14 := btGrown hbq gr14 (fun b hb => (ho13.lt b hb).1) (by have := HBD.out; have := hbq.size; omega)
            have hbc14 := bGrown hbc gr14 (fun b hb => (ho13.lt b hb).1) (by have := HBD.out; have := hbq.size; omega)
            have hx := HRS.out w14 hb14
            have HS := Lib.hid (show (fun wx => (∃ v, Rw wx (tb) 136 #[v, .slice none 0 0, .int .i64 cd]) ∧ Rw wx (w.heap.size + 4 + 1) 151 #[.func (.func 153) #[] #[.pointer (some ⟨w.heap.size + 4, 0, none⟩), .pointer (some ⟨w.heap.size, 0, none⟩), .pointer (some ⟨w.heap.size + 1 + 1, 0, none⟩), .pointer (some ⟨w.heap.size + 4 + 1, 0, none⟩)]]) w14 from ⟨⟨_, (HRS.out _ hb14).1⟩, (HRS.out _ hb14).2⟩)
            have HX14 := Lib.hid hx
            refine hK.out _ _ HS.out (fun _ => ?_)
            clear hK K
            try simp only [Act.put, sB, sZ, sS]
            refine hTk (i := 12) (d := 49) (v := .pointer (some ⟨tb, 0, none⟩)) rfl rfl (Or.inl ⟨rfl, by rintro W' ⟨⟨u0, s0⟩, r0⟩; have sy := s0.cell; have ry0 := r0.cell; go_simp⟩) HS.out ?_
            simp only [Act.put, sB, sZ, sS]
            refine wpAnyH_ready (rs := [13]) (by kernel_rfl) (by simp) ?_
            refine AllReadyH.cons rfl (fun K hK => ?_) AllReadyH.nil
            rw [if_pos (by rfl)]
            have hx9 := HX14.out.1.cell; have hf9 := HX14.out.1.frozen
            go_simp
            clear hx9 hf9
            have t0 := HX14.out.1.set 0 (.slice Av n2 cv)
            have t1 := HX14.out.2.far (k := tb) 0 (.slice Av n2 cv) (by have := HNE.out; omega)
            have HS := Lib.hid (show (fun wx => (∃ v, Rw wx (tb) 136 #[v, .slice none 0 0, .int .i64 cd]) ∧ Rw wx (w.heap.size + 4 + 1) 151 #[.func (.func 153) #[] #[.pointer (some ⟨w.heap.size + 4, 0, none⟩), .pointer (some ⟨w.heap.size, 0, none⟩), .pointer (some ⟨w.heap.size + 1 + 1, 0, none⟩), .pointer (some ⟨w.heap.size + 4 + 1, 0, none⟩)]]) (w14.setCell ⟨tb, 0, none⟩ (.slice Av n2 cv)) from ⟨⟨_, t0⟩, t1⟩)
            have HR15 := Lib.hid t0
            clear t0 t1
            refine hK.out _ _ HS.out (fun _ => ?_)
            clear hK K
            try simp only [Act.put, sB, sZ, sS]
            refine wpAnyH_done (by kernel_rfl) ?_ _
            have HO14 := Lib.hid o14; have HB14 := Lib.hid hb14; have HBC14 := Lib.hid hbc14
            clear hbc14 hbc hbq HS hx HX14 o14 gr14 at14 ne14 hb14 ho0 ho13 hsn
            refine NoPanic.normal ?_
            have hl := HTL.out
            have hbm := HBD.out
            have HX1 := Lib.hid (show CrA (w14.setCell ⟨tb, 0, none⟩ (.slice Av n2 cv)) (w.heap.size + 1) w.heap.size rb bs n F ks2 from HCR2.out.moved (fun k hk => (Below.heap_setCell _ _ _ k (by show k ≠ tb; omega)).trans (HBC14.out.5 k (by omega))))
            have HX2 := Lib.hid (show Rw (w14.setCell ⟨tb, 0, none⟩ (.slice Av n2 cv)) (w.heap.size + 1) 136 #[.slice none 0 0, .slice none 0 0, .int .i64 0] from (Below.heap_setCell _ _ _ _ (by show w.heap.size + 1 ≠ tb; omega)).trans ((HB14.out.block _ (by omega) (by omega)).trans HRES.out))
            have HX3 := Lib.hid (show Below w.heap.size w (w14.setCell ⟨tb, 0, none⟩ (.slice Av n2 cv)) from (HBR.out.trans ⟨HB14.out.os, HB14.out.tape, HB14.out.output, HB14.out.size, fun k hk => HB14.out.block k (by omega) (by omega)⟩).setCell (p := ⟨tb, 0, none⟩) (by show w.heap.size ≤ tb; omega) _)
            have HX4 := Lib.hid (show Own (w14.setCell ⟨tb, 0, none⟩ (.slice Av n2 cv)) (tb + 1) 3 1 fI (.slice Av n2 cv) ((List.range (i + 1)).map (cramN F n)) from by
              rw [List.range_succ, List.map_append, List.map_singleton, ← HCV.out]
              exact HO14.out.of_blocks (fun j hj => Below.heap_setCell _ _ _ j (by show j ≠ tb; have := (HO14.out.lt j hj).1; omega)))
            have HX5 := Lib.hid (show n2 = i + 1 from by rw [← hn2]; simp)
            have HX6 := Lib.hid (show tb + 1 ≤ (w14.setCell ⟨tb, 0, none⟩ (.slice Av n2 cv)).heap.size from by rw [World.size_setCell]; have := HB14.out.size; omega)
            clear hl hbm hn2
            (try simp only [Exit.inBlock, Exit.then])
            go_wp2
            refine ⟨⟨i + 1, Av, n2, cv, ks2, by have := HI.out; omega, by simp, HR15.out, HX4.out, HX5.out, HX1.out, HX2.out, HX3.out, HX6.out⟩, ?_⟩
            have := HI.out; simp [intOf] <;> omega
          · rw [if_pos (by rfl)]
            go_simp
            have hsn := Sl.new (f := fI) (size := 1) wc0 3 ((sg * mm) : Int) #[.int .i64 (sg * mm)] rfl
            have hzw := hbq.size
            replace hbc := hbc.alloc (by have := HBD.out; omega) (.cells #[.int .i64 (sg * mm)] 3)
            replace hbq := hbq.alloc (by have := HBD.out; omega) (.cells #[.int .i64 (sg * mm)] 3)
            obtain ⟨w13, hw13⟩ : ∃ z, wc0.alloc (.cells #[.int .i64 (sg * mm)] 3) = z := ⟨_, rfl⟩
            have hgo := (show wc0.grownBy w13 none from by rw [← hw13]; exact World.grownBy_alloc _ _ _)
            rw [hw13] at hsn hbq hbc ⊢
            have ho13 := ho0.of_blocks (w' := w13) (fun k hk => hgo.block k (ho0.lt k hk).2 (by simp))
            clear hw13 hgo hzw
            have HS := Lib.hid (show (fun wx => (∃ v, Rw wx (tb) 136 #[v, .slice none 0 0, .int .i64 cd]) ∧ Rw wx (w.heap.size + 4 + 1) 151 #[.func (.func 153) #[] #[.pointer (some ⟨w.heap.size + 4, 0, none⟩), .pointer (some ⟨w.heap.size, 0, none⟩), .pointer (some ⟨w.heap.size + 1 + 1, 0, none⟩), .pointer (some ⟨w.heap.size + 4 + 1, 0, none⟩)]]) w13 from ⟨⟨_, (HRS.out _ hbq).1⟩, (HRS.out _ hbq).2⟩)
            refine hK.out _ _ HS.out (fun _ => ?_)
            clear hK K
            try simp only [Act.put, sB, sZ, sS]
            refine wpAnyH_ready (rs := [1]) (by kernel_rfl) (by simp) ?_
            refine AllReadyH.cons rfl (fun K hK => ?_) AllReadyH.nil
            rw [if_pos (by rfl)]
            have hx := (HRS.out _ hbq).1.cell
            go_simp
            clear hx
            have HS := Lib.hid (show (fun wx => (∃ v, Rw wx (tb) 136 #[v, .slice none 0 0, .int .i64 cd]) ∧ Rw wx (w.heap.size + 4 + 1) 151 #[.func (.func 153) #[] #[.pointer (some ⟨w.heap.size + 4, 0, none⟩), .pointer (some ⟨w.heap.size, 0, none⟩), .pointer (some ⟨w.heap.size + 1 + 1, 0, none⟩), .pointer (some ⟨w.heap.size + 4 + 1, 0, none⟩)]]) w13 from ⟨⟨_, (HRS.out _ hbq).1⟩, (HRS.out _ hbq).2⟩)
            refine hK.out _ _ HS.out (fun _ => ?_)
            clear hK K
            try simp only [Act.put, sB, sZ, sS]
            refine wpAnyH_ready (rs := [11]) (by kernel_rfl) (by simp) ?_
            refine AllReadyH.cons rfl (fun K hK => ?_) AllReadyH.nil
            rw [if_pos (by rfl)]
            refine wp_app _ (.tmp 38) (.tmp 47) _ rfl (tb + 1) 3 i6 _ 1 8 Tryz.underlying40 hi6 hz6 hs6 hy6 rfl (by omega) fI_len fI_one (.slice A m c) ((List.range i).map (cramN F n)) rfl ho13 _ _ [((sg * mm) : Int)] 1 rfl hsn (by have := HLN.out; unfold maxLen; simp only [List.length_cons, List.length_nil]; omega) (by have := HLN.out; simp only [List.length_cons, List.length_nil]; omega) (by have := HBD.out; have := hbq.size; omega) (fun _ => .inr ⟨_, rfl⟩) ?_
            intro v2 w14 o14 gr14 at14 ne14
            obtain ⟨Av, cv, hve, _, _, _⟩ := o14.form
            generalize hn2 : List.length (_ ++ [_]) = n2 at hve
            subst hve
            have hb14 := btGrown hbq gr14 (fun b hb => (ho13.lt b hb).1) (by have := HBD.out; have := hbq.size; omega)
            have hbc14 := bGrown hbc gr14 (fun b hb => (ho13.lt b hb).1) (by have := HBD.out; have := hbq.size; omega)
            have hx := HRS.out w14 hb14
            have HS := Lib.hid (show (fun wx => (∃ v, Rw wx (tb) 136 #[v, .slice none 0 0, .int .i64 cd]) ∧ Rw wx (w.heap.size + 4 + 1) 151 #[.func (.func 153) #[] #[.pointer (some ⟨w.heap.size + 4, 0, none⟩), .pointer (some ⟨w.heap.size, 0, none⟩), .pointer (some ⟨w.heap.size + 1 + 1, 0, none⟩), .pointer (some ⟨w.heap.size + 4 + 1, 0, none⟩)]]) w14 from ⟨⟨_, (HRS.out _ hb14).1⟩, (HRS.out _ hb14).2⟩)
            have HX14 := Lib.hid hx
            refine hK.out _ _ HS.out (fun _ => ?_)
            clear hK K
            try simp only [Act.put, sB, sZ, sS]
            refine hTk (i := 12) (d := 49) (v := .pointer (some ⟨tb, 0, none⟩)) rfl rfl (Or.inl ⟨rfl, by rintro W' ⟨⟨u0, s0⟩, r0⟩; have sy := s0.cell; have ry0 := r0.cell; go_simp⟩) HS.out ?_
            simp only [Act.put, sB, sZ, sS]
            refine wpAnyH_ready (rs := [13]) (by kernel_rfl) (by simp) ?_
            refine AllReadyH.cons rfl (fun K hK => ?_) AllReadyH.nil
            rw [if_pos (by rfl)]
            have hx9 := HX14.out.1.cell; have hf9 := HX14.out.1.frozen
            go_simp
            clear hx9 hf9
            have t0 := HX14.out.1.set 0 (.slice Av n2 cv)
            have t1 := HX14.out.2.far (k := tb) 0 (.slice Av n2 cv) (by have := HNE.out; omega)
            have HS := Lib.hid (show (fun wx => (∃ v, Rw wx (tb) 136 #[v, .slice none 0 0, .int .i64 cd]) ∧ Rw wx (w.heap.size + 4 + 1) 151 #[.func (.func 153) #[] #[.pointer (some ⟨w.heap.size + 4, 0, none⟩), .pointer (some ⟨w.heap.size, 0, none⟩), .pointer (some ⟨w.heap.size + 1 + 1, 0, none⟩), .pointer (some ⟨w.heap.size + 4 + 1, 0, none⟩)]]) (w14.setCell ⟨tb, 0, none⟩ (.slice Av n2 cv)) from ⟨⟨_, t0⟩, t1⟩)
            have HR15 := Lib.hid t0
            clear t0 t1
            refine hK.out _ _ HS.out (fun _ => ?_)
            clear hK K
            try simp only [Act.put, sB, sZ, sS]
            refine wpAnyH_done (by kernel_rfl) ?_ _
            have HO14 := Lib.hid o14; have HB14 := Lib.hid hb14; have HBC14 := Lib.hid hbc14
            clear hbc14 hbc hbq HS hx HX14 o14 gr14 at14 ne14 hb14 ho0 ho13 hsn
            refine NoPanic.normal ?_
            have hl := HTL.out
            have hbm := HBD.out
            have HX1 := Lib.hid (show CrA (w14.setCell ⟨tb, 0, none⟩ (.slice Av n2 cv)) (w.heap.size + 1) w.heap.size rb bs n F ks2 from HCR2.out.moved (fun k hk => (Below.heap_setCell _ _ _ k (by show k ≠ tb; omega)).trans (HBC14.out.5 k (by omega))))
            have HX2 := Lib.hid (show Rw (w14.setCell ⟨tb, 0, none⟩ (.slice Av n2 cv)) (w.heap.size + 1) 136 #[.slice none 0 0, .slice none 0 0, .int .i64 0] from (Below.heap_setCell _ _ _ _ (by show w.heap.size + 1 ≠ tb; omega)).trans ((HB14.out.block _ (by omega) (by omega)).trans HRES.out))
            have HX3 := Lib.hid (show Below w.heap.size w (w14.setCell ⟨tb, 0, none⟩ (.slice Av n2 cv)) from (HBR.out.trans ⟨HB14.out.os, HB14.out.tape, HB14.out.output, HB14.out.size, fun k hk => HB14.out.block k (by omega) (by omega)⟩).setCell (p := ⟨tb, 0, none⟩) (by show w.heap.size ≤ tb; omega) _)
            have HX4 := Lib.hid (show Own (w14.setCell ⟨tb, 0, none⟩ (.slice Av n2 cv)) (tb + 1) 3 1 fI (.slice Av n2 cv) ((List.range (i + 1)).map (cramN F n)) from by
              rw [List.range_succ, List.map_append, List.map_singleton, ← HCV.out]
              exact HO14.out.of_blocks (fun j hj => Below.heap_setCell _ _ _ j (by show j ≠ tb; have := (HO14.out.lt j hj).1; omega)))
            have HX5 := Lib.hid (show n2 = i + 1 from by rw [← hn2]; simp)
            have HX6 := Lib.hid (show tb + 1 ≤ (w14.setCell ⟨tb, 0, none⟩ (.slice Av n2 cv)).heap.size from by rw [World.size_setCell]; have := HB14.out.size; omega)
            clear hl hbm hn2
            (try simp only [Exit.inBlock, Exit.then])
            go_wp2
            refine ⟨⟨i + 1, Av, n2, cv, ks2, by have := HI.out; omega, by simp, HR15.out, HX4.out, HX5.out, HX1.out, HX2.out, HX3.out, HX6.out⟩, ?_⟩
            have := HI.out; simp [intOf] <;> omega
      · have hii : ¬ (i : Int) < (n : Int) := by omega
        obtain rfl : i = n := by omega
        subst hmi
        have x0 := hrt.cell 0; have x1 := hrt.cell 1; have x2 := hrt.cell 2
        have y0 := hres.cell 0; have y1 := hres.cell 1; have y2 := hres.cell 2; have yf := hres.frozen
        have hl := HTL.out
        have h3 := set3 (w := wr) (k := w.heap.size + 1) (v0 := .slice A m c) (v1 := .slice none 0 0) (v2 := .int .i64 cd)
        have HB := Lib.hid (hbr.trans (h3.2.2 w.heap.size (by omega)))
        have HO := Lib.hid (show Own (((wr.setCell ⟨w.heap.size + 1, 0, none⟩ (.slice A m c)).setCell ⟨w.heap.size + 1, 1, none⟩ (.slice none 0 0)).setCell ⟨w.heap.size + 1, 2, none⟩ (.int .i64 cd)) w.heap.size 3 1 fI (.slice A m c) ((List.range m).map (cramN F m)) from (hoo.of_blocks (fun k hk => h3.2.1 k (by have := (hoo.lt k hk).1; omega))).lower (by omega))
        have hr3 := h3.1 136 _ _ _ hres
        have HR3 := Lib.hid hr3
        clear h3 hr3 hoo hbr hres hrt hcr hl hsz
        go_wp2
        (try simp only [Exit.inBlock, Exit.then])
        refine bodyPost_ret (res_c rfl _ _ (w.heap.size + 1) 136 _ _ rfl HR3.out Tryz.underlying136 rfl rfl) rfl ?_
        exact ⟨A, c, by rw [HCDD.out], HO.out, HB.out⟩
end Go.Proofs.YtbnfnpakibkboaaGreat
