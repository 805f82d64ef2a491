/- Contract: Endless, for every plan. -/
import Derived.Test.YtcpanfpijljeaaaGreatU2
import Derived.Test.YtcpanfpijljeaaaGreatW3
namespace Go.Proofs.YtcpanfpijljeaaaGreat
set_option linter.unusedVariables false
set_option linter.unusedSimpArgs false
open Go.RowKit

theorem endNo_moveU {x : Int} : endNo (moveE x) = x := by
  unfold endNo moveE
  simp only [decide_eq_true_eq]
  split <;> omega
theorem keyE_moveU (k : Nat) : keyE (moveE (k : Int)) = k := by
  unfold keyE; rw [endNo_moveU]; simp
theorem bef_count {p : Pl} {y x : Nat} : ∀ k, (befL p k y).count (x : Int) = if x < k then (leaveL p x).count (y : Int) else 0 := by
  intro k
  induction k with
  | zero => simp [befL]
  | succ k ih =>
    rw [befL_succ, List.count_append, ih]
    by_cases h : x = k
    · subst h
      rw [if_neg (by omega), if_pos (by omega)]
      generalize leaveL p x = l
      induction l with
      | nil => simp
      | cons z l ih2 =>
        simp only [List.filter_cons, List.count_cons]
        by_cases hz : (z == (y : Int)) = true
        · rw [if_pos hz, if_pos hz, List.map_cons, List.count_cons, if_pos (by simp)]; omega
        · rw [if_neg hz, if_neg hz]; omega
    · have h0 : List.count (x : Int) (((leaveL p k).filter fun z => z == (y : Int)).map fun _ => (k : Int)) = 0 := by
        rw [List.count_eq_zero]
        simp only [List.mem_map, not_exists, not_and]
        intro _ _; omega
      rw [h0, Nat.add_zero]
      by_cases h2 : x < k
      · rw [if_pos h2, if_pos (by omega)]
      · rw [if_neg h2, if_neg (by omega)]
theorem endless_some {p : Pl} (hv : Vld p) : ∃ n res, endl (befL p (2 * p.rails.length)) n (List.replicate (2 * p.rails.length) true) (lfL p (2 * p.rails.length) (2 * p.rails.length)) (endsL p (2 * p.rails.length)).reverse = some res ∧ Fin2 (2 * p.rails.length) (nextL p) res := by
  have hsz := of_decide_eq_true hv.sizes
  have hnb : ∀ t, t < 2 * p.rails.length → ∀ z ∈ nextL p t, ∃ u : Nat, z = u ∧ u < 2 * p.rails.length := fun t ht z hz => by
    have := nextL_bd hv ht z hz
    exact ⟨z.toNat, by omega, by omega⟩
  obtain ⟨M, hM⟩ : ∃ M, 2 * p.rails.length = M := ⟨_, rfl⟩
  rw [hM] at hnb ⊢
  have hgB : ∀ t, t < M → gB (List.replicate M true) t = true := fun t ht => by simp [gB, ht]
  have hgI : ∀ t, t < M → gI (lfL p M M) t = ((nextL p t).length : Int) := fun t ht => by simp [gI, lfL, ht]
  have hmem : ∀ x : Int, x ∈ (endsL p M).reverse ↔ ∃ t : Nat, x = t ∧ t < M ∧ (nextL p t).length = 0 := fun x => by
    rw [List.mem_reverse]
    unfold endsL
    rw [List.mem_map]
    constructor
    · rintro ⟨t, ht, rfl⟩
      obtain ⟨h1, h2⟩ := List.mem_filter.1 ht
      exact ⟨t, rfl, by simpa using h1, by simpa using h2⟩
    · rintro ⟨t, rfl, h1, h2⟩
      exact ⟨t, List.mem_filter.2 ⟨by simpa using h1, by simpa using h2⟩, rfl⟩
  have hei : EI M (nextL p) (List.replicate M true) (lfL p M M) (endsL p M).reverse [] := by
    refine ⟨by simp, lfL_len (Nat.le_refl _), ?_, ?_, List.nodup_nil, ?_, (fun t h => by cases h), trivial, ?_, ?_⟩
    · refine (List.reverse_perm _).nodup_iff.2 ?_
      unfold endsL
      unfold List.Nodup
      rw [List.pairwise_map]
      have := (List.nodup_range (n := M)).filter (fun t => decide ((nextL p t).length = 0))
      exact this.imp fun hne e => hne (by omega)
    · intro x hx
      obtain ⟨t, rfl, ht, h0⟩ := (hmem x).1 hx
      exact ⟨t, rfl, ht, hgB t ht, by rw [hgI t ht, h0]; rfl⟩
    · intro t ht
      rw [hgB t ht]; simp
    · intro t ht
      rw [hgI t ht, List.filter_eq_self.2]
      intro z hz
      obtain ⟨u, rfl, hu⟩ := hnb t ht z hz
      rw [Int.toNat_natCast]; exact hgB u hu
    · intro t ht _ h0
      rw [hgI t ht] at h0
      exact (hmem _).2 ⟨t, rfl, ht, by omega⟩
  obtain ⟨res, h1, h2⟩ := endl_ends (M := M) (nx := nextL p) (bf := befL p M) (fun t ht => ⟨by have := nextL_len p t; omega, hnb t ht⟩) (fun t _ => befL_bd) (fun b t hb _ => by
      rw [bef_count, if_pos hb]
      unfold nextL
      exact ((List.mergeSort_perm _ _).count_eq _).symm) (by omega) M (List.replicate M true) (lfL p M M) (endsL p M).reverse [] (by simp) hei
  exact ⟨_, res, h1, h2⟩

def EndlessPost (p : Pl) (res : List Bool) (w : World) (e : Ending) (w' : World) : Prop :=
  ((Vld p ∧ ∃ rb, e = .returned (.tuple #[.slice (some ⟨rb, 0, none⟩) (2 * p.rails.length) (2 * p.rails.length), .int .i64 0]) ∧ BRow w' rb res) ∨ (¬ Vld p ∧ e = .returned (.tuple #[.slice none 0 0, .int .i64 2]))) ∧ Below w.heap.size w w'
set_option maxRecDepth 100000 in
set_option maxHeartbeats 1000000 in
theorem Endless_any (A0 A20 : Option Addr) (c0 c20 n : Nat) (res : List Bool) (p : Pl) (w : World) (hP : PlAt w w.heap.size A0 c0 A20 c20 p)
    (hs : Vld p → endl (befL p (2 * p.rails.length)) n (List.replicate (2 * p.rails.length) true) (lfL p (2 * p.rails.length) (2 * p.rails.length)) (endsL p (2 * p.rails.length)).reverse = some res) :
    Calls Tryz.prog 22 #[.agg #[.slice A0 p.nodes.length c0, .slice A20 p.rails.length c20]] w (EndlessPost p res w) := by
  have HP := Lib.hid (hP.box (.cells #[.slice A0 p.nodes.length c0, .slice A20 p.rails.length c20] 25))
  have HB0 := Lib.hid ((Below.refl w.heap.size w).alloc (Nat.le_refl _) (.cells #[.slice A0 p.nodes.length c0, .slice A20 p.rails.length c20] 25))
  have HS := Lib.hid hs
  clear hP hs
  obtain ⟨M, hM⟩ : ∃ M, 2 * p.rails.length = M := ⟨_, rfl⟩
  have HM := Lib.hid hM
  rw [hM] at HS
  clear hM
  go_enter Tryz.func22, Tryz.ntmps22
  go_wp2_with fail
  refine (survey_any A0 A20 c0 c20 p _ HP.out).mono ?_
  rintro e w1 ⟨hb, ⟨hv, rfl⟩ | ⟨hv, g, rfl, hg, hN⟩⟩
  · have HV := Lib.hid hv; have HB := Lib.hid (HB0.out.trans (hb.mono (by simp))); clear hv hb
    go_wp2
    go_ret2
    exact ⟨.inr ⟨HV.out, rfl⟩, HB.out⟩
  · have HV := Lib.hid hv; have HB := Lib.hid (HB0.out.trans (hb.mono (by simp))); have HN := Lib.hid hN
    clear hv hb hN
    go_wp2_with fail
    refine (endless_any _ g n M res p _ HM.out HN.out (Nat.le_refl _) (HS.out HV.out)).mono ?_
    rintro e w2 ⟨⟨rb, rfl, hrow, _⟩, hb2⟩
    have HR := Lib.hid hrow
    have HB2 := Lib.hid (HB.out.trans (hb2.mono HB.out.size))
    clear hrow hb2
    go_wp2
    go_ret2
    exact ⟨.inl ⟨HV.out, rb, by rw [HM.out]; rfl, HR.out⟩, HB2.out⟩
end Go.Proofs.YtcpanfpijljeaaaGreat
