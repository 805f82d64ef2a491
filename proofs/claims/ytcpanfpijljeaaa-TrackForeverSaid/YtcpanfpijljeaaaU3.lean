/- TrackForever returns true for every plan and every way; its arguments read afterwards as they read before. No condition. -/
import Derived.Test.YtcpanfpijljeaaaRows
import Derived.Test.YtcpanfpijljeaaaT4
import Derived.Test.YtcpanfpijljeaaaU2
import Derived.WalkKit
import Derived.ProofKit
import Derived.Deep.OwnRows
import Derived.Deep.CondSized
import Derived.WideKeyArgs
import Derived.ReadAgain
namespace Go.Proofs.Ytcpanfpijljeaaa
set_option linter.unusedVariables false
set_option linter.unusedSimpArgs false
open Go.RowKit

theorem endNo_moveU {x : Int} : endNo (moveE x) = x := by
  unfold endNo moveE
  simp only [decide_eq_true_eq]
  split <;> omega
theorem keyE_moveU (k : Nat) : keyE (moveE (k : Int)) = k := by
  unfold keyE; rw [endNo_moveU]; simp
theorem bef_count {p : Pl} {y x : Nat} : ∀ k, (befL p k y).count (x : Int) = if x < k then (leaveL p x).count (y : Int) else 0 := by
  intro k
  induction k with
  | zero => simp [befL]
  | succ k ih =>
    rw [befL_succ, List.count_append, ih]
    by_cases h : x = k
    · subst h
      rw [if_neg (by omega), if_pos (by omega)]
      generalize leaveL p x = l
      induction l with
      | nil => simp
      | cons z l ih2 =>
        simp only [List.filter_cons, List.count_cons]
        by_cases hz : (z == (y : Int)) = true
        · rw [if_pos hz, if_pos hz, List.map_cons, List.count_cons, if_pos (by simp)]; omega
        · rw [if_neg hz, if_neg hz]; omega
    · have h0 : List.count (x : Int) (((leaveL p k).filter fun z => z == (y : Int)).map fun _ => (k : Int)) = 0 := by
        rw [List.count_eq_zero]
        simp only [List.mem_map, not_exists, not_and]
        intro _ _; omega
      rw [h0, Nat.add_zero]
      by_cases h2 : x < k
      · rw [if_pos h2, if_pos (by omega)]
      · rw [if_neg h2, if_neg (by omega)]
theorem endless_some {p : Pl} (hv : Vld p) : ∃ n res, endl (befL p (2 * p.rails.length)) n (List.replicate (2 * p.rails.length) true) (lfL p (2 * p.rails.length) (2 * p.rails.length)) (endsL p (2 * p.rails.length)).reverse = some res ∧ Fin2 (2 * p.rails.length) (nextL p) res := by
  have hsz := of_decide_eq_true hv.sizes
  have hnb : ∀ t, t < 2 * p.rails.length → ∀ z ∈ nextL p t, ∃ u : Nat, z = u ∧ u < 2 * p.rails.length := fun t ht z hz => by
    have := nextL_bd hv ht z hz
    exact ⟨z.toNat, by omega, by omega⟩
  obtain ⟨M, hM⟩ : ∃ M, 2 * p.rails.length = M := ⟨_, rfl⟩
  rw [hM] at hnb ⊢
  have hgB : ∀ t, t < M → gB (List.replicate M true) t = true := fun t ht => by simp [gB, ht]
  have hgI : ∀ t, t < M → gI (lfL p M M) t = ((nextL p t).length : Int) := fun t ht => by simp [gI, lfL, ht]
  have hmem : ∀ x : Int, x ∈ (endsL p M).reverse ↔ ∃ t : Nat, x = t ∧ t < M ∧ (nextL p t).length = 0 := fun x => by
    rw [List.mem_reverse]
    unfold endsL
    rw [List.mem_map]
    constructor
    · rintro ⟨t, ht, rfl⟩
      obtain ⟨h1, h2⟩ := List.mem_filter.1 ht
      exact ⟨t, rfl, by simpa using h1, by simpa using h2⟩
    · rintro ⟨t, rfl, h1, h2⟩
      exact ⟨t, List.mem_filter.2 ⟨by simpa using h1, by simpa using h2⟩, rfl⟩
  have hei : EI M (nextL p) (List.replicate M true) (lfL p M M) (endsL p M).reverse [] := by
    refine ⟨by simp, lfL_len (Nat.le_refl _), ?_, ?_, List.nodup_nil, ?_, (fun t h => by cases h), trivial, ?_, ?_⟩
    · refine (List.reverse_perm _).nodup_iff.2 ?_
      unfold endsL
      unfold List.Nodup
      rw [List.pairwise_map]
      have := (List.nodup_range (n := M)).filter (fun t => decide ((nextL p t).length = 0))
      exact this.imp fun hne e => hne (by omega)
    · intro x hx
      obtain ⟨t, rfl, ht, h0⟩ := (hmem x).1 hx
      exact ⟨t, rfl, ht, hgB t ht, by rw [hgI t ht, h0]; rfl⟩
    · intro t ht
      rw [hgB t ht]; simp
    · intro t ht
      rw [hgI t ht, List.filter_eq_self.2]
      intro z hz
      obtain ⟨u, rfl, hu⟩ := hnb t ht z hz
      rw [Int.toNat_natCast]; exact hgB u hu
    · intro t ht _ h0
      rw [hgI t ht] at h0
      exact (hmem _).2 ⟨t, rfl, ht, by omega⟩
  obtain ⟨res, h1, h2⟩ := endl_ends (M := M) (nx := nextL p) (bf := befL p M) (fun t ht => ⟨by have := nextL_len p t; omega, hnb t ht⟩) (fun t _ => befL_bd) (fun b t hb _ => by
      rw [bef_count, if_pos hb]
      unfold nextL
      exact ((List.mergeSort_perm _ _).count_eq _).symm) (by omega) M (List.replicate M true) (lfL p M M) (endsL p M).reverse [] (by simp) hei
  exact ⟨_, res, h1, h2⟩

def EndlessPost (p : Pl) (res : List Bool) (w : World) (e : Ending) (w' : World) : Prop :=
  ((Vld p ∧ ∃ rb, e = .returned (.tuple #[.slice (some ⟨rb, 0, none⟩) (2 * p.rails.length) (2 * p.rails.length), .int .i64 0]) ∧ BRow w' rb res) ∨ (¬ Vld p ∧ e = .returned (.tuple #[.slice none 0 0, .int .i64 2]))) ∧ Below w.heap.size w w'
set_option maxRecDepth 100000 in
set_option maxHeartbeats 1000000 in
theorem Endless_any (A0 A20 : Option Addr) (c0 c20 n : Nat) (res : List Bool) (p : Pl) (w : World) (hP : PlAt w w.heap.size A0 c0 A20 c20 p)
    (hs : Vld p → endl (befL p (2 * p.rails.length)) n (List.replicate (2 * p.rails.length) true) (lfL p (2 * p.rails.length) (2 * p.rails.length)) (endsL p (2 * p.rails.length)).reverse = some res) :
    Calls Try.prog 31 #[.agg #[.slice A0 p.nodes.length c0, .slice A20 p.rails.length c20]] w (EndlessPost p res w) := by
  have HP := Lib.hid (hP.box (.cells #[.slice A0 p.nodes.length c0, .slice A20 p.rails.length c20] 25))
  have HB0 := Lib.hid ((Below.refl w.heap.size w).alloc (Nat.le_refl _) (.cells #[.slice A0 p.nodes.length c0, .slice A20 p.rails.length c20] 25))
  have HS := Lib.hid hs
  clear hP hs
  obtain ⟨M, hM⟩ : ∃ M, 2 * p.rails.length = M := ⟨_, rfl⟩
  have HM := Lib.hid hM
  rw [hM] at HS
  clear hM
  go_enter Try.func31, Try.ntmps31
  go_wp2_with fail
  refine (survey_any A0 A20 c0 c20 p _ HP.out).mono ?_
  rintro e w1 ⟨hb, ⟨hv, rfl⟩ | ⟨hv, g, rfl, hg, hN⟩⟩
  · have HV := Lib.hid hv; have HB := Lib.hid (HB0.out.trans (hb.mono (by simp))); clear hv hb
    go_wp2
    go_ret2
    exact ⟨.inr ⟨HV.out, rfl⟩, HB.out⟩
  · have HV := Lib.hid hv; have HB := Lib.hid (HB0.out.trans (hb.mono (by simp))); have HN := Lib.hid hN
    clear hv hb hN
    go_wp2_with fail
    refine (endless_any _ g n M res p _ HM.out HN.out (Nat.le_refl _) (HS.out HV.out)).mono ?_
    rintro e w2 ⟨⟨rb, rfl, hrow, _⟩, hb2⟩
    have HR := Lib.hid hrow
    have HB2 := Lib.hid (HB.out.trans (hb2.mono HB.out.size))
    clear hrow hb2
    go_wp2
    go_ret2
    exact ⟨.inl ⟨HV.out, rb, by rw [HM.out]; rfl, HR.out⟩, HB2.out⟩

section
variable (A A2 A3 : Option Addr) (c c2 c3 : Nat) (p : Pl) (l : List E) (w : World)
def ForeverC : Prop := Calls Try.prog 7 #[.agg #[.slice A p.nodes.length c, .slice A2 p.rails.length c2], .slice A3 l.length c3] w fun e w' => e = .returned (.bool true) ∧ Below w.heap.size w w'

set_option maxRecDepth 100000 in
set_option maxHeartbeats 1000000 in
theorem Forever_big (hP : PlAt w w.heap.size A c A2 c2 p) (hA : Sl w w.heap.size 2 CE A3 l) (hs : smallB p = false) : ForeverC A A2 A3 c c2 c3 p l w := by
  have H1 := Lib.hid (Pst.start hP hA)
  have HS := Lib.hid hs
  clear hP hA hs
  unfold ForeverC
  go_enter Try.func7, Try.ntmps7
  go_wp2_with fail
  refine (small_any A A2 c c2 p _ H1.out.pl).mono ?_
  rintro e w2 ⟨rfl, hb2⟩
  rw [HS.out]
  have H2 := Lib.hid (H1.out.next hb2)
  clear hb2
  go_wp2_with fail
  refine (known_any _).mono ?_
  rintro e w3 ⟨rfl, hb3⟩
  have H3 := Lib.hid (H2.out.next hb3)
  clear hb3
  go_wp2
  go_ret
  exact ⟨rfl, H3.out.be⟩

set_option maxRecDepth 100000 in
set_option maxHeartbeats 1000000 in
theorem Forever_not (hP : PlAt w w.heap.size A c A2 c2 p) (hA : Sl w w.heap.size 2 CE A3 l) (hs : smallB p = true) (hv : ¬ Vld p) : ForeverC A A2 A3 c c2 c3 p l w := by
  have H1 := Lib.hid (Pst.start hP hA)
  have HS := Lib.hid hs; have HV := Lib.hid (valB_no hv)
  clear hP hA hs hv
  unfold ForeverC
  go_enter Try.func7, Try.ntmps7
  go_wp2_with fail
  refine (small_any A A2 c c2 p _ H1.out.pl).mono ?_
  rintro e w2 ⟨rfl, hb2⟩
  rw [HS.out]
  have H2 := Lib.hid (H1.out.next hb2)
  clear hb2 H1
  obtain ⟨k0, k1, _, _, _, _⟩ := H2.out
  go_wp2_with fail
  refine (HV.out A A2 c c2 _ H2.out.pl).mono ?_
  rintro e w3 ⟨rfl, hb3⟩
  have H3 := Lib.hid (H2.out.next hb3)
  clear hb3 H2 k0 k1
  go_wp2_with fail
  refine (known_any _).mono ?_
  rintro e w4 ⟨rfl, hb4⟩
  have H4 := Lib.hid (H3.out.next hb4)
  clear hb4 H3
  go_wp2
  go_ret
  exact ⟨rfl, H4.out.be⟩

set_option maxRecDepth 100000 in
set_option maxHeartbeats 1000000 in
theorem Forever_long (hP : PlAt w w.heap.size A c A2 c2 p) (hA : Sl w w.heap.size 2 CE A3 l) (hs : smallB p = true) (hv : Vld p) (hl : 60 < l.length) : ForeverC A A2 A3 c c2 c3 p l w := by
  have H1 := Lib.hid (Pst.start hP hA)
  have HS := Lib.hid hs; have HV := Lib.hid (valB_yes hv)
  have hl2 : (60 : Int) < (l.length : Int) := by omega
  clear hP hA hs hv
  unfold ForeverC
  go_enter Try.func7, Try.ntmps7
  go_wp2_with fail
  refine (small_any A A2 c c2 p _ H1.out.pl).mono ?_
  rintro e w2 ⟨rfl, hb2⟩
  rw [HS.out]
  have H2 := Lib.hid (H1.out.next hb2)
  clear hb2 H1
  obtain ⟨k0, k1, _, _, _, _⟩ := H2.out
  go_wp2_with fail
  refine (HV.out A A2 c c2 _ H2.out.pl).mono ?_
  rintro e w3 ⟨rfl, hb3⟩
  have H3 := Lib.hid (H2.out.next hb3)
  clear hb3 H2 k0 k1
  go_wp2_with fail
  refine (known_any _).mono ?_
  rintro e w4 ⟨rfl, hb4⟩
  have H4 := Lib.hid (H3.out.next hb4)
  clear hb4 H3
  go_wp2
  go_ret
  exact ⟨rfl, H4.out.be⟩

/-- the first k moves: is one of them endless? -/
def metL (res : List Bool) (l : List Int) (k : Nat) : Bool := (l.take k).any fun z => gB res z.toNat
theorem metL_succ {res : List Bool} {l : List Int} {k : Nat} (h : k < l.length) : metL res l (k + 1) = (metL res l k || gB res l[k].toNat) := by
  unfold metL
  rw [List.take_succ_eq_append_getElem h, List.any_append]; simp
theorem metL_all {M k : Nat} {p : Pl} {res : List Bool} (hF : Fin2 M (nextL p) res) (hk : k < M) : metL res (nextL p k) (nextL p k).length = gB res k := by
  unfold metL
  rw [List.take_length]
  cases hb : gB res k
  · rw [List.any_eq_false]
    intro z hz
    rw [hF.no k hk hb z hz]; simp
  · obtain ⟨u, hu, hy⟩ := hF.yes k hk hb
    rw [List.any_eq_true]
    exact ⟨u, hu, by simpa using hy⟩
theorem way_forever {p : Pl} {l : List E} {res : List Bool} (hw : wayOk p l) (h0 : 0 < l.length) (hF : Fin2 (2 * p.rails.length) (nextL p) res) (hl : 2 * p.rails.length < l.length) : gB res (keyE l[0]) = true := by
  have hin : ∀ j (hj : j < l.length), railIn p l[j].rail = true := fun j hj => by have := (hw.2.2 j hj).1; rwa [E1_eq hj] at this
  cases hb : gB res (keyE l[0])
  · exfalso
    obtain ⟨m, r, rfl⟩ : ∃ m r, l = m :: r := by
      cases l with
      | nil => simp at h0
      | cons m r => exact ⟨m, r, rfl⟩
    have := hF.way (r.map keyE) (keyE m) (key_lt (hin 0 h0)).2 hb (fun i hi => by
      have hi' : i < r.length := by simpa using hi
      have h1 := (hw.2.2 (i + 1) (by simp; omega)).2 (by omega)
      rw [show i + 1 - 1 = i by omega, E1_eq (by simp; omega), E1_eq (by simp; omega), folB_iff] at h1
      have h2 := key_lt (hin (i + 1) (by simp; omega))
      rw [← h2.1] at h1
      have e1 : (keyE m :: r.map keyE)[i]'(by simp; omega) = keyE ((m :: r)[i]'(by simp; omega)) := by
        simp only [← List.map_cons, List.getElem_map]
      have e2 : (r.map keyE)[i] = keyE ((m :: r)[i + 1]'(by simp; omega)) := by simp
      rw [e1, e2]
      exact h1)
    simp at this hl
    omega
  · rfl

set_option maxRecDepth 100000 in
set_option maxHeartbeats 4000000 in
theorem Forever_in (hP : PlAt w w.heap.size A c A2 c2 p) (hA : Sl w w.heap.size 2 CE A3 l) (hs : smallB p = true) (hv : Vld p) (hl : l.length ≤ 60) : ForeverC A A2 A3 c c2 c3 p l w := by
  obtain ⟨n, res, hres, hF⟩ := endless_some hv
  have hr14 := small_rails hv hs
  obtain ⟨M, hM⟩ : ∃ x, 2 * p.rails.length = x := ⟨_, rfl⟩
  obtain ⟨Q, hQ⟩ : ∃ x, l.length = x := ⟨_, rfl⟩
  have HWF := Lib.hid (show wayOk p l → M < Q → ∃ mr ml K, l[0]? = some ⟨mr, ml⟩ ∧ 0 ≤ mr ∧ mr ≤ 1000000 ∧ endNo ⟨mr, ml⟩ = ((K : Nat) : Int) ∧ K < M ∧ gB res K = true from fun hw hq => by
    have h0 : 0 < l.length := hw.1
    obtain ⟨⟨mr, ml⟩, hm⟩ : ∃ x, l[0] = x := ⟨_, rfl⟩
    have hmI : railIn p mr = true := by have := (hw.2.2 0 h0).1; rw [E1_eq h0, hm] at this; exact this
    have hkk := key_lt (m := ⟨mr, ml⟩) hmI
    have hmr := of_decide_eq_true hmI
    refine ⟨mr, ml, keyE ⟨mr, ml⟩, by rw [List.getElem?_eq_getElem h0, hm], hmr.1, by omega, hkk.1.symm, by omega, ?_⟩
    rw [← hm]
    exact way_forever hw h0 hF (by omega))
  have C31 := Lib.hid (show ∀ w, PlAt w w.heap.size A c A2 c2 p → Calls Try.prog 31 #[.agg #[.slice A p.nodes.length c, .slice A2 p.rails.length c2]] w fun e w' => (∃ rb, e = .returned (.tuple #[.slice (some ⟨rb, 0, none⟩) M M, .int .i64 0]) ∧ BRow w' rb res) ∧ Below w.heap.size w w' from fun w hP =>
    (Endless_any A A2 c c2 n res p w hP (fun _ => hres)).mono fun e w' h => by
      obtain ⟨⟨_, rb, rfl, hrow⟩ | ⟨h1, _⟩, hb⟩ := h
      · exact ⟨⟨rb, by rw [hM], hrow⟩, hb⟩
      · exact absurd hv h1)
  have C27 := Lib.hid (show ∀ w, PlAt w w.heap.size A c A2 c2 p → Sl w w.heap.size 2 CE A3 l → Calls Try.prog 27 #[.agg #[.slice A p.nodes.length c, .slice A2 p.rails.length c2], .slice A3 Q c3] w (RWayPost p l w) from fun w hP hA => by
    have := rWay_any A A2 A3 c c2 c3 p l w hP hv hA (by omega)
    rwa [hQ] at this)
  have C19 := Lib.hid (show ∀ k : Nat, k < M → ∀ w, PlAt w w.heap.size A c A2 c2 p → Calls Try.prog 19 #[.agg #[.slice A p.nodes.length c, .slice A2 p.rails.length c2], .agg #[.int .i64 (moveE (k : Int)).rail, .bool (moveE (k : Int)).last]] w fun e w' => (∃ B d, e = .returned (.tuple #[.slice B (nextL p k).length d, .int .i64 0]) ∧ Sl w' w'.heap.size 2 CE B ((nextL p k).map moveE)) ∧ Below w.heap.size w w' from fun k hk w hP =>
    (Next_any A A2 c c2 p (moveE (k : Int)) w hP).mono fun e w' h => by
      have hri : railIn p (moveE (k : Int)).rail = true := show decide (0 ≤ (k : Int) / 2 ∧ (k : Int) / 2 < p.rails.length) = true from decide_eq_true (by omega)
      obtain ⟨⟨_, _, v, rfl, ho⟩ | ⟨h1 | h1, _⟩, hb⟩ := h
      · rw [keyE_moveU] at ho
        obtain ⟨B, d, rfl, _, _, _⟩ := ho.form
        refine ⟨⟨B, d, by rw [List.length_map], (ho.sl fE_len rfl).keep (fun _ _ h => h) fun _ _ => rfl⟩, hb⟩
      · exact absurd hv h1
      · rw [hri] at h1; cases h1)
  have HNB := Lib.hid (show ∀ t, t < M → ∀ z ∈ nextL p t, 0 ≤ z ∧ z < (M : Int) from fun t ht z hz => by have := nextL_bd hv (show t < 2 * p.rails.length by omega) z hz; omega)
  rw [hM] at hF
  have HF := Lib.hid hF
  have H1 := Lib.hid (Pst.start hP hA)
  have HS := Lib.hid hs; have HV := Lib.hid (valB_yes hv)
  have HM := Lib.hid (show (M : Int) = 2 * (p.rails.length : Int) by omega)
  have hq60 : (Q : Int) ≤ 60 := by omega
  have hM28 : M ≤ 28 := by omega
  have hrl : (p.rails.length : Int) ≤ 14 := by omega
  have hlen := hF.len
  unfold ForeverC
  rw [hQ]
  clear hP hA hs hv hl hres hF hM hr14
  have HQ := Lib.hid hQ
  clear hQ
  go_enter Try.func7, Try.ntmps7
  go_wp2_with fail
  refine (small_any A A2 c c2 p _ H1.out.pl).mono ?_
  rintro e w2 ⟨rfl, hb2⟩
  rw [HS.out]
  have H2 := Lib.hid (H1.out.next hb2)
  clear hb2 H1
  obtain ⟨k0, k1, _, _, _, _⟩ := H2.out
  go_wp2_with fail
  refine (HV.out A A2 c c2 _ H2.out.pl).mono ?_
  rintro e w3 ⟨rfl, hb3⟩
  have H3 := Lib.hid (H2.out.next hb3)
  clear hb3 H2 k0 k1
  obtain ⟨k0, k1, _, _, _, _⟩ := H3.out
  go_wp2_with fail
  refine (C31.out _ H3.out.pl).mono ?_
  rintro e w4 ⟨⟨rb, rfl, hrow4⟩, hb4⟩
  have H4 := Lib.hid (H3.out.next hb4)
  have HR4 := Lib.hid hrow4
  clear hb4 H3 k0 k1 hrow4 C31 HS HV
  obtain ⟨k0, k1, _, _, _, _⟩ := H4.out
  have hrc := H4.out.pl.rc; have hrm := H4.out.pl.rm
  have d1 : ((M : Int) != 2 * (p.rails.length : Int)) = false := by rw [HM.out]; simp
  have d2 : (!((M : Int) == 2 * (p.rails.length : Int))) = false := by rw [HM.out]; simp
  have hrbl := HR4.out.lt
  go_upto_region 6 with (fail)
  go_cut [62] from 43 to 62 (fun s62 wx => s62 = .bool false ∧ Below w4.heap.size w4 wx)
  case first =>
    go_wp2_with fail
    refine (C27.out _ H4.out.pl H4.out.sl).mono ?_
    rintro e w5 ⟨⟨b, rfl, hbw⟩, hb5⟩
    have hrow5 := HR4.out.below hb5 hrbl
    have HBW := Lib.hid hbw; have HB5 := Lib.hid hb5
    have HSL := Lib.hid ((H4.out.next hb5).sl)
    clear hbw hb5
    cases b
    · go_wp2_with fail
      go_meet
      exact ⟨rfl, HB5.out⟩
    · by_cases hq : M < Q
      · obtain ⟨mr, ml, K, hg0, hm0, hm1, hKe, hKM, hKt⟩ := HWF.out (HBW.out.1 rfl) hq
        obtain ⟨hl0, hg1⟩ := List.getElem?_eq_some_iff.1 hg0
        obtain ⟨b1, o1, rfl, g1, q0, q1⟩ := end_at HSL.out hl0
        rw [hg1] at q0 q1
        simp only [Nat.zero_mul, Nat.add_zero] at q0 q1
        have C30 := Lib.hid (show ∀ w, Calls Try.prog 30 #[.agg #[.int .i64 mr, .bool ml]] w fun e w' => e = .returned (.int .i64 (K : Int)) ∧ Below w.heap.size w w' from fun w => by
          have := rNumber_any mr ml w hm0 hm1
          rwa [hKe] at this)
        have HROW := Lib.hid hrow5
        have hrb5 := hrow5.lt
        have hKr : res[K]'(by omega) = true := by
          have h1 : res.getD K false = true := hKt
          rwa [List.getD_eq_getElem?_getD, List.getElem?_eq_getElem (by omega), Option.getD_some] at h1
        have HKR := Lib.hid hKr
        have hq0 : (0 : Int) < (Q : Int) := by omega
        have hq1 : (M : Int) < (Q : Int) := by omega
        have dq : decide (M < Q) = true := by simp; omega
        have hK0 : (0 : Int) ≤ (K : Int) := by omega
        have hK1 : (K : Int) < (M : Int) := by omega
        clear hg0 hl0 hg1 hm0 hm1 hKe hKt hrow5 hKr hq
        go_wp2_with fail
        refine (C30.out _).mono ?_
        rintro e w6 ⟨rfl, hb6⟩
        have x0 := (HROW.out.below hb6 hrb5).cell (i := K) (by omega)
        rw [HKR.out] at x0
        have HB6 := Lib.hid (HB5.out.trans (hb6.mono HB5.out.size))
        clear hb6
        go_wp2_with fail
        go_meet
        exact ⟨rfl, HB6.out⟩
      · have hq2 : (Q : Int) ≤ (M : Int) := by omega
        have dq : decide (M < Q) = false := by simp; omega
        clear hq
        go_wp2_with fail
        go_meet
        exact ⟨rfl, HB5.out⟩
  case rest =>
  obtain ⟨rfl, hb5⟩ := hcut
  have H5 := Lib.hid (H4.out.next hb5)
  have HR5 := Lib.hid (HR4.out.below hb5 hrbl)
  clear hb5 H4 HR4 k0 k1 HWF C27 hrbl d1 d2
  go_wp2
  go_loopw [7] (fun i wr => ∃ k : Nat, k ≤ M ∧ i = .int .i64 (k : Int) ∧ Pst w wr w.heap.size A c A2 c2 p A3 l ∧ BRow wr rb res) (fun i _ => M - (intOf i).toNat)
  case atStart => exact ⟨0, by omega, rfl, H5.out, HR5.out⟩
  case round =>
    obtain ⟨k, hk, rfl, hpst, hrow⟩ := hrel
    have HP := Lib.hid hpst; have HR := Lib.hid hrow
    have hrbr := hrow.lt
    clear hpst hrow
    by_cases hlt : k < M
    · have hkr : k < res.length := by omega
      have HNBk := Lib.hid (HNB.out k hlt)
      have HCk := Lib.hid (C19.out k hlt)
      have HMA := Lib.hid (metL_all HF.out hlt)
      have HLL := Lib.hid (nextL_len p k)
      obtain ⟨L, hL⟩ : ∃ L, nextL p k = L := ⟨_, rfl⟩
      rw [hL] at HNBk HCk HMA HLL
      have hll := HLL.out
      obtain ⟨bk, hbk⟩ : ∃ x, gB res k = x := ⟨_, rfl⟩
      rw [hbk] at HMA
      have HBK := Lib.hid (show res[k] = bk by rw [← hbk]; simp [gB, hkr])
      clear hL hbk
      obtain ⟨k0, k1, _, _, _, hz0⟩ := HP.out
      have hk0 : (0 : Int) ≤ (k : Int) := by omega
      have hk1 : (k : Int) ≤ 1000000 := by omega
      have hk2 : (k : Int) < (M : Int) := by omega
      go_upto_region 11 with (fail)
      go_cut [8, 9] from 63 to 77 (fun s8 s9 wx => (∃ (Bn : Option Addr) (dn : Nat), s8 = .slice Bn L.length dn ∧ Sl wx wx.heap.size 2 CE Bn (L.map moveE)) ∧ s9 = .int .i64 0 ∧ Below wr.heap.size wr wx)
      case first =>
        have hbq : Below wr.heap.size wr wr.drew := (Below.refl _ _).drew
        first
          | (go_region_held3 (fun w' => w'.cell? ⟨w.heap.size, 0, none⟩ = some (.slice A p.nodes.length c) ∧ w'.cell? ⟨w.heap.size, 1, none⟩ = some (.slice A2 p.rails.length c2))
              (exact ⟨(hbq.cell (p := ⟨w.heap.size, 0, none⟩) hz0).trans k0, (hbq.cell (p := ⟨w.heap.size, 1, none⟩) hz0).trans k1⟩)
              ((first
                | (go_at_call 32; (with_reducible refine (Of_any (k : Int) _ hk0 hk1).mono ?_); rintro e w5 ⟨rfl, hb5⟩; replace hbq := hbq.trans (hb5.mono hbq.size))
                | (go_at_call 19; have hpw := (HP.out.pl.below hbq).more hbq.size; (with_reducible refine (HCk.out _ hpw).mono ?_); rintro e w6 ⟨⟨Bn, dn, rfl, hsn⟩, hb6⟩; replace hbq := hbq.trans (hb6.mono hbq.size)))))
          | fail "held3"
        all_goals
          go_wp2_with fail
          go_meet
          exact ⟨⟨Bn, dn, rfl, hsn⟩, rfl, hbq⟩
      case rest =>
      obtain ⟨⟨Bn, dn, rfl, hsn⟩, rfl, hbq⟩ := hcut
      have HP2 := Lib.hid (HP.out.next hbq)
      have HR2 := Lib.hid (HR.out.below hbq hrbr)
      have HSN := Lib.hid hsn
      clear hbq hsn HCk HP HR k0 k1 hz0 HF HNB C19 HLL
      go_wp2
      go_loopw [10, 11] (fun mt j wr2 => ∃ i : Nat, i ≤ L.length ∧ j = .int .i64 (i : Int) ∧ mt = .bool (metL res L i) ∧ Pst w wr2 w.heap.size A c A2 c2 p A3 l ∧ BRow wr2 rb res ∧ Sl wr2 wr2.heap.size 2 CE Bn (L.map moveE)) (fun _ j _ => L.length - (intOf j).toNat)
      case atStart => exact ⟨0, Nat.zero_le _, rfl, rfl, HP2.out, HR2.out, HSN.out⟩
      case round =>
        obtain ⟨i, hi, rfl, rfl, hpst, hrow, hsl⟩ := hrel
        have HP3 := Lib.hid hpst; have HR3 := Lib.hid hrow; have HS3 := Lib.hid hsl
        have hrb3 := hrow.lt
        clear hpst hrow hsl
        by_cases hil : i < L.length
        · obtain ⟨b1, o1, e1, g1, q0, q1⟩ := end_at HS3.out (i := i) (by simpa using hil)
          simp only [List.getElem_map] at q0 q1
          have hz := HNBk.out L[i] (List.getElem_mem hil)
          have HMS := Lib.hid (metL_succ (res := res) hil)
          obtain ⟨t, ht⟩ : ∃ t : Nat, L[i] = (t : Int) := ⟨L[i].toNat, by omega⟩
          rw [ht] at q0 q1 hz HMS
          have C30 := Lib.hid (show ∀ w, Calls Try.prog 30 #[.agg #[.int .i64 (moveE (t : Int)).rail, .bool (moveE (t : Int)).last]] w fun e w' => e = .returned (.int .i64 (t : Int)) ∧ Below w.heap.size w w' from fun w => by
            have := rNumber_any (moveE (t : Int)).rail (moveE (t : Int)).last w (by simp [moveE]; omega) (by simp [moveE]; omega)
            rwa [show endNo ⟨(moveE (t : Int)).rail, (moveE (t : Int)).last⟩ = (t : Int) from endNo_moveU] at this)
          obtain ⟨⟨mr, ml⟩, hmm⟩ : ∃ x, moveE (t : Int) = x := ⟨_, rfl⟩
          rw [hmm] at q0 q1 C30
          have ht0 : (0 : Int) ≤ (t : Int) := by omega
          have ht1 : (t : Int) < (M : Int) := hz.2
          have hi0 : (0 : Int) ≤ (i : Int) := by omega
          have hi1 : (i : Int) < (L.length : Int) := by omega
          have htr : t < res.length := by omega
          subst e1
          clear hmm ht hz
          go_wp2_with fail
          refine (C30.out _).mono ?_
          rintro e w6 ⟨rfl, hb6⟩
          have hrow6 := HR3.out.below hb6 hrb3
          have x0 := hrow6.cell htr
          obtain ⟨bt, hbt⟩ : ∃ x, res[t] = x := ⟨_, rfl⟩
          rw [hbt] at x0
          have HBT := Lib.hid (show gB res t = bt by rw [← hbt]; simp [gB, htr])
          have HR6 := Lib.hid hrow6
          have HP6 := Lib.hid (HP3.out.next hb6)
          have HS6 := Lib.hid ((HS3.out.below hb6).more (fun _ _ h => h) hb6.size)
          clear hb6 hrow6 hbt q0 q1
          obtain ⟨mt, hmt⟩ : ∃ x, metL res L i = x := ⟨_, rfl⟩
          rw [hmt] at HMS ⊢
          clear hmt
          cases mt
          · have HMS2 := Lib.hid (show metL res L (i + 1) = bt by rw [HMS.out, Int.toNat_natCast, HBT.out]; rfl)
            go_wp2
            go_roundw
            case rel => exact ⟨i + 1, by omega, by go_num, by rw [HMS2.out], HP6.out, HR6.out, HS6.out⟩
            case measure => simp [intOf]; omega
          · have HMS2 := Lib.hid (show metL res L (i + 1) = true by rw [HMS.out]; rfl)
            go_wp2
            go_roundw
            case rel => exact ⟨i + 1, by omega, by go_num, by rw [HMS2.out], HP6.out, HR6.out, HS6.out⟩
            case measure => simp [intOf]; omega
        · obtain rfl : i = L.length := by omega
          have x0 := HR3.out.cell hkr
          rw [HBK.out] at x0
          rw [HMA.out]
          cases bk
          · go_wp2
            go_roundw
            case rel => exact ⟨k + 1, by omega, by go_num, HP3.out, HR3.out⟩
            case measure => simp [intOf]; omega
          · go_wp2
            go_roundw
            case rel => exact ⟨k + 1, by omega, by go_num, HP3.out, HR3.out⟩
            case measure => simp [intOf]; omega
    · obtain rfl : M = k := by omega
      go_wp2_with fail
      refine (known_any _).mono ?_
      rintro e wz ⟨rfl, hbz⟩
      have HZ := Lib.hid (HP.out.next hbz)
      clear hbz
      go_wp2
      go_ret
      exact ⟨rfl, HZ.out.be⟩

theorem Forever_any (hP : PlAt w w.heap.size A c A2 c2 p) (hA : Sl w w.heap.size 2 CE A3 l) : ForeverC A A2 A3 c c2 c3 p l w := by
  cases hs : smallB p
  · exact Forever_big A A2 A3 c c2 c3 p l w hP hA hs
  · by_cases hv : Vld p
    · by_cases hl : l.length ≤ 60
      · exact Forever_in A A2 A3 c c2 c3 p l w hP hA hs hv hl
      · exact Forever_long A A2 A3 c c2 c3 p l w hP hA hs hv (by omega)
    · exact Forever_not A A2 A3 c c2 c3 p l w hP hA hs hv
end

section row
open Go.ChangeShapes Go.WideShapes Go.ChangeAt Go.Deep
set_option maxRecDepth 100000 in
set_option maxHeartbeats 1600000 in
theorem trackForever_lifted (os : Os) (started : os.Started) (H : Type) (enc : TypeId × Value → H) :
    ReturnsInHanded {} Try.checked os 7 .any (Rows.trackForeverSpec.pre6 enc Try.prog Try.f7 Rows.trackForeverRow.domain false) (Rows.trackForeverSpec.post enc Try.prog Try.f7 false true false false) := by
  refine returnsInHanded_of_change_sized (C := Try.checked) (by kernel_rfl : ownKnob Try.prog.godebug = none) started (by kernel_rfl) Try.func7
    (ChangeSpec.witness6 (enc := enc) (C := Try.checked) false ⟨#[], #[.agg #[.slice none 0 0, .slice none 0 0], .slice none 0 0], []⟩ 8 (by kernel_rfl) (by kernel_rfl) (by kernel_rfl) (by kernel_rfl)) ?_
  intro W base args ds gs before hval0 hW _ hsz0 _
  have hsz : (DataW.weightsEach Try.prog (Try.f7.params.toList ++ Rows.trackForeverSpec.plain.varTypes Try.prog) (ds ++ gs)).all (· ≤ reachBytes) = true := hsz0
  clear hsz0
  have hval : ∀ (j : Nat) t v, Try.f7.params[j]? = some t → args[j]? = some v → Value.okWide Try.prog W .any base t v := hval0
  have hW' := hW
  obtain ⟨p, q, hA0, hV, rfl, hfz, _⟩ := hW
  have hA : DataW.TrodAll enc Try.prog W 0 (fun _ => true) true Try.f7.params.toList args.toList ds p := hA0
  rw [Try.params7] at hA hval hsz
  obtain ⟨v0, v1, d0, d1, p0, p1, rfl, rfl, rfl, h0, h1⟩ := trodAll_two hA
  obtain ⟨rfl, rfl⟩ := trodVars_none hV
  obtain ⟨cs, rfl, hcs⟩ := okWide_struct Try.underlying25 (hval 0 25 v0 rfl rfl)
  obtain ⟨A3, len, cap, rfl⟩ := okWide_slice Try.underlying42 (hval 1 42 v1 rfl rfl)
  have h0k := h0
  have h1k := h1
  obtain ⟨fuel, hf⟩ := h0
  obtain ⟨fuel1, hf1⟩ := h1
  clear hA0 hval0 hA
  simp only [List.append_nil] at hW' hsz
  have hlt : ∀ x ∈ p0 ++ p1, x.block < W.heap.size := fun x hx => hW'.lt x hx
  obtain ⟨pl, A, c, A2, c2, hcs3, hP⟩ := read_Pl (enc := enc) (w := W) (x := (d0, p0)) hf (fun n hn => by
    have := List.all_eq_true.1 hsz n (DataW.weights_mem_each (j := 0) (t := 25) (d := d0) rfl rfl n hn)
    simpa using this)
  obtain ⟨A4, l, c4, hcs5, hS, hlc, hcm⟩ := read_Ms (enc := enc) (w := W) (x := (d1, p1)) hf1 (fun n hn => by
    have := List.all_eq_true.1 hsz n (DataW.weights_mem_each (j := 1) (t := 42) (d := d1) rfl rfl n hn)
    simpa using this)
  have hcs4 : cs = #[.slice A pl.nodes.length c, .slice A2 pl.rails.length c2] := by
    apply Array.toList_inj.1
    simpa [Value.cells] using hcs3
  subst hcs4
  obtain ⟨rfl, rfl, rfl⟩ : A3 = A4 ∧ len = l.length ∧ cap = c4 := by simpa [Value.cells] using hcs5
  refine (Forever_any A A2 A3 c c2 cap pl l W hP hS).mono fun e W' ⟨he, hb⟩ => ?_
  subst he
  have hs : W.Since W.heap.size W' := ⟨hb.os, hb.tape, hb.output, hb.size, hb.block⟩
  have laid : laidOutB Try.prog = true := by kernel_rfl
  have hargs : DataW.Trod enc Try.prog W' 0 (fun b => decide (b < W.heap.size)) true 25 (.agg #[.slice A pl.nodes.length c, .slice A2 pl.rails.length c2]) d0 p0 :=
    WideElems.Trod_stays laid (by kernel_rfl) (of_decide_eq_true (by kernel_rfl)) h0k (fun x hx => hs.sameAt (hlt x (by simp [hx]))) (fun x hx => by simpa using hlt x (by simp [hx]))
  have hargs1 : DataW.Trod enc Try.prog W' 0 (fun b => decide (b < W.heap.size)) true 42 (.slice A3 l.length cap) d1 p1 :=
    WideElems.Trod_stays laid (by kernel_rfl) (of_decide_eq_true (by kernel_rfl)) h1k (fun x hx => hs.sameAt (hlt x (by simp [hx]))) (fun x hx => by simpa using hlt x (by simp [hx]))
  exact ⟨_, rfl, _, _, _, [], p0 ++ p1, [], hW', trodAll_mk1 (shut_bool Try.underlying4 true), trodAll_mk2 hargs hargs1, rfl, hs.frame _, fun h => by cases h⟩

theorem trackForever_holds : Rows.TrackForeverSaid :=
  OpenClaim.holds_of_wide 7 Try.f7 rfl rfl rfl rfl rfl rfl rfl ⟨rfl, rfl, rfl, rfl, rfl⟩ rfl rfl rfl rfl rfl (by kernel_rfl) Try.func7 (by kernel_rfl)
    (of_decide_eq_true (by kernel_rfl)) (by unfold Func.isWrapper; rw [if_neg (of_decide_eq_false (by kernel_rfl))]; exact ⟨rfl, rfl⟩)
    (fun os started H enc _ => trackForever_lifted os started H enc)
end row
end Go.Proofs.Ytcpanfpijljeaaa
