/- TrackShortest returns true for every plan, every two moves and every count; its arguments read afterwards as they read before. No condition. -/
import Derived.ReadAgain
import Derived.Test.YtcpanfpijljeaaaGreatJ4
import Derived.Test.YtcpanfpijljeaaaGreatJ5
import Derived.Test.YtcpanfpijljeaaaGreatRows
import Derived.WideKeyArgs
namespace Go.Proofs.YtcpanfpijljeaaaGreat.DH
set_option linter.unusedVariables false
set_option linter.unusedSimpArgs false
open Go.RowKit

/-- the moves of a way -/
def mvs (q : List Nat) : List E := (zs q).map moveE
theorem mvs_len (q : List Nat) : (mvs q).length = q.length := by simp [mvs, zs_len]
theorem mvs_no (q : List Nat) : (mvs q).map endNo = zs q := by
  unfold mvs
  rw [List.map_map]
  have : (endNo ∘ moveE) = id := funext fun x => endNo_moveU
  rw [this, List.map_id]
/-- a way stands before another one -/
def bfW (p : Pl) (q r : List Nat) : Prop := wlen p (zs q) < wlen p (zs r) ∨ (wlen p (zs q) = wlen p (zs r) ∧ (q.length < r.length ∨ (q.length = r.length ∧ ltI q r)))
theorem wlen_pl (p : Pl) (u : Nat) (s : List Nat) : wlen p (zs (u :: s)) = wtP p u + pl (wtP p) (u :: s) := by
  rw [wlen_zs]; simp [pl]
theorem bfW_iff {p : Pl} {q r : List Nat} {f : Nat} (hq : q.head? = some f) (hr : r.head? = some f) : bfW p q r ↔ bf (wtP p) q r := by
  obtain ⟨s, rfl⟩ : ∃ s, q = f :: s := by
    cases q with
    | nil => simp at hq
    | cons a s => exact ⟨s, by simpa using hq⟩
  obtain ⟨s', rfl⟩ : ∃ s, r = f :: s := by
    cases r with
    | nil => simp at hr
    | cons a s => exact ⟨s, by simpa using hr⟩
  unfold bfW bf
  rw [wlen_pl, wlen_pl]
  constructor <;> rintro (h | ⟨h1, h2⟩)
  · exact .inl (by omega)
  · exact .inr ⟨by omega, h2⟩
  · exact .inl (by omega)
  · exact .inr ⟨by omega, h2⟩
theorem ltI_at {q r : List Nat} {i : Nat} (hq : i < q.length) (hr : i < r.length) (h : q.take i = r.take i) (hne : q[i] ≠ r[i]) : ltI q r ↔ q[i] < r[i] := by
  have e1 : q = q.take i ++ q[i] :: q.drop (i + 1) := by rw [List.getElem_cons_drop, List.take_append_drop]
  have e2 : r = q.take i ++ r[i] :: r.drop (i + 1) := by rw [h, List.getElem_cons_drop, List.take_append_drop]
  have this : ltI q r ↔ ltI (q.take i ++ q[i] :: q.drop (i + 1)) (q.take i ++ r[i] :: r.drop (i + 1)) := iff_of_eq (congr (congrArg ltI e1) e2)
  rw [this, ltI_app]
  simp only [ltI]
  constructor
  · rintro (h | ⟨h, _⟩)
    · exact h
    · exact absurd h hne
  · exact .inl
theorem ltI_same (q : List Nat) : ¬ ltI q q := fun h => ltI_asymm _ _ h h
/-- the plan in its box -/
def SB (S : Nat) (A A2 : Option Addr) (nn nr c c2 : Nat) (w' : World) : Prop := w'.cell? ⟨S, 0, none⟩ = some (.slice A nn c) ∧ w'.cell? ⟨S, 1, none⟩ = some (.slice A2 nr c2)
def S4 (b1 o1 b2 o2 i : Nat) (x0 : Int) (x1 : Bool) (y0 : Int) (y1 : Bool) (w' : World) : Prop := w'.cell? ⟨b1, o1 + i * 2, none⟩ = some (.int .i64 x0) ∧ w'.cell? ⟨b1, o1 + i * 2 + 1, none⟩ = some (.bool x1) ∧ w'.cell? ⟨b2, o2 + i * 2, none⟩ = some (.int .i64 y0) ∧ w'.cell? ⟨b2, o2 + i * 2 + 1, none⟩ = some (.bool y1)
def BfPost (p : Pl) (q r : List Nat) (w : World) (e : Ending) (w' : World) : Prop := (∃ b, e = .returned (.bool b) ∧ (b = true ↔ bfW p q r)) ∧ Below w.heap.size w w'
set_option maxRecDepth 100000 in
set_option maxHeartbeats 2000000 in
theorem Before_any (A A2 A3 A4 : Option Addr) (c c2 c3 c4 : Nat) (p : Pl) (q r : List Nat) (w : World) (hP : PlAt w w.heap.size A c A2 c2 p) (hv : Vld p) (hA : Sl w w.heap.size 2 CE A3 (mvs q)) (hB : Sl w w.heap.size 2 CE A4 (mvs r))
    (hq8 : q.length ≤ 800) (hr8 : r.length ≤ 800) (hqm : ∀ x ∈ q, x < 2 * p.rails.length) (hrm : ∀ x ∈ r, x < 2 * p.rails.length) :
    Calls Tryz.prog 68 #[.agg #[.slice A p.nodes.length c, .slice A2 p.rails.length c2], .slice A3 q.length c3, .slice A4 r.length c4] w (BfPost p q r w) := by
  obtain ⟨S, hS⟩ : ∃ S, w.heap.size = S := ⟨_, rfl⟩
  obtain ⟨W1, hW1⟩ : ∃ W1, w.alloc (.cells #[.slice A p.nodes.length c, .slice A2 p.rails.length c2] 25) = W1 := ⟨_, rfl⟩
  have hrow := heap_alloc_new w (.cells #[.slice A p.nodes.length c, .slice A2 p.rails.length c2] 25)
  have hb0 : Below w.heap.size w (w.alloc (.cells #[.slice A p.nodes.length c, .slice A2 p.rails.length c2] 25)) := (Below.refl _ w).alloc (Nat.le_refl _) _
  have hz1 : (w.alloc (.cells #[.slice A p.nodes.length c, .slice A2 p.rails.length c2] 25)).heap.size = w.heap.size + 1 := by simp
  rw [hW1] at hrow hb0 hz1
  have hin : ∀ (q : List Nat), (∀ x ∈ q, x < 2 * p.rails.length) → ∀ j (hj : j < (mvs q).length), railIn p (mvs q)[j].rail = true := by
    intro q hqm j hj
    have hj2 : j < q.length := by rwa [mvs_len] at hj
    have : (mvs q)[j] = moveE (q[j] : Int) := by simp [mvs, zs]
    rw [this]
    exact moveE_in (hqm _ (List.getElem_mem hj2))
  have HPB := Lib.hid (show ∀ wx, Below W1.heap.size W1 wx → Below w.heap.size w wx from fun wx hb => hb0.trans (hb.mono (by omega)))
  have HC1 := Lib.hid (show ∀ wx, Below W1.heap.size W1 wx → Calls Tryz.prog 25 #[.agg #[.slice A p.nodes.length c, .slice A2 p.rails.length c2], .slice A3 q.length c3] wx (PlainPost (.int .i64 (wlen p (zs q))) wx) from fun wx hb => by
    have hbw := HPB.out wx hb
    have := rWayLength_any A A2 A3 c c2 c3 p (mvs q) wx ((hP.below hbw).more hbw.size) hv ((hA.below hbw).more (fun _ _ h => h) hbw.size) (by rw [mvs_len]; omega) (hin q hqm)
    rwa [mvs_len, mvs_no] at this)
  have HC2 := Lib.hid (show ∀ wx, Below W1.heap.size W1 wx → Calls Tryz.prog 25 #[.agg #[.slice A p.nodes.length c, .slice A2 p.rails.length c2], .slice A4 r.length c4] wx (PlainPost (.int .i64 (wlen p (zs r))) wx) from fun wx hb => by
    have hbw := HPB.out wx hb
    have := rWayLength_any A A2 A4 c c2 c4 p (mvs r) wx ((hP.below hbw).more hbw.size) hv ((hB.below hbw).more (fun _ _ h => h) hbw.size) (by rw [mvs_len]; omega) (hin r hrm)
    rwa [mvs_len, mvs_no] at this)
  have HSA := Lib.hid (show ∀ wx, Below W1.heap.size W1 wx → Sl wx W1.heap.size 2 CE A3 (mvs q) from fun wx hb => (hA.below (HPB.out wx hb)).more (fun _ _ h => h) (by omega))
  have HSB := Lib.hid (show ∀ wx, Below W1.heap.size W1 wx → Sl wx W1.heap.size 2 CE A4 (mvs r) from fun wx hb => (hB.below (HPB.out wx hb)).more (fun _ _ h => h) (by omega))
  have HK := Lib.hid (show ∀ wx, Below W1.heap.size W1 wx → SB S A A2 p.nodes.length p.rails.length c c2 wx from fun wx hb => by
    have hr := (hb.block w.heap.size (by omega)).trans hrow
    rw [hS] at hr
    exact ⟨cell_of_row _ _ 0 _ _ _ hr, cell_of_row _ _ 1 _ _ _ hr⟩)
  obtain ⟨x, hx⟩ : ∃ x, wlen p (zs q) = x := ⟨_, rfl⟩
  obtain ⟨y, hy⟩ : ∃ x, wlen p (zs r) = x := ⟨_, rfl⟩
  obtain ⟨lq, hlq⟩ : ∃ x, q.length = x := ⟨_, rfl⟩
  obtain ⟨lr, hlr⟩ : ∃ x, r.length = x := ⟨_, rfl⟩
  have HBW := Lib.hid (show bfW p q r ↔ (x < y ∨ (x = y ∧ (lq < lr ∨ (lq = lr ∧ ltI q r)))) by unfold bfW; rw [hx, hy, hlq, hlr])
  have HLQ := Lib.hid (And.intro hlq hlr)
  rw [hx, hlq] at HC1
  rw [hy, hlr] at HC2
  rw [hlq] at hq8
  rw [hlr] at hr8
  rw [hlq, hlr]
  have hS1 : W1.heap.size = S + 1 := by omega
  have HS1 := Lib.hid hS1
  have HQM := Lib.hid hqm; have HRM := Lib.hid hrm
  clear hP hA hB hqm hrm hrow hb0 hz1 hin hx hy hlq hlr
  go_enter Tryz.func68, Tryz.ntmps68
  go_upto_region 1 with (fail)
  try rw [hW1]
  try rw [hS]
  have hbq : Below W1.heap.size W1 W1.drew := (Below.refl _ _).drew
  have HS := Lib.hid (HK.out _ hbq)
  refine wp_region_held_drew (S := SB S A A2 p.nodes.length p.rails.length c c2) (by kernel_rfl) HS.out (fun _ => ?_)
  refine hTake (i := 0) (d := 10) (v := .agg #[.slice A p.nodes.length c, .slice A2 p.rails.length c2]) rfl rfl (by kernel_rfl) (by kernel_rfl) (by kernel_rfl) (fun _ _ _ h => h) (Or.inl ⟨rfl, ?gr⟩) HS.out ?_
  case gr =>
    rintro W' ⟨s0, s1⟩
    go_simp
  simp only [Act.put, List.setIfInBounds_toArray, List.set_cons_zero, List.set_cons_succ]
  refine hTake (i := 1) (d := 11) (v := .slice A3 lq c3) rfl rfl (by kernel_rfl) (by kernel_rfl) (by kernel_rfl) (fun _ _ _ h => h) (Or.inl ⟨rfl, ?gr⟩) HS.out ?_
  case gr =>
    rintro W' ⟨s0, s1⟩
    go_simp
  simp only [Act.put, List.setIfInBounds_toArray, List.set_cons_zero, List.set_cons_succ]
  refine hTake (i := 3) (d := 13) (v := .agg #[.slice A p.nodes.length c, .slice A2 p.rails.length c2]) rfl rfl (by kernel_rfl) (by kernel_rfl) (by kernel_rfl) (fun _ _ _ h => h) (Or.inl ⟨rfl, ?gr⟩) HS.out ?_
  case gr =>
    rintro W' ⟨s0, s1⟩
    go_simp
  simp only [Act.put, List.setIfInBounds_toArray, List.set_cons_zero, List.set_cons_succ]
  refine hTake (i := 4) (d := 14) (v := .slice A4 lr c4) rfl rfl (by kernel_rfl) (by kernel_rfl) (by kernel_rfl) (fun _ _ _ h => h) (Or.inl ⟨rfl, ?gr⟩) HS.out ?_
  case gr =>
    rintro W' ⟨s0, s1⟩
    go_simp
  simp only [Act.put, List.setIfInBounds_toArray, List.set_cons_zero, List.set_cons_succ]
  refine wpAnyH_ready (rs := [2]) (by kernel_rfl) (by simp) ?_
  refine AllReadyH.cons rfl (fun K hK => ?_) AllReadyH.nil
  rw [if_pos (by rfl)]
  go_simp
  go_at_call 25
  (with_reducible refine (HC1.out _ hbq).mono ?_)
  rintro e v1 ⟨rfl, hb5⟩
  replace hbq := hbq.trans (hb5.mono hbq.size)
  have HS := Lib.hid (HK.out _ hbq)
  clear hb5
  refine hK.out _ _ HS.out (fun _ => ?_)
  clear hK K
  try simp only [Act.put, List.setIfInBounds_toArray, List.set_cons_zero, List.set_cons_succ]
  refine wpAnyH_ready (rs := [5]) (by kernel_rfl) (by simp) ?_
  refine AllReadyH.cons rfl (fun K hK => ?_) AllReadyH.nil
  rw [if_pos (by rfl)]
  go_simp
  go_at_call 25
  (with_reducible refine (HC2.out _ hbq).mono ?_)
  rintro e v2 ⟨rfl, hb5⟩
  replace hbq := hbq.trans (hb5.mono hbq.size)
  have HS := Lib.hid (HK.out _ hbq)
  clear hb5
  refine hK.out _ _ HS.out (fun _ => ?_)
  clear hK K
  try simp only [Act.put, List.setIfInBounds_toArray, List.set_cons_zero, List.set_cons_succ]
  refine hTake (i := 6) (d := 7) (v := .int .i64 x) rfl rfl (by kernel_rfl) (by kernel_rfl) (by kernel_rfl) (fun _ _ _ h => h) (Or.inl ⟨rfl, ?gr⟩) HS.out ?_
  case gr =>
    rintro W' ⟨s0, s1⟩
    go_simp
  simp only [Act.put, List.setIfInBounds_toArray, List.set_cons_zero, List.set_cons_succ]
  refine hTake (i := 7) (d := 8) (v := .int .i64 y) rfl rfl (by kernel_rfl) (by kernel_rfl) (by kernel_rfl) (fun _ _ _ h => h) (Or.inl ⟨rfl, ?gr⟩) HS.out ?_
  case gr =>
    rintro W' ⟨s0, s1⟩
    go_simp
  simp only [Act.put, List.setIfInBounds_toArray, List.set_cons_zero, List.set_cons_succ]
  refine wpAnyH_done (by kernel_rfl) ?_ _
  obtain ⟨w2, hw2⟩ : ∃ z, v2 = z := ⟨_, rfl⟩
  rw [hw2] at hbq ⊢
  clear hw2 HS
  have HB2 := Lib.hid hbq
  have hbe := (HPB.out _ hbq)
  rw [hS] at hbe
  have HBE := Lib.hid hbe
  clear hbq hbe
  by_cases cxy : x = y
  · subst cxy
    by_cases cl : lq = lr
    · subst cl
      go_wp2
      go_loopw [9] (fun s wr => ∃ i : Nat, i ≤ lq ∧ s = .int .i64 (i : Int) ∧ q.take i = r.take i ∧ Below W1.heap.size W1 wr) (fun s _ => lq - (intOf s).toNat)
      case atStart => exact ⟨0, Nat.zero_le _, rfl, rfl, HB2.out⟩
      case round =>
        obtain ⟨i, hi, rfl, htk, hb⟩ := hrel
        have HT := Lib.hid htk; have HB := Lib.hid hb
        clear htk
        by_cases hlt : i < lq
        · have hlq : i < q.length := by rw [HLQ.out.1]; exact hlt
          have hlr : i < r.length := by rw [HLQ.out.2]; exact hlt
          have hmq : i < (mvs q).length := by rw [mvs_len]; exact hlq
          have hmr : i < (mvs r).length := by rw [mvs_len]; exact hlr
          obtain ⟨b1, o1, e1, g1, q10, q11⟩ := end_at (HSA.out wr hb) hmq
          obtain ⟨b2, o2, e2, g2, q20, q21⟩ := end_at (HSB.out wr hb) hmr
          have hzr := hb.size
          have eq1 : (mvs q)[i] = moveE (q[i] : Int) := by simp [mvs, zs]
          have er1 : (mvs r)[i] = moveE (r[i] : Int) := by simp [mvs, zs]
          rw [eq1] at q10 q11
          rw [er1] at q20 q21
          obtain ⟨nx, hnx⟩ : ∃ z, q[i] = z := ⟨_, rfl⟩
          obtain ⟨ny, hny⟩ : ∃ z, r[i] = z := ⟨_, rfl⟩
          have hxm := HQM.out _ (List.getElem_mem hlq)
          have hym := HRM.out _ (List.getElem_mem hlr)
          have hsz := of_decide_eq_true hv.sizes
          have HLT := Lib.hid (show nx ≠ ny → (ltI q r ↔ nx < ny) from fun h => by rw [← hnx, ← hny]; exact ltI_at hlq hlr HT.out (by rw [hnx, hny]; exact h))
          have HTS := Lib.hid (show nx = ny → q.take (i + 1) = r.take (i + 1) from fun h => by rw [List.take_succ_eq_append_getElem hlq, List.take_succ_eq_append_getElem hlr, HT.out, hnx, hny, h])
          rw [hnx] at q10 q11 hxm
          rw [hny] at q20 q21 hym
          obtain ⟨x0, hx0⟩ : ∃ z, (moveE (nx : Int)).rail = z := ⟨_, rfl⟩
          obtain ⟨x1, hx1⟩ : ∃ z, (moveE (nx : Int)).last = z := ⟨_, rfl⟩
          obtain ⟨y0, hy0⟩ : ∃ z, (moveE (ny : Int)).rail = z := ⟨_, rfl⟩
          obtain ⟨y1, hy1⟩ : ∃ z, (moveE (ny : Int)).last = z := ⟨_, rfl⟩
          have HNX := Lib.hid (show endNo ⟨x0, x1⟩ = (nx : Int) by rw [← hx0, ← hx1]; exact endNo_moveU)
          have HNY := Lib.hid (show endNo ⟨y0, y1⟩ = (ny : Int) by rw [← hy0, ← hy1]; exact endNo_moveU)
          have hxb : 0 ≤ x0 ∧ x0 ≤ 1000000 := by rw [← hx0]; simp only [moveE]; omega
          have hyb : 0 ≤ y0 ∧ y0 ≤ 1000000 := by rw [← hy0]; simp only [moveE]; omega
          rw [hx0] at q10; rw [hx1] at q11; rw [hy0] at q20; rw [hy1] at q21
          have HK4 := Lib.hid (show ∀ w', Below wr.heap.size wr w' → S4 b1 o1 b2 o2 i x0 x1 y0 y1 w' from fun w' hb' =>
            ⟨(hb'.cell (p := ⟨b1, o1 + i * 2, none⟩) (by simp; omega)).trans q10, (hb'.cell (p := ⟨b1, o1 + i * 2 + 1, none⟩) (by simp; omega)).trans q11, (hb'.cell (p := ⟨b2, o2 + i * 2, none⟩) (by simp; omega)).trans q20, (hb'.cell (p := ⟨b2, o2 + i * 2 + 1, none⟩) (by simp; omega)).trans q21⟩)
          have i0 : (0 : Int) ≤ (i : Int) := by omega
          have i1 : (i : Int) < (lq : Int) := by omega
          subst e1; subst e2
          clear hx0 hx1 hy0 hy1 hnx hny eq1 er1 hmq hmr hlq hlr hb
          by_cases hne : nx = ny
          · have HEQ := Lib.hid hne
            obtain ⟨ex, ey⟩ : x0 = y0 ∧ x1 = y1 := by
              have h1 := HNX.out; have h2 := HNY.out
              unfold endNo at h1 h2
              cases x1 <;> cases y1 <;> simp at h1 h2 ⊢ <;> omega
            subst ex; subst ey
            clear hne
            go_wp2
            go_quiet (fail)
            go_wp2
            go_roundw
            case rel => exact ⟨i + 1, by omega, by go_num, HTS.out HEQ.out, bDrewN HB.out _⟩
            case measure => simp [intOf]; omega
          · have HV := Lib.hid (show ∀ b : Bool, b = decide ((nx : Int) < (ny : Int)) → (b = true ↔ bfW p q r) from fun b hb => by
              rw [HBW.out, hb, decide_eq_true_iff]
              have h5 := HLT.out hne
              constructor
              · intro h; exact .inr ⟨by first | rfl | trivial, .inr ⟨by first | rfl | trivial, h5.2 (by omega)⟩⟩
              · rintro (h | ⟨_, h | ⟨_, h⟩⟩)
                · omega
                · omega
                · have := h5.1 h; omega)
            by_cases h0 : x0 = y0
            · subst h0
              have n1 : (x1 == y1) = false := by
                have h1 := HNX.out; have h2 := HNY.out
                rw [beq_eq_false_iff_ne]
                rintro rfl
                rw [h1] at h2
                omega
              clear hne
              go_wp2
              go_quiet (fail)
              go_upto_region 10 with (fail)
              have hbq : Below wr.heap.size wr (wr.drewN nq).drew := (bDrewN (Below.refl _ _) _).drew
              have HS := Lib.hid (HK4.out _ hbq)
              refine wp_region_held_drew (S := S4 b1 o1 b2 o2 i x0 x1 x0 y1) (by kernel_rfl) HS.out (fun _ => ?_)
              refine hTake (i := 0) (d := 47) (v := .slice (some ⟨b1, o1, none⟩) lq c3) rfl rfl (by kernel_rfl) (by kernel_rfl) (by kernel_rfl) (fun _ _ _ h => h) (Or.inl ⟨rfl, ?gr⟩) HS.out ?_
              case gr =>
                rintro W' ⟨s0, s1, s2, s3⟩
                go_simp
              simp only [Act.put, List.setIfInBounds_toArray, List.set_cons_zero, List.set_cons_succ]
              refine hTake (i := 1) (d := 48) (v := .int .i64 (i : Int)) rfl rfl (by kernel_rfl) (by kernel_rfl) (by kernel_rfl) (fun _ _ _ h => h) (Or.inl ⟨rfl, ?gr⟩) HS.out ?_
              case gr =>
                rintro W' ⟨s0, s1, s2, s3⟩
                go_simp
              simp only [Act.put, List.setIfInBounds_toArray, List.set_cons_zero, List.set_cons_succ]
              refine hTake (i := 2) (d := 49) (v := .pointer (some ⟨b1, o1 + i * 2, none⟩)) rfl rfl (by kernel_rfl) (by kernel_rfl) (by kernel_rfl) (fun _ _ _ h => h) (Or.inl ⟨rfl, ?gr⟩) HS.out ?_
              case gr =>
                rintro W' ⟨s0, s1, s2, s3⟩
                go_simp
              simp only [Act.put, List.setIfInBounds_toArray, List.set_cons_zero, List.set_cons_succ]
              refine hTake (i := 3) (d := 50) (v := .agg #[.int .i64 x0, .bool x1]) rfl rfl (by kernel_rfl) (by kernel_rfl) (by kernel_rfl) (fun _ _ _ h => h) (Or.inl ⟨rfl, ?gr⟩) HS.out ?_
              case gr =>
                rintro W' ⟨s0, s1, s2, s3⟩
                go_simp
              simp only [Act.put, List.setIfInBounds_toArray, List.set_cons_zero, List.set_cons_succ]
              refine hTake (i := 5) (d := 52) (v := .slice (some ⟨b2, o2, none⟩) lq c4) rfl rfl (by kernel_rfl) (by kernel_rfl) (by kernel_rfl) (fun _ _ _ h => h) (Or.inl ⟨rfl, ?gr⟩) HS.out ?_
              case gr =>
                rintro W' ⟨s0, s1, s2, s3⟩
                go_simp
              simp only [Act.put, List.setIfInBounds_toArray, List.set_cons_zero, List.set_cons_succ]
              refine hTake (i := 6) (d := 53) (v := .int .i64 (i : Int)) rfl rfl (by kernel_rfl) (by kernel_rfl) (by kernel_rfl) (fun _ _ _ h => h) (Or.inl ⟨rfl, ?gr⟩) HS.out ?_
              case gr =>
                rintro W' ⟨s0, s1, s2, s3⟩
                go_simp
              simp only [Act.put, List.setIfInBounds_toArray, List.set_cons_zero, List.set_cons_succ]
              refine hTake (i := 7) (d := 54) (v := .pointer (some ⟨b2, o2 + i * 2, none⟩)) rfl rfl (by kernel_rfl) (by kernel_rfl) (by kernel_rfl) (fun _ _ _ h => h) (Or.inl ⟨rfl, ?gr⟩) HS.out ?_
              case gr =>
                rintro W' ⟨s0, s1, s2, s3⟩
                go_simp
              simp only [Act.put, List.setIfInBounds_toArray, List.set_cons_zero, List.set_cons_succ]
              refine hTake (i := 8) (d := 55) (v := .agg #[.int .i64 x0, .bool y1]) rfl rfl (by kernel_rfl) (by kernel_rfl) (by kernel_rfl) (fun _ _ _ h => h) (Or.inl ⟨rfl, ?gr⟩) HS.out ?_
              case gr =>
                rintro W' ⟨s0, s1, s2, s3⟩
                go_simp
              simp only [Act.put, List.setIfInBounds_toArray, List.set_cons_zero, List.set_cons_succ]
              refine wpAnyH_ready (rs := [4]) (by kernel_rfl) (by simp) ?_
              refine AllReadyH.cons rfl (fun K hK => ?_) AllReadyH.nil
              rw [if_pos (by rfl)]
              go_simp
              go_at_call 34
              (with_reducible refine (rNumber_any x0 x1 _ (by omega) (by omega)).mono ?_)
              rintro e v5 ⟨rfl, hb5⟩
              rw [HNX.out]
              replace hbq := hbq.trans (hb5.mono hbq.size)
              have HS := Lib.hid (HK4.out _ hbq)
              clear hb5
              refine hK.out _ _ HS.out (fun _ => ?_)
              clear hK K
              try simp only [Act.put, List.setIfInBounds_toArray, List.set_cons_zero, List.set_cons_succ]
              refine wpAnyH_ready (rs := [9]) (by kernel_rfl) (by simp) ?_
              refine AllReadyH.cons rfl (fun K hK => ?_) AllReadyH.nil
              rw [if_pos (by rfl)]
              go_simp
              go_at_call 34
              (with_reducible refine (rNumber_any x0 y1 _ (by omega) (by omega)).mono ?_)
              rintro e v6 ⟨rfl, hb5⟩
              rw [HNY.out]
              replace hbq := hbq.trans (hb5.mono hbq.size)
              have HS := Lib.hid (HK4.out _ hbq)
              clear hb5
              refine hK.out _ _ HS.out (fun _ => ?_)
              clear hK K
              try simp only [Act.put, List.setIfInBounds_toArray, List.set_cons_zero, List.set_cons_succ]
              refine hTake (i := 10) (d := 57) (v := .bool (decide ((nx : Int) < (ny : Int)))) rfl rfl (by kernel_rfl) (by kernel_rfl) (by kernel_rfl) (fun _ _ _ h => h) (Or.inl ⟨rfl, ?gr⟩) HS.out ?_
              case gr =>
                rintro W' ⟨s0, s1, s2, s3⟩
                go_simp
              simp only [Act.put, List.setIfInBounds_toArray, List.set_cons_zero, List.set_cons_succ]
              refine hTake (i := 11) (d := 6) (v := .bool (decide ((nx : Int) < (ny : Int)))) rfl rfl (by kernel_rfl) (by kernel_rfl) (by kernel_rfl) (fun _ _ _ h => h) (Or.inl ⟨rfl, ?gr⟩) HS.out ?_
              case gr =>
                rintro W' ⟨s0, s1, s2, s3⟩
                go_simp
              simp only [Act.put, List.setIfInBounds_toArray, List.set_cons_zero, List.set_cons_succ]
              refine wpAnyH_done (by kernel_rfl) ?_ _
              go_wp2
              go_ret
              exact ⟨⟨_, rfl, HV.out _ rfl⟩, HPB.out _ (HB.out.trans (hbq.mono hzr))⟩
            · have n1 : (x0 == y0) = false := by simpa using h0
              clear hne h0
              go_wp2
              go_quiet (fail)
              go_upto_region 10 with (fail)
              have hbq : Below wr.heap.size wr (wr.drewN nq).drew := (bDrewN (Below.refl _ _) _).drew
              have HS := Lib.hid (HK4.out _ hbq)
              refine wp_region_held_drew (S := S4 b1 o1 b2 o2 i x0 x1 y0 y1) (by kernel_rfl) HS.out (fun _ => ?_)
              refine hTake (i := 0) (d := 47) (v := .slice (some ⟨b1, o1, none⟩) lq c3) rfl rfl (by kernel_rfl) (by kernel_rfl) (by kernel_rfl) (fun _ _ _ h => h) (Or.inl ⟨rfl, ?gr⟩) HS.out ?_
              case gr =>
                rintro W' ⟨s0, s1, s2, s3⟩
                go_simp
              simp only [Act.put, List.setIfInBounds_toArray, List.set_cons_zero, List.set_cons_succ]
              refine hTake (i := 1) (d := 48) (v := .int .i64 (i : Int)) rfl rfl (by kernel_rfl) (by kernel_rfl) (by kernel_rfl) (fun _ _ _ h => h) (Or.inl ⟨rfl, ?gr⟩) HS.out ?_
              case gr =>
                rintro W' ⟨s0, s1, s2, s3⟩
                go_simp
              simp only [Act.put, List.setIfInBounds_toArray, List.set_cons_zero, List.set_cons_succ]
              refine hTake (i := 2) (d := 49) (v := .pointer (some ⟨b1, o1 + i * 2, none⟩)) rfl rfl (by kernel_rfl) (by kernel_rfl) (by kernel_rfl) (fun _ _ _ h => h) (Or.inl ⟨rfl, ?gr⟩) HS.out ?_
              case gr =>
                rintro W' ⟨s0, s1, s2, s3⟩
                go_simp
              simp only [Act.put, List.setIfInBounds_toArray, List.set_cons_zero, List.set_cons_succ]
              refine hTake (i := 3) (d := 50) (v := .agg #[.int .i64 x0, .bool x1]) rfl rfl (by kernel_rfl) (by kernel_rfl) (by kernel_rfl) (fun _ _ _ h => h) (Or.inl ⟨rfl, ?gr⟩) HS.out ?_
              case gr =>
                rintro W' ⟨s0, s1, s2, s3⟩
                go_simp
              simp only [Act.put, List.setIfInBounds_toArray, List.set_cons_zero, List.set_cons_succ]
              refine hTake (i := 5) (d := 52) (v := .slice (some ⟨b2, o2, none⟩) lq c4) rfl rfl (by kernel_rfl) (by kernel_rfl) (by kernel_rfl) (fun _ _ _ h => h) (Or.inl ⟨rfl, ?gr⟩) HS.out ?_
              case gr =>
                rintro W' ⟨s0, s1, s2, s3⟩
                go_simp
              simp only [Act.put, List.setIfInBounds_toArray, List.set_cons_zero, List.set_cons_succ]
              refine hTake (i := 6) (d := 53) (v := .int .i64 (i : Int)) rfl rfl (by kernel_rfl) (by kernel_rfl) (by kernel_rfl) (fun _ _ _ h => h) (Or.inl ⟨rfl, ?gr⟩) HS.out ?_
              case gr =>
                rintro W' ⟨s0, s1, s2, s3⟩
                go_simp
              simp only [Act.put, List.setIfInBounds_toArray, List.set_cons_zero, List.set_cons_succ]
              refine hTake (i := 7) (d := 54) (v := .pointer (some ⟨b2, o2 + i * 2, none⟩)) rfl rfl (by kernel_rfl) (by kernel_rfl) (by kernel_rfl) (fun _ _ _ h => h) (Or.inl ⟨rfl, ?gr⟩) HS.out ?_
              case gr =>
                rintro W' ⟨s0, s1, s2, s3⟩
                go_simp
              simp only [Act.put, List.setIfInBounds_toArray, List.set_cons_zero, List.set_cons_succ]
              refine hTake (i := 8) (d := 55) (v := .agg #[.int .i64 y0, .bool y1]) rfl rfl (by kernel_rfl) (by kernel_rfl) (by kernel_rfl) (fun _ _ _ h => h) (Or.inl ⟨rfl, ?gr⟩) HS.out ?_
              case gr =>
                rintro W' ⟨s0, s1, s2, s3⟩
                go_simp
              simp only [Act.put, List.setIfInBounds_toArray, List.set_cons_zero, List.set_cons_succ]
              refine wpAnyH_ready (rs := [4]) (by kernel_rfl) (by simp) ?_
              refine AllReadyH.cons rfl (fun K hK => ?_) AllReadyH.nil
              rw [if_pos (by rfl)]
              go_simp
              go_at_call 34
              (with_reducible refine (rNumber_any x0 x1 _ (by omega) (by omega)).mono ?_)
              rintro e v5 ⟨rfl, hb5⟩
              rw [HNX.out]
              replace hbq := hbq.trans (hb5.mono hbq.size)
              have HS := Lib.hid (HK4.out _ hbq)
              clear hb5
              refine hK.out _ _ HS.out (fun _ => ?_)
              clear hK K
              try simp only [Act.put, List.setIfInBounds_toArray, List.set_cons_zero, List.set_cons_succ]
              refine wpAnyH_ready (rs := [9]) (by kernel_rfl) (by simp) ?_
              refine AllReadyH.cons rfl (fun K hK => ?_) AllReadyH.nil
              rw [if_pos (by rfl)]
              go_simp
              go_at_call 34
              (with_reducible refine (rNumber_any y0 y1 _ (by omega) (by omega)).mono ?_)
              rintro e v6 ⟨rfl, hb5⟩
              rw [HNY.out]
              replace hbq := hbq.trans (hb5.mono hbq.size)
              have HS := Lib.hid (HK4.out _ hbq)
              clear hb5
              refine hK.out _ _ HS.out (fun _ => ?_)
              clear hK K
              try simp only [Act.put, List.setIfInBounds_toArray, List.set_cons_zero, List.set_cons_succ]
              refine hTake (i := 10) (d := 57) (v := .bool (decide ((nx : Int) < (ny : Int)))) rfl rfl (by kernel_rfl) (by kernel_rfl) (by kernel_rfl) (fun _ _ _ h => h) (Or.inl ⟨rfl, ?gr⟩) HS.out ?_
              case gr =>
                rintro W' ⟨s0, s1, s2, s3⟩
                go_simp
              simp only [Act.put, List.setIfInBounds_toArray, List.set_cons_zero, List.set_cons_succ]
              refine hTake (i := 11) (d := 6) (v := .bool (decide ((nx : Int) < (ny : Int)))) rfl rfl (by kernel_rfl) (by kernel_rfl) (by kernel_rfl) (fun _ _ _ h => h) (Or.inl ⟨rfl, ?gr⟩) HS.out ?_
              case gr =>
                rintro W' ⟨s0, s1, s2, s3⟩
                go_simp
              simp only [Act.put, List.setIfInBounds_toArray, List.set_cons_zero, List.set_cons_succ]
              refine wpAnyH_done (by kernel_rfl) ?_ _
              go_wp2
              go_ret
              exact ⟨⟨_, rfl, HV.out _ rfl⟩, HPB.out _ (HB.out.trans (hbq.mono hzr))⟩
        · obtain rfl : i = lq := by omega
          have HV := Lib.hid (show (false = true ↔ bfW p q r) from by
            have e : q = r := by
              have := HT.out
              rwa [List.take_of_length_le (by rw [HLQ.out.1]; exact Nat.le_refl _), List.take_of_length_le (by rw [HLQ.out.2]; exact Nat.le_refl _)] at this
            rw [HBW.out, e]
            constructor
            · intro h; cases h
            · rintro (h | ⟨_, h | ⟨_, h⟩⟩)
              · omega
              · omega
              · exact absurd h (ltI_same _))
          go_wp2
          go_ret
          exact ⟨⟨_, rfl, HV.out⟩, by have := HPB.out _ HB.out; exact this⟩
    · have n1 : ((lq : Int) == (lr : Int)) = false := by simp; omega
      have n2 : ¬ ((lq : Int) = (lr : Int)) := by omega
      have HV := Lib.hid (show ∀ b : Bool, b = decide (lq < lr) → (b = true ↔ bfW p q r) from fun b hb => by
        rw [HBW.out, hb, decide_eq_true_iff]
        constructor
        · intro h; exact .inr ⟨rfl, .inl (by omega)⟩
        · rintro (h | ⟨_, h | ⟨h, _⟩⟩) <;> omega)
      clear cl
      go_wp2
      go_ret
      exact ⟨⟨_, rfl, HV.out _ rfl⟩, by rw [hS]; exact HBE.out⟩
  · have n1 : (x == y) = false := by simpa using cxy
    have HV := Lib.hid (show ∀ b : Bool, b = decide (x < y) → (b = true ↔ bfW p q r) from fun b hb => by
      rw [HBW.out, hb, decide_eq_true_iff]
      constructor
      · intro h; exact .inl h
      · rintro (h | ⟨h, _⟩)
        · exact h
        · exact absurd h cxy)
    go_wp2
    go_ret
    exact ⟨⟨_, rfl, HV.out _ rfl⟩, by rw [hS]; exact HBE.out⟩
end Go.Proofs.YtcpanfpijljeaaaGreat.DH

namespace Go.Proofs.YtcpanfpijljeaaaGreat.DH
set_option linter.unusedVariables false
set_option linter.unusedSimpArgs false

section
variable {M f t : Nat} {nx : Nat → List Nat} {wt : Nat → Int} {cs : Nat → Int × Int}
theorem gr_sw (hn : Net M nx wt) (hL : Lab M t nx wt (fun _ => False) cs) {s : List Nat} (hf : f < M) (hg : Gr t nx wt cs (f :: s)) :
    Sw M f t nx (f :: s) ∧ ∀ r, Sw M f t nx r → f :: s = r ∨ bf wt (f :: s) r := by
  refine ⟨⟨gr_wk _ hg, rfl, gr_nd hL hn s f hf hg, gr_lt hn s f hf hg⟩, fun r hr => ?_⟩
  obtain ⟨s', rfl⟩ : ∃ s', r = f :: s' := by
    have := hr.hd
    cases r with
    | nil => simp at this
    | cons a s' => exact ⟨s', by simpa using this⟩
  exact gr_min hL s' s f hg hr.wk (fun x hx => ⟨hr.lt x hx, fun h => h⟩) (last_drop hr.nd (wk_last _ hr.wk))
theorem none_sw (hL : Lab M t nx wt (fun _ => False) cs) (h0 : (cs f).1 < 0) : ∀ q, ¬ Sw M f t nx q := by
  intro q hq
  have := hq.hd
  cases q with
  | nil => simp at this
  | cons a s =>
    obtain rfl : a = f := by simpa using this
    have := (low_walk hL s a hq.wk (fun x hx => ⟨hq.lt x hx, fun h => h⟩)).1
    omega
theorem first_is {al : List (List Nat)} (ha : al.Pairwise (bf wt)) (hall : ∀ q, q ∈ al ↔ Sw M f t nx q) {q : List Nat} (hq : Sw M f t nx q) (hl : ∀ r, Sw M f t nx r → q = r ∨ bf wt q r) : al.head? = some q := by
  cases al with
  | nil => exact absurd ((hall q).2 hq) (by simp)
  | cons a r =>
    rcases hl a ((hall a).1 (by simp)) with rfl | h
    · rfl
    · rcases List.mem_cons.1 ((hall q).2 hq) with h2 | h2
      · subst h2; exact absurd h bf_irr
      · exact absurd (bf_trans h ((List.pairwise_cons.1 ha).1 q h2)) bf_irr
/-- a way more, put where it belongs: what the list is then -/
theorem ins_more {l out : List (List Nat)} {x : List Nat} (hs : out.Pairwise (bf wt)) (hm : ∀ q, q ∈ out ↔ q ∈ l) (hx : x ∉ l) {k : Nat} (hk : k ≤ out.length) (ha : ∀ j (hj : j < out.length), k ≤ j → bf wt x out[j])
    (hb : ∀ h : 0 < k, ¬ bf wt x (out[k - 1]'(by omega))) : (out.take k ++ x :: out.drop k).Pairwise (bf wt) ∧ ∀ q, q ∈ out.take k ++ x :: out.drop k ↔ q ∈ l ++ [x] := by
  obtain ⟨h1, h2⟩ := ins_sorted hs (fun h => hx ((hm x).1 h)) hk ha hb
  refine ⟨h1, fun q => ?_⟩
  rw [h2, hm]
  simp [or_comm]
end
end Go.Proofs.YtcpanfpijljeaaaGreat.DH

namespace Go.Proofs.YtcpanfpijljeaaaGreat.DH
set_option linter.unusedVariables false
set_option linter.unusedSimpArgs false

section
variable {nx : Nat → List Nat} {t n u : Nat} {q : List Nat}
/-- all ways behind a beginning, by its first followers -/
def onK (nx : Nat → List Nat) (t n : Nat) (q : List Nat) (u i : Nat) : List (List Nat) :=
  if u = t then [q] else ((nx u).take i).flatMap fun x => if x ∈ q then [] else onL nx t n (q ++ [x]) x
theorem onK_at (h : u = t) (i : Nat) : onK nx t n q u i = [q] := if_pos h
theorem onK_zero (h : u ≠ t) : onK nx t n q u 0 = [] := by simp [onK, h]
theorem onK_all {i : Nat} (h : (nx u).length = i) : onK nx t n q u i = onL nx t (n + 1) q u := by
  rw [onK, onL, ← h, List.take_length]
theorem onK_skip {i x : Nat} (hx : (nx u)[i]? = some x) (h : u = t ∨ x ∈ q) : onK nx t n q u (i + 1) = onK nx t n q u i := by
  obtain ⟨hi, rfl⟩ := List.getElem?_eq_some_iff.1 hx
  unfold onK
  by_cases hu : u = t
  · rw [if_pos hu, if_pos hu]
  · rw [if_neg hu, if_neg hu, List.take_succ_eq_append_getElem hi, List.flatMap_append]
    simp [h.resolve_left hu]
theorem onK_more {i x : Nat} (hx : (nx u)[i]? = some x) (hu : u ≠ t) (h : x ∉ q) : onK nx t n q u (i + 1) = onK nx t n q u i ++ onL nx t n (q ++ [x]) x := by
  obtain ⟨hi, rfl⟩ := List.getElem?_eq_some_iff.1 hx
  unfold onK
  rw [if_neg hu, if_neg hu, List.take_succ_eq_append_getElem hi, List.flatMap_append]
  simp [h]
theorem flat_le {α β : Type} {f : α → List β} {k : Nat} : ∀ (l : List α), (∀ x, (f x).length ≤ k) → (l.flatMap f).length ≤ l.length * k
  | [], _ => by simp
  | x :: l, h => by
    have h1 := flat_le l h
    have h2 := h x
    simp only [List.flatMap_cons, List.length_append, List.length_cons]
    rw [Nat.succ_mul]
    omega
theorem one_le {n : Nat} (h2 : ∀ (q : List Nat) (u : Nat), (onL nx t n q u).length ≤ 2 ^ n) (q : List Nat) (x : Nat) : ((fun x => if x ∈ q then [] else onL nx t n (q ++ [x]) x) x).length ≤ 2 ^ n := by
  dsimp only
  split
  · simp
  · exact h2 _ _
theorem onL_len (h2 : ∀ u, (nx u).length ≤ 2) : ∀ (n : Nat) (q : List Nat) (u : Nat), (onL nx t n q u).length ≤ 2 ^ n
  | 0, _, _ => by simp [onL]
  | n + 1, q, u => by
    rw [onL]
    have h0 := Nat.one_le_two_pow (n := n)
    split
    · simp only [List.length_singleton]; omega
    · have := flat_le (f := fun x => if x ∈ q then [] else onL nx t n (q ++ [x]) x) (k := 2 ^ n) (nx u) (one_le (onL_len h2 n) q)
      have h3 := Nat.mul_le_mul_right (2 ^ n) (h2 u)
      rw [Nat.pow_succ]
      omega
theorem onK_len (h2 : ∀ u, (nx u).length ≤ 2) (i : Nat) : (onK nx t n q u i).length ≤ 2 ^ (n + 1) := by
  unfold onK
  have h0 := Nat.one_le_two_pow (n := n)
  split
  · simp only [List.length_singleton]; omega
  · have := flat_le (f := fun x => if x ∈ q then [] else onL nx t n (q ++ [x]) x) (k := 2 ^ n) ((nx u).take i) (one_le (onL_len h2 n) q)
    have h3 := Nat.mul_le_mul_right (2 ^ n) (Nat.le_trans (List.length_take_le' i (nx u)) (h2 u))
    rw [Nat.pow_succ]
    omega
end
end Go.Proofs.YtcpanfpijljeaaaGreat.DH

namespace Go.Proofs.YtcpanfpijljeaaaGreat.DH
set_option linter.unusedVariables false
set_option linter.unusedSimpArgs false
open Go.RowKit

theorem next_mvs {p : Pl} (hv : Vld p) {u : Nat} (hu : u < 2 * p.rails.length) : (nextL p u).map moveE = mvs (nxN p u) := by
  unfold mvs zs nxN
  rw [List.map_map, List.map_map]
  refine List.map_congr_left fun z hz => ?_
  have := nextL_bd hv hu z hz
  show moveE z = moveE ((z.toNat : Nat) : Int)
  rw [Int.toNat_of_nonneg this.1]
theorem mvs_app (a b : List Nat) : mvs (a ++ b) = mvs a ++ mvs b := by simp [mvs, zs]
theorem mvs_at {q : List Nat} {i : Nat} (h : i < q.length) : (mvs q)[i]'(by rw [mvs_len]; exact h) = moveE (q[i] : Int) := by simp [mvs, zs]
theorem mvs_cell {w : World} {B : Nat} {A : Option Addr} {q : List Nat} (h : Sl w B 2 CE A (mvs q)) {i : Nat} (hi : i < q.length) :
    ∃ b off, A = some ⟨b, off, none⟩ ∧ b < B ∧ w.cell? ⟨b, off + i * 2, none⟩ = some (.int .i64 (moveE (q[i] : Int)).rail) ∧ w.cell? ⟨b, off + i * 2 + 1, none⟩ = some (.bool (moveE (q[i] : Int)).last) := by
  have := end_at h (i := i) (by rw [mvs_len]; exact hi)
  rwa [mvs_at hi] at this
theorem move_ne {x y : Nat} {a b : Int} {c d : Bool} (hx : moveE (x : Int) = ⟨a, c⟩) (hy : moveE (y : Int) = ⟨b, d⟩) : (x = y ↔ (a = b ∧ c = d)) := by
  constructor
  · rintro rfl
    rw [hx] at hy
    injection hy with h1 h2
    exact ⟨h1, h2⟩
  · rintro ⟨rfl, rfl⟩
    have h1 := endNo_moveU (x := (x : Int))
    have h2 := endNo_moveU (x := (y : Int))
    rw [hx] at h1; rw [hy] at h2
    have := h1.symm.trans h2
    omega
theorem MSt.below {w1 wr w2 : World} {S : Nat} {v : Value} {ml : List W3} (h : MSt w1 S wr v ml) (hb : Below wr.heap.size wr w2) (hS : S ≤ wr.heap.size) : MSt w1 S w2 v ml :=
  ⟨h.ow.below hb (Nat.le_refl _), fun x hx => (h.mr x hx).kp (Kp.below [27] hb) (by simp), h.be.trans (hb.mono hS)⟩
theorem MSt.grown {w1 wr w2 : World} {S : Nat} {v v2 : Value} {ml m2 : List W3} (h : MSt w1 S wr v ml) (hm : ∀ x ∈ m2, MR wr x) (ho : Own w2 S 31 1 fW v2 (ml ++ m2)) (hg : wr.grownBy w2 v.ownBlock) (hS : S ≤ wr.heap.size) : MSt w1 S w2 v2 (ml ++ m2) ∧ Kp [27] wr w2 := by
  have hk : Kp [27] wr w2 := Kp.grown hg fun k hk cur t ht e => by
    obtain ⟨c2, hc⟩ := own_ty h.ow k hk
    rw [hc] at e
    injection e with e; injection e with _ e
    subst e; simp at ht
  refine ⟨⟨ho, fun y hy => ?_, h.be.grown hg hS (fun b hb => (h.ow.lt b hb).1)⟩, hk⟩
  rcases List.mem_append.1 hy with hy | hy
  · exact (h.mr y hy).kp hk (by simp)
  · exact (hm y hy).kp hk (by simp)
theorem own_kp27 {w w' : World} {S : Nat} {v : Value} {l : List E} {T : List TypeId} (h : Own w S 27 2 fE v l) (hk : Kp T w w') (hT : 27 ∈ T) : Own w' S 27 2 fE v l :=
  h.of_blocks fun k hk2 => by
    obtain ⟨cur, hc⟩ := own_ty h k hk2
    exact hk.ro _ _ 27 hT hc
/-- what on answers -/
def OnPost (L : List (List Nat)) (w : World) (e : Ending) (w' : World) : Prop := ∃ v ml, e = .returned v ∧ Own w' w.heap.size 31 1 fW v ml ∧ (∀ x ∈ ml, MR w' x) ∧ ml.map W3.l = L ∧ Below w.heap.size w w'
/-- what is loaded where a way goes on -/
def S15 (K : Nat) (A : Option Addr) (a c : Nat) (A2 : Option Addr) (a2 c2 : Nat) (y0 : Int) (y1 : Bool) (b2 o2 i : Nat) (x0 : Int) (x1 : Bool) (w' : World) : Prop :=
  w'.cell? ⟨K, 0, none⟩ = some (.slice A a c) ∧ w'.cell? ⟨K, 1, none⟩ = some (.slice A2 a2 c2) ∧ w'.cell? ⟨K + 1, 0, none⟩ = some (.int .i64 y0) ∧ w'.cell? ⟨K + 1, 1, none⟩ = some (.bool y1) ∧ w'.cell? ⟨b2, o2 + i * 2, none⟩ = some (.int .i64 x0) ∧ w'.cell? ⟨b2, o2 + i * 2 + 1, none⟩ = some (.bool x1)
structure OIn (A A2 : Option Addr) (b1 o1 c c2 M n t u lq : Nat) (p : Pl) (q : List Nat) (w : World) : Prop where
  hM : 2 * p.rails.length = M
  h16 : M ≤ 16
  hP : PlAt w w.heap.size A c A2 c2 p
  hv : Vld p
  hA : Sl w w.heap.size 2 CE (some ⟨b1, o1, none⟩) (mvs q)
  hlq : q.length = lq + 1
  hq16 : lq + 1 ≤ 16
  hqm : ∀ x ∈ q, x < M
  hu : q[lq]? = some u
  ht : t < M
  hn : n ≤ 16

set_option maxRecDepth 100000 in
set_option maxHeartbeats 4000000 in
theorem On_goA (A A2 : Option Addr) (b1 o1 c c2 c3 M n t u lq : Nat) (p : Pl) (q : List Nat) (w : World) (H : OIn A A2 b1 o1 c c2 M n t u lq p q w) (hut : u ≠ t) (hc0 : (moveE (t : Int)).rail = (moveE (u : Int)).rail)
    (hR : ∀ x, x < M → x ∉ q → x ∈ nxN p u → ∀ (A4 : Option Addr) (c4 : Nat) (wx : World), PlAt wx wx.heap.size A c A2 c2 p → Sl wx wx.heap.size 2 CE A4 (mvs (q ++ [x])) →
      Calls Tryz.prog 67 #[.agg #[.slice A p.nodes.length c, .slice A2 p.rails.length c2], .slice A4 (lq + 1 + 1) c4, .agg #[.int .i64 (moveE (t : Int)).rail, .bool (moveE (t : Int)).last]] wx (OnPost (onL (nxN p) t n (q ++ [x]) x) wx)) :
    Calls Tryz.prog 67 #[.agg #[.slice A p.nodes.length c, .slice A2 p.rails.length c2], .slice (some ⟨b1, o1, none⟩) (lq + 1) c3, .agg #[.int .i64 (moveE (t : Int)).rail, .bool (moveE (t : Int)).last]] w (OnPost (onL (nxN p) t (n + 1) q u) w) := by
  obtain ⟨hM, h16, hP, hv, hA, hlq, hq16, hqm, hu, ht, hn⟩ := H
  have hnet := plan_net hv hM
  obtain ⟨hul, hue⟩ := List.getElem?_eq_some_iff.1 hu
  have huM : u < M := by rw [← hue]; exact hqm _ (List.getElem_mem hul)
  have h2 : ∀ u, (nxN p u).length ≤ 2 := nxN_len p
  obtain ⟨i27, hi27, hz70, hz71, hz72⟩ := info_parts info27
  obtain ⟨i31, hi31, hz10, hz11, hz12⟩ := info_parts inf31
  have hpow : 2 ^ (n + 1) ≤ 131072 := by have := Nat.pow_le_pow_right (show 0 < 2 by omega) (show n + 1 ≤ 17 by omega); simpa using this
  have HKL := Lib.hid (show ∀ i, (onK (nxN p) t n q u i).length ≤ 131072 from fun i => Nat.le_trans (onK_len h2 i) hpow)
  have HLL := Lib.hid (show ∀ y q', (onL (nxN p) t n q' y).length ≤ 131072 from fun y q' => Nat.le_trans (Nat.le_trans (onL_len h2 n q' y) (Nat.pow_le_pow_right (by omega) (Nat.le_succ n))) hpow)
  have hnm := next_mvs hv (show u < 2 * p.rails.length by omega)
  obtain ⟨nn, hnn⟩ : ∃ z, nxN p u = z := ⟨_, rfl⟩
  have hnnM : ∀ x ∈ nn, x < M := fun x hx => by rw [← hnn] at hx; exact hnet.nb u huM x hx
  have hnn2 : nn.length ≤ 2 := by rw [← hnn]; exact h2 u
  rw [hnn] at hnm hR
  have HKA := Lib.hid (show ∀ i, nn.length = i → onK (nxN p) t n q u i = onL (nxN p) t (n + 1) q u from fun i h => onK_all (by rw [hnn]; exact h))
  have HKS := Lib.hid (show ∀ i x, nn[i]? = some x → (u = t ∨ x ∈ q) → onK (nxN p) t n q u (i + 1) = onK (nxN p) t n q u i from fun i x h h' => onK_skip (by rw [hnn]; exact h) h')
  have HKM := Lib.hid (show ∀ i x, nn[i]? = some x → u ≠ t → x ∉ q → onK (nxN p) t n q u (i + 1) = onK (nxN p) t n q u i ++ onL (nxN p) t n (q ++ [x]) x from fun i x h h' h3 => onK_more (by rw [hnn]; exact h) h' h3)
  have HK0 := Lib.hid (show onK (nxN p) t n q u 0 = [] from onK_zero hut)
  obtain ⟨L, hL⟩ : ∃ z, nn.length = z := ⟨_, rfl⟩
  have HL := Lib.hid hL
  obtain ⟨x6, hx6⟩ : ∃ z, (moveE (u : Int)).rail = z := ⟨_, rfl⟩
  obtain ⟨x7, hx7⟩ : ∃ z, (moveE (u : Int)).last = z := ⟨_, rfl⟩
  obtain ⟨y0, hy0⟩ : ∃ z, (moveE (t : Int)).rail = z := ⟨_, rfl⟩
  obtain ⟨y1, hy1⟩ : ∃ z, (moveE (t : Int)).last = z := ⟨_, rfl⟩
  have hmu : moveE (u : Int) = ⟨x6, x7⟩ := by rw [← hx6, ← hx7]
  have hmt : moveE (t : Int) = ⟨y0, y1⟩ := by rw [← hy0, ← hy1]
  rw [hx6, hy0] at hc0
  obtain rfl : y0 = x6 := hc0
  have hc : ¬ x7 = y1 := fun e2 => hut ((move_ne hmu hmt).2 ⟨rfl, e2⟩)
  have hcb : (x7 == y1) = false := by rw [beq_eq_false_iff_ne]; exact hc
  rw [hy0, hy1] at hR ⊢
  obtain ⟨b1', o1', e1, hb1l, u0, u1⟩ := mvs_cell hA hul
  obtain ⟨rfl, rfl⟩ : b1 = b1' ∧ o1 = o1' := by simpa using e1
  rw [hue] at u0 u1
  rw [hx6] at u0
  rw [hx7] at u1
  have HST0 := Lib.hid (G3st.start (⟨y0, y1⟩ : E) (⟨y0, x7⟩ : E) hP)
  obtain ⟨W0, hW0⟩ : ∃ z, (((w.alloc (.cells #[.slice A p.nodes.length c, .slice A2 p.rails.length c2] 25)).alloc (.cells #[.int .i64 y0, .bool y1] 27)).alloc (.cells #[.int .i64 y0, .bool x7] 27)) = z := ⟨_, rfl⟩
  have hz0 : (((w.alloc (.cells #[.slice A p.nodes.length c, .slice A2 p.rails.length c2] 25)).alloc (.cells #[.int .i64 y0, .bool y1] 27)).alloc (.cells #[.int .i64 y0, .bool x7] 27)).heap.size = w.heap.size + 1 + 1 + 1 := by simp
  rw [hW0] at HST0 hz0
  have hb0 := HST0.out.be
  have HSW := Lib.hid (show ∀ wx, Below W0.heap.size W0 wx → Sl wx wx.heap.size 2 CE (some ⟨b1, o1, none⟩) (mvs q) from fun wx hb => (hA.below (hb0.trans (hb.mono (by omega)))).more (fun _ _ h => h) (by have := hb.size; omega))
  have HPW := Lib.hid (show ∀ wx, Below W0.heap.size W0 wx → PlAt wx wx.heap.size A c A2 c2 p from fun wx hb => (hP.below (hb0.trans (hb.mono (by omega)))).more (by have := hb.size; omega))
  have HC65 := Lib.hid (show ∀ wx : World, PlAt wx wx.heap.size A c A2 c2 p → Calls Tryz.prog 65 #[.agg #[.slice A p.nodes.length c, .slice A2 p.rails.length c2], .agg #[.int .i64 y0, .bool x7]] wx fun e w' => (∃ v, e = .returned v ∧ Own w' wx.heap.size 27 2 fE v (mvs nn)) ∧ Below wx.heap.size wx w' from fun wx hp => by
    have := rNext_any A A2 c c2 p (moveE (u : Int)) wx hp hv (moveE_in (by omega))
    rw [keyE_moveU, hnm, hmu] at this
    exact this)
  have HR := Lib.hid hR; have HB0 := Lib.hid hb0; have HLQ := Lib.hid hlq; have HQM := Lib.hid hqm; have HNM := Lib.hid hnnM; have HUT := Lib.hid hut
  clear hR hnm hnnM hu hue hul hP hv hA hlq hqm hnet h2 hpow hx6 hx7 hy0 hy1 hmu hmt hnn hL huM ht hM e1 hut
  have w1' : (lq : Int) + 1 - 1 = (lq : Int) := by omega
  have w2' : IntKind.i64.wrap (lq : Int) = (lq : Int) := by rw [IntKind.wrap_i64]; omega
  have l0 : (0 : Int) ≤ (lq : Int) := by omega
  have l1 : (lq : Int) < (lq : Int) + 1 := by omega
  obtain ⟨k0, k1, m0, m1, n0, n1, _, _, hz2⟩ := HST0.out
  go_enter Tryz.func67, Tryz.ntmps67
  go_wp2_with fail
  try rw [hW0]
  refine (HC65.out _ (HPW.out _ (Below.refl _ _))).mono ?_
  rintro e w1 ⟨⟨vn, rfl, hown⟩, hb1⟩
  obtain ⟨An, cn, rfl, _, _, _⟩ := hown.form
  rw [mvs_len, HL.out] at hown ⊢
  have HNE := Lib.hid hown; have HB1 := Lib.hid hb1
  clear hown hb1 hW0 hb0 k0 k1 m0 m1 n0 n1
  go_wp2
  go_loopw [8, 10] (fun s8 s10 wr => ∃ (i : Nat) (v8 : Value) (ml : List W3), i ≤ L ∧ s10 = .int .i64 (i : Int) ∧ v8 = s8 ∧ ml.map W3.l = onK (nxN p) t n q u i ∧ MSt W0 W0.heap.size wr v8 ml ∧ Own wr W0.heap.size 27 2 fE (.slice An L cn) (mvs nn)) (fun _ s10 _ => L - (intOf s10).toNat)
  case atStart => exact ⟨0, _, [], Nat.zero_le _, rfl, rfl, HK0.out.symm, ⟨Own.nil _ _ _ _ _, (fun x hx => by cases hx), HB1.out⟩, HNE.out⟩
  case round =>
    obtain ⟨i, v8, ml, hi, rfl, rfl, hml, hst, hne⟩ := hrel
    obtain ⟨wb, rfl⟩ : ∃ z, z = wr := ⟨_, rfl⟩
    have HML := Lib.hid hml; have HST := Lib.hid hst; have HNE := Lib.hid hne
    have hwz := hst.be.size
    clear hml hst hne
    by_cases hiL : i < L
    · have hin : i < nn.length := by rw [HL.out]; exact hiL
      obtain ⟨b2, o2, e2, hb2l, n0, n1⟩ := mvs_cell (HNE.out.sl fE_len (by rw [mvs_len, HL.out])) hin
      obtain ⟨x, hx⟩ : ∃ z, nn[i] = z := ⟨_, rfl⟩
      have HXI := Lib.hid (show nn[i]? = some x by rw [List.getElem?_eq_getElem hin, hx])
      have HXS := Lib.hid (show x ∈ nn by rw [← hx]; exact List.getElem_mem hin)
      have HXM := Lib.hid (HNM.out x HXS.out)
      rw [hx] at n0 n1
      obtain ⟨x0, hx0⟩ : ∃ z, (moveE (x : Int)).rail = z := ⟨_, rfl⟩
      obtain ⟨x1, hx1⟩ : ∃ z, (moveE (x : Int)).last = z := ⟨_, rfl⟩
      have HMX := Lib.hid (show moveE (x : Int) = ⟨x0, x1⟩ by rw [← hx0, ← hx1])
      rw [hx0] at n0
      rw [hx1] at n1
      subst e2
      have i0 : (0 : Int) ≤ (i : Int) := by omega
      have i1 : (i : Int) < (L : Int) := by omega
      clear hx hx0 hx1
      go_wp2
      go_loopw [11, 12] (fun s11 s12 w2 => ∃ k : Nat, k ≤ lq + 1 ∧ s12 = .int .i64 (k : Int) ∧ s11 = .bool (decide (x ∈ q.take k)) ∧ Below wb.heap.size wb w2) (fun _ s12 _ => lq + 1 - (intOf s12).toNat)
      case atStart => exact ⟨0, Nat.zero_le _, rfl, by simp, Below.refl _ _⟩
      case round =>
        obtain ⟨k, hk, rfl, rfl, hb⟩ := hrel
        have hw0 : Below W0.heap.size W0 wr := HST.out.be.trans (hb.mono hwz)
        have HB := Lib.hid hb; have HW0 := Lib.hid hw0
        by_cases hkl : k < lq + 1
        · have hkq : k < q.length := by rw [HLQ.out]; exact hkl
          obtain ⟨b3, o3, e3, hb3l, m0, m1⟩ := mvs_cell (HSW.out _ hw0) hkq
          obtain ⟨rfl, rfl⟩ : b1 = b3 ∧ o1 = o3 := by simpa using e3
          obtain ⟨z, hz⟩ : ∃ z, q[k] = z := ⟨_, rfl⟩
          have HTK := Lib.hid (show decide (x ∈ q.take (k + 1)) = (decide (x ∈ q.take k) || decide (x = z)) by
            rw [List.take_succ_eq_append_getElem hkq, hz]
            simp [Bool.decide_or])
          rw [hz] at m0 m1
          obtain ⟨z0, hz0'⟩ : ∃ y, (moveE (z : Int)).rail = y := ⟨_, rfl⟩
          obtain ⟨z1, hz1'⟩ : ∃ y, (moveE (z : Int)).last = y := ⟨_, rfl⟩
          have HMZ := Lib.hid (move_ne HMX.out (show moveE (z : Int) = ⟨z0, z1⟩ by rw [← hz0', ← hz1']))
          rw [hz0'] at m0
          rw [hz1'] at m1
          have n0' := (hb.cell (p := ⟨b2, o2 + i * 2, none⟩) hb2l).trans n0
          have n1' := (hb.cell (p := ⟨b2, o2 + i * 2 + 1, none⟩) hb2l).trans n1
          obtain ⟨bb, hbb⟩ : ∃ y, decide (x ∈ q.take k) = y := ⟨_, rfl⟩
          rw [hbb] at HTK ⊢
          have k0 : (0 : Int) ≤ (k : Int) := by omega
          have k1 : (k : Int) < (lq : Int) + 1 := by omega
          clear hz hz0' hz1' hbb hb hw0 n0 n1 e3
          cases bb with
          | true =>
            go_wp2
            go_quiet (fail)
            go_wp2
            go_roundw
            case rel => exact ⟨k + 1, by omega, by go_num, by rw [HTK.out]; rfl, bDrewN HB.out _⟩
            case measure => simp [intOf]; omega
          | false =>
            by_cases hxz : x = z
            · have HV := Lib.hid (show decide (x ∈ q.take (k + 1)) = true by rw [HTK.out]; simp [hxz])
              obtain ⟨rfl, rfl⟩ := HMZ.out.1 hxz
              clear hxz
              go_wp2
              go_quiet (fail)
              go_wp2
              go_roundw
              case rel => exact ⟨k + 1, by omega, by go_num, by rw [HV.out], bDrewN HB.out _⟩
              case measure => simp [intOf]; omega
            · have HV := Lib.hid (show decide (x ∈ q.take (k + 1)) = false by rw [HTK.out]; simp [hxz])
              have HXZ := Lib.hid hxz
              clear hxz
              by_cases hz0x : z0 = x0
              · subst hz0x
                have hcz : ¬ z1 = x1 := fun e2 => HXZ.out (HMZ.out.2 ⟨rfl, e2.symm⟩)
                have hczb : (z1 == x1) = false := by rw [beq_eq_false_iff_ne]; exact hcz
                go_wp2
                go_quiet (fail)
                go_wp2
                go_roundw
                case rel => exact ⟨k + 1, by omega, by go_num, by rw [HV.out], bDrewN HB.out _⟩
                case measure => simp [intOf]; omega
              · have hczb : (z0 == x0) = false := by rw [beq_eq_false_iff_ne]; exact hz0x
                go_wp2
                go_quiet (fail)
                go_wp2
                go_roundw
                case rel => exact ⟨k + 1, by omega, by go_num, by rw [HV.out], bDrewN HB.out _⟩
                case measure => simp [intOf]; omega
        · have hk1 : k = lq + 1 := by omega
          have hkz : ¬ (k : Int) < (lq : Int) + 1 := by omega
          have htk : q.take k = q := List.take_of_length_le (by rw [hk1, HLQ.out]; exact Nat.le_refl _)
          rw [htk]
          have HST2 := Lib.hid (HST.out.below hb hwz)
          have HNE2 := Lib.hid (HNE.out.below hb (Nat.le_refl _))
          have n0' := (hb.cell (p := ⟨b2, o2 + i * 2, none⟩) hb2l).trans n0
          have n1' := (hb.cell (p := ⟨b2, o2 + i * 2 + 1, none⟩) hb2l).trans n1
          obtain ⟨q0, q1, m0, m1, l0', l1', _, _, _⟩ := HST0.out.next hw0
          clear hk1 htk hb hw0 hk
          by_cases hxq : x ∈ q
          · rw [decide_eq_true hxq]
            have HV := Lib.hid (HKS.out i x HXI.out (.inr hxq))
            clear hxq
            go_wp2
            go_roundw
            case rel => exact ⟨i + 1, _, ml, by omega, by go_num, rfl, by rw [HV.out]; exact HML.out, HST2.out, HNE2.out⟩
            case measure => simp [intOf]; omega
          · rw [decide_eq_false hxq]
            have HXN := Lib.hid hxq
            have HXQ := Lib.hid (show mvs q ++ [(⟨x0, x1⟩ : E)] = mvs (q ++ [x]) by rw [mvs_app]; simp [mvs, zs, HMX.out])
            go_upto_region 15 with (fail)
            obtain ⟨W2, rfl⟩ : ∃ z, z = wr := ⟨_, rfl⟩
            have hwz2 := HST2.out.be.size
            have HKW := Lib.hid (show ∀ wq, Below W0.heap.size W0 wq → Own wq W0.heap.size 27 2 fE (.slice (some ⟨b2, o2, none⟩) L cn) (mvs nn) → S15 w.heap.size A p.nodes.length c A2 p.rails.length c2 y0 y1 b2 o2 i x0 x1 wq from fun wq hb hne => by
              obtain ⟨q0, q1, m0, m1, l0', l1', _, _, _⟩ := HST0.out.next hb
              obtain ⟨b2', o2', e2, _, n0, n1⟩ := mvs_cell (hne.sl fE_len (by rw [mvs_len, HL.out])) hin
              obtain ⟨rfl, rfl⟩ : b2 = b2' ∧ o2 = o2' := by simpa using e2
              have hx : nn[i] = x := by have := HXI.out; rw [List.getElem?_eq_getElem hin] at this; exact Option.some.inj this
              rw [hx, HMX.out] at n0 n1
              exact ⟨q0, q1, m0, m1, n0, n1⟩)
            have HKK := Lib.hid (show ∀ wq, Below W2.heap.size W2 wq → S15 w.heap.size A p.nodes.length c A2 p.rails.length c2 y0 y1 b2 o2 i x0 x1 wq from fun wq hb => HKW.out _ (HST2.out.be.trans (hb.mono hwz2)) (HNE2.out.below hb (Nat.le_refl _)))
            have hbq : Below W2.heap.size W2 W2.drew := (Below.refl _ _).drew
            have HS := Lib.hid (HKK.out _ hbq)
            clear q0 q1 m0 m1 l0' l1' n0 n1 n0' n1' hxq
            refine wp_region_held_drew (S := S15 w.heap.size A p.nodes.length c A2 p.rails.length c2 y0 y1 b2 o2 i x0 x1) (by kernel_rfl) HS.out (fun _ => ?_)
            generalize W2.drew = wd at *
            refine hTake (i := 0) (d := 61) (v := v8) rfl rfl (by kernel_rfl) (by kernel_rfl) (by kernel_rfl) (fun _ _ _ h => h) (Or.inl ⟨rfl, ?gr⟩) HS.out ?_
            case gr =>
              rintro W' ⟨s0, s1, s2, s3, s4, s5⟩
              go_simp
            simp only [Act.put, List.setIfInBounds_toArray, List.set_cons_zero, List.set_cons_succ]
            refine hTake (i := 1) (d := 62) (v := .agg #[.slice A p.nodes.length c, .slice A2 p.rails.length c2]) rfl rfl (by kernel_rfl) (by kernel_rfl) (by kernel_rfl) (fun _ _ _ h => h) (Or.inl ⟨rfl, ?gr⟩) HS.out ?_
            case gr =>
              rintro W' ⟨s0, s1, s2, s3, s4, s5⟩
              go_simp
            simp only [Act.put, List.setIfInBounds_toArray, List.set_cons_zero, List.set_cons_succ]
            refine hTake (i := 2) (d := 63) (v := .slice (some ⟨b1, o1, none⟩) (lq + 1) c3) rfl rfl (by kernel_rfl) (by kernel_rfl) (by kernel_rfl) (fun _ _ _ h => h) (Or.inl ⟨rfl, ?gr⟩) HS.out ?_
            case gr =>
              rintro W' ⟨s0, s1, s2, s3, s4, s5⟩
              go_simp
            simp only [Act.put, List.setIfInBounds_toArray, List.set_cons_zero, List.set_cons_succ]
            refine hTake (i := 4) (d := 65) (v := .slice (some ⟨b2, o2, none⟩) L cn) rfl rfl (by kernel_rfl) (by kernel_rfl) (by kernel_rfl) (fun _ _ _ h => h) (Or.inl ⟨rfl, ?gr⟩) HS.out ?_
            case gr =>
              rintro W' ⟨s0, s1, s2, s3, s4, s5⟩
              go_simp
            simp only [Act.put, List.setIfInBounds_toArray, List.set_cons_zero, List.set_cons_succ]
            refine hTake (i := 5) (d := 66) (v := .int .i64 (i : Int)) rfl rfl (by kernel_rfl) (by kernel_rfl) (by kernel_rfl) (fun _ _ _ h => h) (Or.inl ⟨rfl, ?gr⟩) HS.out ?_
            case gr =>
              rintro W' ⟨s0, s1, s2, s3, s4, s5⟩
              go_simp
            simp only [Act.put, List.setIfInBounds_toArray, List.set_cons_zero, List.set_cons_succ]
            refine hTake (i := 6) (d := 67) (v := .pointer (some ⟨b2, o2 + i * 2, none⟩)) rfl rfl (by kernel_rfl) (by kernel_rfl) (by kernel_rfl) (fun _ _ _ h => h) (Or.inl ⟨rfl, ?gr⟩) HS.out ?_
            case gr =>
              rintro W' ⟨s0, s1, s2, s3, s4, s5⟩
              go_simp
            simp only [Act.put, List.setIfInBounds_toArray, List.set_cons_zero, List.set_cons_succ]
            refine hTake (i := 7) (d := 68) (v := .agg #[.int .i64 x0, .bool x1]) rfl rfl (by kernel_rfl) (by kernel_rfl) (by kernel_rfl) (fun _ _ _ h => h) (Or.inl ⟨rfl, ?gr⟩) HS.out ?_
            case gr =>
              rintro W' ⟨s0, s1, s2, s3, s4, s5⟩
              go_simp
            simp only [Act.put, List.setIfInBounds_toArray, List.set_cons_zero, List.set_cons_succ]
            refine hTake (i := 10) (d := 71) (v := .agg #[.int .i64 y0, .bool y1]) rfl rfl (by kernel_rfl) (by kernel_rfl) (by kernel_rfl) (fun _ _ _ h => h) (Or.inl ⟨rfl, ?gr⟩) HS.out ?_
            case gr =>
              rintro W' ⟨s0, s1, s2, s3, s4, s5⟩
              go_simp
            simp only [Act.put, List.setIfInBounds_toArray, List.set_cons_zero, List.set_cons_succ]
            refine wpAnyH_ready (rs := [3, 8]) (by kernel_rfl) (by simp) ?_
            refine AllReadyH.cons rfl (fun K hK => ?_) (AllReadyH.cons rfl (fun K hK => ?_) AllReadyH.nil)
            · rw [if_pos (by rfl)]
              refine wp_app _ _ _ _ rfl W2.heap.size 27 i27 _ 2 16 Tryz.underlying31 hi27 hz70 hz71 hz72 rfl (by omega) fE_len fE_one (.slice none 0 0) [] rfl (Own.nil _ _ _ _ _) _ (some ⟨b1, o1, none⟩) (mvs q) c3 (by rw [mvs_len, HLQ.out]; rfl) (HSW.out _ (HST2.out.be.trans (hbq.mono hwz2))) (by rw [mvs_len, HLQ.out]; unfold maxLen; simp only [List.length_nil]; omega) (by rw [mvs_len, HLQ.out]; simp only [List.length_nil]; omega) hbq.size (fun _ => .inr ⟨_, rfl⟩) ?_
              intro v1 w1 ow1 gr1 at1 ne1
              replace hbq := hbq.grown gr1 hbq.size (fun b hb => by simp [Value.ownBlock] at hb)
              have HS := Lib.hid (HKK.out _ hbq)
              clear gr1 at1 ne1
              refine hK.out _ _ HS.out (fun _ => ?_)
              clear hK K
              try simp only [Act.put, List.setIfInBounds_toArray, List.set_cons_zero, List.set_cons_succ]
              refine wpAnyH_ready (rs := [8]) (by kernel_rfl) (by simp) ?_
              refine AllReadyH.cons rfl (fun K hK => ?_) AllReadyH.nil
              rw [if_pos (by rfl)]
              go_simp
              have hal : Below w1.heap.size w1 (w1.alloc (.cells #[.int .i64 x0, .bool x1] 27)) := (Below.refl _ _).alloc (Nat.le_refl _) _
              have hsb : Sl (w1.alloc (.cells #[.int .i64 x0, .bool x1] 27)) (w1.alloc (.cells #[.int .i64 x0, .bool x1] 27)).heap.size 2 (fun x cs => cs = fE x) (some ⟨w1.heap.size, 0, none⟩) [(⟨x0, x1⟩ : E)] := (Sl.new (f := fE) (size := 2) w1 27 (⟨x0, x1⟩ : E) #[.int .i64 x0, .bool x1] rfl).more (fun _ _ h => h) (by simp)
              replace ow1 := ow1.alloc (.cells #[.int .i64 x0, .bool x1] 27)
              replace hbq := hbq.trans (hal.mono hbq.size)
              have HS := Lib.hid (HKK.out _ hbq)
              clear hal
              refine hK.out _ _ HS.out (fun _ => ?_)
              clear hK K
              try simp only [Act.put, List.setIfInBounds_toArray, List.set_cons_zero, List.set_cons_succ]
              refine wpAnyH_ready (rs := [9]) (by kernel_rfl) (by simp) ?_
              refine AllReadyH.cons rfl (fun K hK => ?_) AllReadyH.nil
              rw [if_pos (by rfl)]
              refine wp_app _ _ _ _ rfl W2.heap.size 27 i27 _ 2 16 Tryz.underlying31 hi27 hz70 hz71 hz72 rfl (by omega) fE_len fE_one v1 _ rfl ow1 _ _ [(⟨x0, x1⟩ : E)] 1 rfl hsb (by rw [List.nil_append, mvs_len, HLQ.out]; unfold maxLen; simp only [List.length_cons, List.length_nil]; omega) (by rw [List.nil_append, mvs_len, HLQ.out]; simp only [List.length_cons, List.length_nil]; omega) hbq.size (fun _ => .inr ⟨_, rfl⟩) ?_
              intro v2 w2 ow2 gr2 at2 ne2
              replace hbq := hbq.grown gr2 hbq.size (fun b hb => (ow1.lt b hb).1)
              have HS := Lib.hid (HKK.out _ hbq)
              rw [List.nil_append, HXQ.out] at ow2
              obtain ⟨A4, c4, hv2⟩ : ∃ A4 c4, v2 = .slice A4 (lq + 1 + 1) c4 := by
                obtain ⟨A4, c4, h, _, _, _⟩ := ow2.form
                exact ⟨A4, c4, by rw [h, mvs_len, List.length_append, HLQ.out]; rfl⟩
              subst hv2
              have hs2 : Sl w2 w2.heap.size 2 CE A4 (mvs (q ++ [x])) := ow2.sl fE_len (by rw [mvs_len, List.length_append, HLQ.out]; rfl)
              clear gr2 at2 ne2 hsb ow1 ow2
              refine hK.out _ _ HS.out (fun _ => ?_)
              clear hK K
              try simp only [Act.put, List.setIfInBounds_toArray, List.set_cons_zero, List.set_cons_succ]
              refine wpAnyH_ready (rs := [11]) (by kernel_rfl) (by simp) ?_
              refine AllReadyH.cons rfl (fun K hK => ?_) AllReadyH.nil
              rw [if_pos (by rfl)]
              go_simp
              go_at_call 67
              (with_reducible refine (HR.out x HXM.out HXN.out HXS.out A4 c4 _ (HPW.out _ (HST2.out.be.trans (hbq.mono hwz2))) hs2).mono ?_)
              rintro e w3 ⟨v3, ml3, rfl, ow3, mr3, hl3, hb3⟩
              obtain ⟨A5, c5, rfl, _, _, _⟩ := ow3.form
              replace hbq := hbq.trans (hb3.mono hbq.size)
              have HS := Lib.hid (HKK.out _ hbq)
              clear hb3 hs2
              refine hK.out _ _ HS.out (fun _ => ?_)
              clear hK K
              try simp only [Act.put, List.setIfInBounds_toArray, List.set_cons_zero, List.set_cons_succ]
              refine wpAnyH_ready (rs := [12]) (by kernel_rfl) (by simp) ?_
              refine AllReadyH.cons rfl (fun K hK => ?_) AllReadyH.nil
              rw [if_pos (by rfl)]
              have hst3 := HST2.out.below hbq hwz2
              have hl1 : ml.length ≤ 131072 := by have h5 := HKL.out i; rw [← HML.out, List.length_map] at h5; exact h5
              have hl2 : ml3.length ≤ 131072 := by have h5 := HLL.out x (q ++ [x]); rw [← hl3, List.length_map] at h5; exact h5
              refine wp_app _ _ _ _ rfl W0.heap.size 31 i31 _ 1 24 Tryz.underlying53 hi31 hz10 hz11 hz12 rfl (by omega) fW_len fW_one v8 ml rfl hst3.ow _ A5 ml3 c5 rfl (ow3.sl fW_len rfl) (by unfold maxLen; omega) (by omega) (by have := hbq.size; omega) (fun h => by cases A5 with | none => exact .inl rfl | some a => exact .inr ⟨_, rfl⟩) ?_
              intro v9 w9 ow9 gr9 at9 ne9
              obtain ⟨hst9, hk9⟩ := hst3.grown mr3 ow9 gr9 (by have := hbq.size; omega)
              have hne9 := own_kp27 (HNE2.out.below hbq (Nat.le_refl _)) hk9 (by simp)
              have HS := Lib.hid (HKW.out _ hst9.be hne9)
              have hml9 : (ml ++ ml3).map W3.l = onK (nxN p) t n q u (i + 1) := by rw [List.map_append, HML.out, hl3, HKM.out i x HXI.out HUT.out HXN.out]
              clear hst3 hl1 hl2 gr9 at9 ne9 hk9 ow9
              refine hK.out _ _ HS.out (fun _ => ?_)
              clear hK K
              try simp only [Act.put, List.setIfInBounds_toArray, List.set_cons_zero, List.set_cons_succ]
              refine hTake (i := 13) (d := 8) (v := v9) rfl rfl (by kernel_rfl) (by kernel_rfl) (by kernel_rfl) (fun _ _ _ h => h) (Or.inl ⟨rfl, ?gr⟩) HS.out ?_
              case gr =>
                rintro W' ⟨s0, s1, s2, s3, s4, s5⟩
                go_simp
              simp only [Act.put, List.setIfInBounds_toArray, List.set_cons_zero, List.set_cons_succ]
              refine wpAnyH_done (by kernel_rfl) ?_ _
              go_wp2_with fail
              go_roundw
              case rel => exact ⟨i + 1, _, ml ++ ml3, by omega, by go_num, rfl, hml9, hst9, hne9⟩
              case measure => simp [intOf]; omega
            · rw [if_pos (by rfl)]
              go_simp
              have hal : Below wd.heap.size wd (wd.alloc (.cells #[.int .i64 x0, .bool x1] 27)) := (Below.refl _ _).alloc (Nat.le_refl _) _
              have hsb : Sl (wd.alloc (.cells #[.int .i64 x0, .bool x1] 27)) (wd.alloc (.cells #[.int .i64 x0, .bool x1] 27)).heap.size 2 (fun x cs => cs = fE x) (some ⟨wd.heap.size, 0, none⟩) [(⟨x0, x1⟩ : E)] := (Sl.new (f := fE) (size := 2) wd 27 (⟨x0, x1⟩ : E) #[.int .i64 x0, .bool x1] rfl).more (fun _ _ h => h) (by simp)
              replace hbq := hbq.trans (hal.mono hbq.size)
              have HS := Lib.hid (HKK.out _ hbq)
              clear hal
              refine hK.out _ _ HS.out (fun _ => ?_)
              clear hK K
              try simp only [Act.put, List.setIfInBounds_toArray, List.set_cons_zero, List.set_cons_succ]
              refine wpAnyH_ready (rs := [3]) (by kernel_rfl) (by simp) ?_
              refine AllReadyH.cons rfl (fun K hK => ?_) AllReadyH.nil
              rw [if_pos (by rfl)]
              refine wp_app _ _ _ _ rfl W2.heap.size 27 i27 _ 2 16 Tryz.underlying31 hi27 hz70 hz71 hz72 rfl (by omega) fE_len fE_one (.slice none 0 0) [] rfl (Own.nil _ _ _ _ _) _ (some ⟨b1, o1, none⟩) (mvs q) c3 (by rw [mvs_len, HLQ.out]; rfl) (HSW.out _ (HST2.out.be.trans (hbq.mono hwz2))) (by rw [mvs_len, HLQ.out]; unfold maxLen; simp only [List.length_nil]; omega) (by rw [mvs_len, HLQ.out]; simp only [List.length_nil]; omega) hbq.size (fun _ => .inr ⟨_, rfl⟩) ?_
              intro v1 w1 ow1 gr1 at1 ne1
              replace hsb := hsb.below ((Below.refl _ _).grown gr1 (Nat.le_refl _) (fun b hb => by simp [Value.ownBlock] at hb))
              replace hbq := hbq.grown gr1 hbq.size (fun b hb => by simp [Value.ownBlock] at hb)
              have HS := Lib.hid (HKK.out _ hbq)
              clear gr1 at1 ne1
              refine hK.out _ _ HS.out (fun _ => ?_)
              clear hK K
              try simp only [Act.put, List.setIfInBounds_toArray, List.set_cons_zero, List.set_cons_succ]
              refine wpAnyH_ready (rs := [9]) (by kernel_rfl) (by simp) ?_
              refine AllReadyH.cons rfl (fun K hK => ?_) AllReadyH.nil
              rw [if_pos (by rfl)]
              refine wp_app _ _ _ _ rfl W2.heap.size 27 i27 _ 2 16 Tryz.underlying31 hi27 hz70 hz71 hz72 rfl (by omega) fE_len fE_one v1 _ rfl ow1 _ _ [(⟨x0, x1⟩ : E)] 1 rfl hsb (by rw [List.nil_append, mvs_len, HLQ.out]; unfold maxLen; simp only [List.length_cons, List.length_nil]; omega) (by rw [List.nil_append, mvs_len, HLQ.out]; simp only [List.length_cons, List.length_nil]; omega) hbq.size (fun _ => .inr ⟨_, rfl⟩) ?_
              intro v2 w2 ow2 gr2 at2 ne2
              replace hbq := hbq.grown gr2 hbq.size (fun b hb => (ow1.lt b hb).1)
              have HS := Lib.hid (HKK.out _ hbq)
              rw [List.nil_append, HXQ.out] at ow2
              obtain ⟨A4, c4, hv2⟩ : ∃ A4 c4, v2 = .slice A4 (lq + 1 + 1) c4 := by
                obtain ⟨A4, c4, h, _, _, _⟩ := ow2.form
                exact ⟨A4, c4, by rw [h, mvs_len, List.length_append, HLQ.out]; rfl⟩
              subst hv2
              have hs2 : Sl w2 w2.heap.size 2 CE A4 (mvs (q ++ [x])) := ow2.sl fE_len (by rw [mvs_len, List.length_append, HLQ.out]; rfl)
              clear gr2 at2 ne2 hsb ow1 ow2
              refine hK.out _ _ HS.out (fun _ => ?_)
              clear hK K
              try simp only [Act.put, List.setIfInBounds_toArray, List.set_cons_zero, List.set_cons_succ]
              refine wpAnyH_ready (rs := [11]) (by kernel_rfl) (by simp) ?_
              refine AllReadyH.cons rfl (fun K hK => ?_) AllReadyH.nil
              rw [if_pos (by rfl)]
              go_simp
              go_at_call 67
              (with_reducible refine (HR.out x HXM.out HXN.out HXS.out A4 c4 _ (HPW.out _ (HST2.out.be.trans (hbq.mono hwz2))) hs2).mono ?_)
              rintro e w3 ⟨v3, ml3, rfl, ow3, mr3, hl3, hb3⟩
              obtain ⟨A5, c5, rfl, _, _, _⟩ := ow3.form
              replace hbq := hbq.trans (hb3.mono hbq.size)
              have HS := Lib.hid (HKK.out _ hbq)
              clear hb3 hs2
              refine hK.out _ _ HS.out (fun _ => ?_)
              clear hK K
              try simp only [Act.put, List.setIfInBounds_toArray, List.set_cons_zero, List.set_cons_succ]
              refine wpAnyH_ready (rs := [12]) (by kernel_rfl) (by simp) ?_
              refine AllReadyH.cons rfl (fun K hK => ?_) AllReadyH.nil
              rw [if_pos (by rfl)]
              have hst3 := HST2.out.below hbq hwz2
              have hl1 : ml.length ≤ 131072 := by have h5 := HKL.out i; rw [← HML.out, List.length_map] at h5; exact h5
              have hl2 : ml3.length ≤ 131072 := by have h5 := HLL.out x (q ++ [x]); rw [← hl3, List.length_map] at h5; exact h5
              refine wp_app _ _ _ _ rfl W0.heap.size 31 i31 _ 1 24 Tryz.underlying53 hi31 hz10 hz11 hz12 rfl (by omega) fW_len fW_one v8 ml rfl hst3.ow _ A5 ml3 c5 rfl (ow3.sl fW_len rfl) (by unfold maxLen; omega) (by omega) (by have := hbq.size; omega) (fun h => by cases A5 with | none => exact .inl rfl | some a => exact .inr ⟨_, rfl⟩) ?_
              intro v9 w9 ow9 gr9 at9 ne9
              obtain ⟨hst9, hk9⟩ := hst3.grown mr3 ow9 gr9 (by have := hbq.size; omega)
              have hne9 := own_kp27 (HNE2.out.below hbq (Nat.le_refl _)) hk9 (by simp)
              have HS := Lib.hid (HKW.out _ hst9.be hne9)
              have hml9 : (ml ++ ml3).map W3.l = onK (nxN p) t n q u (i + 1) := by rw [List.map_append, HML.out, hl3, HKM.out i x HXI.out HUT.out HXN.out]
              clear hst3 hl1 hl2 gr9 at9 ne9 hk9 ow9
              refine hK.out _ _ HS.out (fun _ => ?_)
              clear hK K
              try simp only [Act.put, List.setIfInBounds_toArray, List.set_cons_zero, List.set_cons_succ]
              refine hTake (i := 13) (d := 8) (v := v9) rfl rfl (by kernel_rfl) (by kernel_rfl) (by kernel_rfl) (fun _ _ _ h => h) (Or.inl ⟨rfl, ?gr⟩) HS.out ?_
              case gr =>
                rintro W' ⟨s0, s1, s2, s3, s4, s5⟩
                go_simp
              simp only [Act.put, List.setIfInBounds_toArray, List.set_cons_zero, List.set_cons_succ]
              refine wpAnyH_done (by kernel_rfl) ?_ _
              go_wp2_with fail
              go_roundw
              case rel => exact ⟨i + 1, _, ml ++ ml3, by omega, by go_num, rfl, hml9, hst9, hne9⟩
              case measure => simp [intOf]; omega
    · obtain rfl : i = L := by omega
      have hz : ¬ (i : Int) < (i : Int) := by omega
      have HV := Lib.hid (HKA.out i HL.out)
      go_wp2_with fail
      go_ret
      exact ⟨_, ml, rfl, HST.out.ow.lower (by omega), HST.out.mr, by rw [← HV.out]; exact HML.out, HB0.out.trans (HST.out.be.mono (by omega))⟩

set_option maxRecDepth 100000 in
set_option maxHeartbeats 4000000 in
theorem On_goB (A A2 : Option Addr) (b1 o1 c c2 c3 M n t u lq : Nat) (p : Pl) (q : List Nat) (w : World) (H : OIn A A2 b1 o1 c c2 M n t u lq p q w) (hut : u ≠ t) (hc0 : ¬ (moveE (t : Int)).rail = (moveE (u : Int)).rail)
    (hR : ∀ x, x < M → x ∉ q → x ∈ nxN p u → ∀ (A4 : Option Addr) (c4 : Nat) (wx : World), PlAt wx wx.heap.size A c A2 c2 p → Sl wx wx.heap.size 2 CE A4 (mvs (q ++ [x])) →
      Calls Tryz.prog 67 #[.agg #[.slice A p.nodes.length c, .slice A2 p.rails.length c2], .slice A4 (lq + 1 + 1) c4, .agg #[.int .i64 (moveE (t : Int)).rail, .bool (moveE (t : Int)).last]] wx (OnPost (onL (nxN p) t n (q ++ [x]) x) wx)) :
    Calls Tryz.prog 67 #[.agg #[.slice A p.nodes.length c, .slice A2 p.rails.length c2], .slice (some ⟨b1, o1, none⟩) (lq + 1) c3, .agg #[.int .i64 (moveE (t : Int)).rail, .bool (moveE (t : Int)).last]] w (OnPost (onL (nxN p) t (n + 1) q u) w) := by
  obtain ⟨hM, h16, hP, hv, hA, hlq, hq16, hqm, hu, ht, hn⟩ := H
  have hnet := plan_net hv hM
  obtain ⟨hul, hue⟩ := List.getElem?_eq_some_iff.1 hu
  have huM : u < M := by rw [← hue]; exact hqm _ (List.getElem_mem hul)
  have h2 : ∀ u, (nxN p u).length ≤ 2 := nxN_len p
  obtain ⟨i27, hi27, hz70, hz71, hz72⟩ := info_parts info27
  obtain ⟨i31, hi31, hz10, hz11, hz12⟩ := info_parts inf31
  have hpow : 2 ^ (n + 1) ≤ 131072 := by have := Nat.pow_le_pow_right (show 0 < 2 by omega) (show n + 1 ≤ 17 by omega); simpa using this
  have HKL := Lib.hid (show ∀ i, (onK (nxN p) t n q u i).length ≤ 131072 from fun i => Nat.le_trans (onK_len h2 i) hpow)
  have HLL := Lib.hid (show ∀ y q', (onL (nxN p) t n q' y).length ≤ 131072 from fun y q' => Nat.le_trans (Nat.le_trans (onL_len h2 n q' y) (Nat.pow_le_pow_right (by omega) (Nat.le_succ n))) hpow)
  have hnm := next_mvs hv (show u < 2 * p.rails.length by omega)
  obtain ⟨nn, hnn⟩ : ∃ z, nxN p u = z := ⟨_, rfl⟩
  have hnnM : ∀ x ∈ nn, x < M := fun x hx => by rw [← hnn] at hx; exact hnet.nb u huM x hx
  have hnn2 : nn.length ≤ 2 := by rw [← hnn]; exact h2 u
  rw [hnn] at hnm hR
  have HKA := Lib.hid (show ∀ i, nn.length = i → onK (nxN p) t n q u i = onL (nxN p) t (n + 1) q u from fun i h => onK_all (by rw [hnn]; exact h))
  have HKS := Lib.hid (show ∀ i x, nn[i]? = some x → (u = t ∨ x ∈ q) → onK (nxN p) t n q u (i + 1) = onK (nxN p) t n q u i from fun i x h h' => onK_skip (by rw [hnn]; exact h) h')
  have HKM := Lib.hid (show ∀ i x, nn[i]? = some x → u ≠ t → x ∉ q → onK (nxN p) t n q u (i + 1) = onK (nxN p) t n q u i ++ onL (nxN p) t n (q ++ [x]) x from fun i x h h' h3 => onK_more (by rw [hnn]; exact h) h' h3)
  have HK0 := Lib.hid (show onK (nxN p) t n q u 0 = [] from onK_zero hut)
  obtain ⟨L, hL⟩ : ∃ z, nn.length = z := ⟨_, rfl⟩
  have HL := Lib.hid hL
  obtain ⟨x6, hx6⟩ : ∃ z, (moveE (u : Int)).rail = z := ⟨_, rfl⟩
  obtain ⟨x7, hx7⟩ : ∃ z, (moveE (u : Int)).last = z := ⟨_, rfl⟩
  obtain ⟨y0, hy0⟩ : ∃ z, (moveE (t : Int)).rail = z := ⟨_, rfl⟩
  obtain ⟨y1, hy1⟩ : ∃ z, (moveE (t : Int)).last = z := ⟨_, rfl⟩
  have hmu : moveE (u : Int) = ⟨x6, x7⟩ := by rw [← hx6, ← hx7]
  have hmt : moveE (t : Int) = ⟨y0, y1⟩ := by rw [← hy0, ← hy1]
  rw [hx6, hy0] at hc0
  have hc : ¬ x6 = y0 := fun e => hc0 e.symm
  have hcb : (x6 == y0) = false := by rw [beq_eq_false_iff_ne]; exact hc
  rw [hy0, hy1] at hR ⊢
  obtain ⟨b1', o1', e1, hb1l, u0, u1⟩ := mvs_cell hA hul
  obtain ⟨rfl, rfl⟩ : b1 = b1' ∧ o1 = o1' := by simpa using e1
  rw [hue] at u0 u1
  rw [hx6] at u0
  rw [hx7] at u1
  have HST0 := Lib.hid (G3st.start (⟨y0, y1⟩ : E) (⟨x6, x7⟩ : E) hP)
  obtain ⟨W0, hW0⟩ : ∃ z, (((w.alloc (.cells #[.slice A p.nodes.length c, .slice A2 p.rails.length c2] 25)).alloc (.cells #[.int .i64 y0, .bool y1] 27)).alloc (.cells #[.int .i64 x6, .bool x7] 27)) = z := ⟨_, rfl⟩
  have hz0 : (((w.alloc (.cells #[.slice A p.nodes.length c, .slice A2 p.rails.length c2] 25)).alloc (.cells #[.int .i64 y0, .bool y1] 27)).alloc (.cells #[.int .i64 x6, .bool x7] 27)).heap.size = w.heap.size + 1 + 1 + 1 := by simp
  rw [hW0] at HST0 hz0
  have hb0 := HST0.out.be
  have HSW := Lib.hid (show ∀ wx, Below W0.heap.size W0 wx → Sl wx wx.heap.size 2 CE (some ⟨b1, o1, none⟩) (mvs q) from fun wx hb => (hA.below (hb0.trans (hb.mono (by omega)))).more (fun _ _ h => h) (by have := hb.size; omega))
  have HPW := Lib.hid (show ∀ wx, Below W0.heap.size W0 wx → PlAt wx wx.heap.size A c A2 c2 p from fun wx hb => (hP.below (hb0.trans (hb.mono (by omega)))).more (by have := hb.size; omega))
  have HC65 := Lib.hid (show ∀ wx : World, PlAt wx wx.heap.size A c A2 c2 p → Calls Tryz.prog 65 #[.agg #[.slice A p.nodes.length c, .slice A2 p.rails.length c2], .agg #[.int .i64 x6, .bool x7]] wx fun e w' => (∃ v, e = .returned v ∧ Own w' wx.heap.size 27 2 fE v (mvs nn)) ∧ Below wx.heap.size wx w' from fun wx hp => by
    have := rNext_any A A2 c c2 p (moveE (u : Int)) wx hp hv (moveE_in (by omega))
    rw [keyE_moveU, hnm, hmu] at this
    exact this)
  have HR := Lib.hid hR; have HB0 := Lib.hid hb0; have HLQ := Lib.hid hlq; have HQM := Lib.hid hqm; have HNM := Lib.hid hnnM; have HUT := Lib.hid hut
  clear hR hnm hnnM hu hue hul hP hv hA hlq hqm hnet h2 hpow hx6 hx7 hy0 hy1 hmu hmt hnn hL huM ht hM e1 hut
  have w1' : (lq : Int) + 1 - 1 = (lq : Int) := by omega
  have w2' : IntKind.i64.wrap (lq : Int) = (lq : Int) := by rw [IntKind.wrap_i64]; omega
  have l0 : (0 : Int) ≤ (lq : Int) := by omega
  have l1 : (lq : Int) < (lq : Int) + 1 := by omega
  obtain ⟨k0, k1, m0, m1, n0, n1, _, _, hz2⟩ := HST0.out
  go_enter Tryz.func67, Tryz.ntmps67
  go_wp2_with fail
  try rw [hW0]
  refine (HC65.out _ (HPW.out _ (Below.refl _ _))).mono ?_
  rintro e w1 ⟨⟨vn, rfl, hown⟩, hb1⟩
  obtain ⟨An, cn, rfl, _, _, _⟩ := hown.form
  rw [mvs_len, HL.out] at hown ⊢
  have HNE := Lib.hid hown; have HB1 := Lib.hid hb1
  clear hown hb1 hW0 hb0 k0 k1 m0 m1 n0 n1
  go_wp2
  go_loopw [8, 10] (fun s8 s10 wr => ∃ (i : Nat) (v8 : Value) (ml : List W3), i ≤ L ∧ s10 = .int .i64 (i : Int) ∧ v8 = s8 ∧ ml.map W3.l = onK (nxN p) t n q u i ∧ MSt W0 W0.heap.size wr v8 ml ∧ Own wr W0.heap.size 27 2 fE (.slice An L cn) (mvs nn)) (fun _ s10 _ => L - (intOf s10).toNat)
  case atStart => exact ⟨0, _, [], Nat.zero_le _, rfl, rfl, HK0.out.symm, ⟨Own.nil _ _ _ _ _, (fun x hx => by cases hx), HB1.out⟩, HNE.out⟩
  case round =>
    obtain ⟨i, v8, ml, hi, rfl, rfl, hml, hst, hne⟩ := hrel
    obtain ⟨wb, rfl⟩ : ∃ z, z = wr := ⟨_, rfl⟩
    have HML := Lib.hid hml; have HST := Lib.hid hst; have HNE := Lib.hid hne
    have hwz := hst.be.size
    clear hml hst hne
    by_cases hiL : i < L
    · have hin : i < nn.length := by rw [HL.out]; exact hiL
      obtain ⟨b2, o2, e2, hb2l, n0, n1⟩ := mvs_cell (HNE.out.sl fE_len (by rw [mvs_len, HL.out])) hin
      obtain ⟨x, hx⟩ : ∃ z, nn[i] = z := ⟨_, rfl⟩
      have HXI := Lib.hid (show nn[i]? = some x by rw [List.getElem?_eq_getElem hin, hx])
      have HXS := Lib.hid (show x ∈ nn by rw [← hx]; exact List.getElem_mem hin)
      have HXM := Lib.hid (HNM.out x HXS.out)
      rw [hx] at n0 n1
      obtain ⟨x0, hx0⟩ : ∃ z, (moveE (x : Int)).rail = z := ⟨_, rfl⟩
      obtain ⟨x1, hx1⟩ : ∃ z, (moveE (x : Int)).last = z := ⟨_, rfl⟩
      have HMX := Lib.hid (show moveE (x : Int) = ⟨x0, x1⟩ by rw [← hx0, ← hx1])
      rw [hx0] at n0
      rw [hx1] at n1
      subst e2
      have i0 : (0 : Int) ≤ (i : Int) := by omega
      have i1 : (i : Int) < (L : Int) := by omega
      clear hx hx0 hx1
      go_wp2
      go_loopw [11, 12] (fun s11 s12 w2 => ∃ k : Nat, k ≤ lq + 1 ∧ s12 = .int .i64 (k : Int) ∧ s11 = .bool (decide (x ∈ q.take k)) ∧ Below wb.heap.size wb w2) (fun _ s12 _ => lq + 1 - (intOf s12).toNat)
      case atStart => exact ⟨0, Nat.zero_le _, rfl, by simp, Below.refl _ _⟩
      case round =>
        obtain ⟨k, hk, rfl, rfl, hb⟩ := hrel
        have hw0 : Below W0.heap.size W0 wr := HST.out.be.trans (hb.mono hwz)
        have HB := Lib.hid hb; have HW0 := Lib.hid hw0
        by_cases hkl : k < lq + 1
        · have hkq : k < q.length := by rw [HLQ.out]; exact hkl
          obtain ⟨b3, o3, e3, hb3l, m0, m1⟩ := mvs_cell (HSW.out _ hw0) hkq
          obtain ⟨rfl, rfl⟩ : b1 = b3 ∧ o1 = o3 := by simpa using e3
          obtain ⟨z, hz⟩ : ∃ z, q[k] = z := ⟨_, rfl⟩
          have HTK := Lib.hid (show decide (x ∈ q.take (k + 1)) = (decide (x ∈ q.take k) || decide (x = z)) by
            rw [List.take_succ_eq_append_getElem hkq, hz]
            simp [Bool.decide_or])
          rw [hz] at m0 m1
          obtain ⟨z0, hz0'⟩ : ∃ y, (moveE (z : Int)).rail = y := ⟨_, rfl⟩
          obtain ⟨z1, hz1'⟩ : ∃ y, (moveE (z : Int)).last = y := ⟨_, rfl⟩
          have HMZ := Lib.hid (move_ne HMX.out (show moveE (z : Int) = ⟨z0, z1⟩ by rw [← hz0', ← hz1']))
          rw [hz0'] at m0
          rw [hz1'] at m1
          have n0' := (hb.cell (p := ⟨b2, o2 + i * 2, none⟩) hb2l).trans n0
          have n1' := (hb.cell (p := ⟨b2, o2 + i * 2 + 1, none⟩) hb2l).trans n1
          obtain ⟨bb, hbb⟩ : ∃ y, decide (x ∈ q.take k) = y := ⟨_, rfl⟩
          rw [hbb] at HTK ⊢
          have k0 : (0 : Int) ≤ (k : Int) := by omega
          have k1 : (k : Int) < (lq : Int) + 1 := by omega
          clear hz hz0' hz1' hbb hb hw0 n0 n1 e3
          cases bb with
          | true =>
            go_wp2
            go_quiet (fail)
            go_wp2
            go_roundw
            case rel => exact ⟨k + 1, by omega, by go_num, by rw [HTK.out]; rfl, bDrewN HB.out _⟩
            case measure => simp [intOf]; omega
          | false =>
            by_cases hxz : x = z
            · have HV := Lib.hid (show decide (x ∈ q.take (k + 1)) = true by rw [HTK.out]; simp [hxz])
              obtain ⟨rfl, rfl⟩ := HMZ.out.1 hxz
              clear hxz
              go_wp2
              go_quiet (fail)
              go_wp2
              go_roundw
              case rel => exact ⟨k + 1, by omega, by go_num, by rw [HV.out], bDrewN HB.out _⟩
              case measure => simp [intOf]; omega
            · have HV := Lib.hid (show decide (x ∈ q.take (k + 1)) = false by rw [HTK.out]; simp [hxz])
              have HXZ := Lib.hid hxz
              clear hxz
              by_cases hz0x : z0 = x0
              · subst hz0x
                have hcz : ¬ z1 = x1 := fun e2 => HXZ.out (HMZ.out.2 ⟨rfl, e2.symm⟩)
                have hczb : (z1 == x1) = false := by rw [beq_eq_false_iff_ne]; exact hcz
                go_wp2
                go_quiet (fail)
                go_wp2
                go_roundw
                case rel => exact ⟨k + 1, by omega, by go_num, by rw [HV.out], bDrewN HB.out _⟩
                case measure => simp [intOf]; omega
              · have hczb : (z0 == x0) = false := by rw [beq_eq_false_iff_ne]; exact hz0x
                go_wp2
                go_quiet (fail)
                go_wp2
                go_roundw
                case rel => exact ⟨k + 1, by omega, by go_num, by rw [HV.out], bDrewN HB.out _⟩
                case measure => simp [intOf]; omega
        · have hk1 : k = lq + 1 := by omega
          have hkz : ¬ (k : Int) < (lq : Int) + 1 := by omega
          have htk : q.take k = q := List.take_of_length_le (by rw [hk1, HLQ.out]; exact Nat.le_refl _)
          rw [htk]
          have HST2 := Lib.hid (HST.out.below hb hwz)
          have HNE2 := Lib.hid (HNE.out.below hb (Nat.le_refl _))
          have n0' := (hb.cell (p := ⟨b2, o2 + i * 2, none⟩) hb2l).trans n0
          have n1' := (hb.cell (p := ⟨b2, o2 + i * 2 + 1, none⟩) hb2l).trans n1
          obtain ⟨q0, q1, m0, m1, l0', l1', _, _, _⟩ := HST0.out.next hw0
          clear hk1 htk hb hw0 hk
          by_cases hxq : x ∈ q
          · rw [decide_eq_true hxq]
            have HV := Lib.hid (HKS.out i x HXI.out (.inr hxq))
            clear hxq
            go_wp2
            go_roundw
            case rel => exact ⟨i + 1, _, ml, by omega, by go_num, rfl, by rw [HV.out]; exact HML.out, HST2.out, HNE2.out⟩
            case measure => simp [intOf]; omega
          · rw [decide_eq_false hxq]
            have HXN := Lib.hid hxq
            have HXQ := Lib.hid (show mvs q ++ [(⟨x0, x1⟩ : E)] = mvs (q ++ [x]) by rw [mvs_app]; simp [mvs, zs, HMX.out])
            go_upto_region 15 with (fail)
            obtain ⟨W2, rfl⟩ : ∃ z, z = wr := ⟨_, rfl⟩
            have hwz2 := HST2.out.be.size
            have HKW := Lib.hid (show ∀ wq, Below W0.heap.size W0 wq → Own wq W0.heap.size 27 2 fE (.slice (some ⟨b2, o2, none⟩) L cn) (mvs nn) → S15 w.heap.size A p.nodes.length c A2 p.rails.length c2 y0 y1 b2 o2 i x0 x1 wq from fun wq hb hne => by
              obtain ⟨q0, q1, m0, m1, l0', l1', _, _, _⟩ := HST0.out.next hb
              obtain ⟨b2', o2', e2, _, n0, n1⟩ := mvs_cell (hne.sl fE_len (by rw [mvs_len, HL.out])) hin
              obtain ⟨rfl, rfl⟩ : b2 = b2' ∧ o2 = o2' := by simpa using e2
              have hx : nn[i] = x := by have := HXI.out; rw [List.getElem?_eq_getElem hin] at this; exact Option.some.inj this
              rw [hx, HMX.out] at n0 n1
              exact ⟨q0, q1, m0, m1, n0, n1⟩)
            have HKK := Lib.hid (show ∀ wq, Below W2.heap.size W2 wq → S15 w.heap.size A p.nodes.length c A2 p.rails.length c2 y0 y1 b2 o2 i x0 x1 wq from fun wq hb => HKW.out _ (HST2.out.be.trans (hb.mono hwz2)) (HNE2.out.below hb (Nat.le_refl _)))
            have hbq : Below W2.heap.size W2 W2.drew := (Below.refl _ _).drew
            have HS := Lib.hid (HKK.out _ hbq)
            clear q0 q1 m0 m1 l0' l1' n0 n1 n0' n1' hxq
            refine wp_region_held_drew (S := S15 w.heap.size A p.nodes.length c A2 p.rails.length c2 y0 y1 b2 o2 i x0 x1) (by kernel_rfl) HS.out (fun _ => ?_)
            generalize W2.drew = wd at *
            refine hTake (i := 0) (d := 61) (v := v8) rfl rfl (by kernel_rfl) (by kernel_rfl) (by kernel_rfl) (fun _ _ _ h => h) (Or.inl ⟨rfl, ?gr⟩) HS.out ?_
            case gr =>
              rintro W' ⟨s0, s1, s2, s3, s4, s5⟩
              go_simp
            simp only [Act.put, List.setIfInBounds_toArray, List.set_cons_zero, List.set_cons_succ]
            refine hTake (i := 1) (d := 62) (v := .agg #[.slice A p.nodes.length c, .slice A2 p.rails.length c2]) rfl rfl (by kernel_rfl) (by kernel_rfl) (by kernel_rfl) (fun _ _ _ h => h) (Or.inl ⟨rfl, ?gr⟩) HS.out ?_
            case gr =>
              rintro W' ⟨s0, s1, s2, s3, s4, s5⟩
              go_simp
            simp only [Act.put, List.setIfInBounds_toArray, List.set_cons_zero, List.set_cons_succ]
            refine hTake (i := 2) (d := 63) (v := .slice (some ⟨b1, o1, none⟩) (lq + 1) c3) rfl rfl (by kernel_rfl) (by kernel_rfl) (by kernel_rfl) (fun _ _ _ h => h) (Or.inl ⟨rfl, ?gr⟩) HS.out ?_
            case gr =>
              rintro W' ⟨s0, s1, s2, s3, s4, s5⟩
              go_simp
            simp only [Act.put, List.setIfInBounds_toArray, List.set_cons_zero, List.set_cons_succ]
            refine hTake (i := 4) (d := 65) (v := .slice (some ⟨b2, o2, none⟩) L cn) rfl rfl (by kernel_rfl) (by kernel_rfl) (by kernel_rfl) (fun _ _ _ h => h) (Or.inl ⟨rfl, ?gr⟩) HS.out ?_
            case gr =>
              rintro W' ⟨s0, s1, s2, s3, s4, s5⟩
              go_simp
            simp only [Act.put, List.setIfInBounds_toArray, List.set_cons_zero, List.set_cons_succ]
            refine hTake (i := 5) (d := 66) (v := .int .i64 (i : Int)) rfl rfl (by kernel_rfl) (by kernel_rfl) (by kernel_rfl) (fun _ _ _ h => h) (Or.inl ⟨rfl, ?gr⟩) HS.out ?_
            case gr =>
              rintro W' ⟨s0, s1, s2, s3, s4, s5⟩
              go_simp
            simp only [Act.put, List.setIfInBounds_toArray, List.set_cons_zero, List.set_cons_succ]
            refine hTake (i := 6) (d := 67) (v := .pointer (some ⟨b2, o2 + i * 2, none⟩)) rfl rfl (by kernel_rfl) (by kernel_rfl) (by kernel_rfl) (fun _ _ _ h => h) (Or.inl ⟨rfl, ?gr⟩) HS.out ?_
            case gr =>
              rintro W' ⟨s0, s1, s2, s3, s4, s5⟩
              go_simp
            simp only [Act.put, List.setIfInBounds_toArray, List.set_cons_zero, List.set_cons_succ]
            refine hTake (i := 7) (d := 68) (v := .agg #[.int .i64 x0, .bool x1]) rfl rfl (by kernel_rfl) (by kernel_rfl) (by kernel_rfl) (fun _ _ _ h => h) (Or.inl ⟨rfl, ?gr⟩) HS.out ?_
            case gr =>
              rintro W' ⟨s0, s1, s2, s3, s4, s5⟩
              go_simp
            simp only [Act.put, List.setIfInBounds_toArray, List.set_cons_zero, List.set_cons_succ]
            refine hTake (i := 10) (d := 71) (v := .agg #[.int .i64 y0, .bool y1]) rfl rfl (by kernel_rfl) (by kernel_rfl) (by kernel_rfl) (fun _ _ _ h => h) (Or.inl ⟨rfl, ?gr⟩) HS.out ?_
            case gr =>
              rintro W' ⟨s0, s1, s2, s3, s4, s5⟩
              go_simp
            simp only [Act.put, List.setIfInBounds_toArray, List.set_cons_zero, List.set_cons_succ]
            refine wpAnyH_ready (rs := [3, 8]) (by kernel_rfl) (by simp) ?_
            refine AllReadyH.cons rfl (fun K hK => ?_) (AllReadyH.cons rfl (fun K hK => ?_) AllReadyH.nil)
            · rw [if_pos (by rfl)]
              refine wp_app _ _ _ _ rfl W2.heap.size 27 i27 _ 2 16 Tryz.underlying31 hi27 hz70 hz71 hz72 rfl (by omega) fE_len fE_one (.slice none 0 0) [] rfl (Own.nil _ _ _ _ _) _ (some ⟨b1, o1, none⟩) (mvs q) c3 (by rw [mvs_len, HLQ.out]; rfl) (HSW.out _ (HST2.out.be.trans (hbq.mono hwz2))) (by rw [mvs_len, HLQ.out]; unfold maxLen; simp only [List.length_nil]; omega) (by rw [mvs_len, HLQ.out]; simp only [List.length_nil]; omega) hbq.size (fun _ => .inr ⟨_, rfl⟩) ?_
              intro v1 w1 ow1 gr1 at1 ne1
              replace hbq := hbq.grown gr1 hbq.size (fun b hb => by simp [Value.ownBlock] at hb)
              have HS := Lib.hid (HKK.out _ hbq)
              clear gr1 at1 ne1
              refine hK.out _ _ HS.out (fun _ => ?_)
              clear hK K
              try simp only [Act.put, List.setIfInBounds_toArray, List.set_cons_zero, List.set_cons_succ]
              refine wpAnyH_ready (rs := [8]) (by kernel_rfl) (by simp) ?_
              refine AllReadyH.cons rfl (fun K hK => ?_) AllReadyH.nil
              rw [if_pos (by rfl)]
              go_simp
              have hal : Below w1.heap.size w1 (w1.alloc (.cells #[.int .i64 x0, .bool x1] 27)) := (Below.refl _ _).alloc (Nat.le_refl _) _
              have hsb : Sl (w1.alloc (.cells #[.int .i64 x0, .bool x1] 27)) (w1.alloc (.cells #[.int .i64 x0, .bool x1] 27)).heap.size 2 (fun x cs => cs = fE x) (some ⟨w1.heap.size, 0, none⟩) [(⟨x0, x1⟩ : E)] := (Sl.new (f := fE) (size := 2) w1 27 (⟨x0, x1⟩ : E) #[.int .i64 x0, .bool x1] rfl).more (fun _ _ h => h) (by simp)
              replace ow1 := ow1.alloc (.cells #[.int .i64 x0, .bool x1] 27)
              replace hbq := hbq.trans (hal.mono hbq.size)
              have HS := Lib.hid (HKK.out _ hbq)
              clear hal
              refine hK.out _ _ HS.out (fun _ => ?_)
              clear hK K
              try simp only [Act.put, List.setIfInBounds_toArray, List.set_cons_zero, List.set_cons_succ]
              refine wpAnyH_ready (rs := [9]) (by kernel_rfl) (by simp) ?_
              refine AllReadyH.cons rfl (fun K hK => ?_) AllReadyH.nil
              rw [if_pos (by rfl)]
              refine wp_app _ _ _ _ rfl W2.heap.size 27 i27 _ 2 16 Tryz.underlying31 hi27 hz70 hz71 hz72 rfl (by omega) fE_len fE_one v1 _ rfl ow1 _ _ [(⟨x0, x1⟩ : E)] 1 rfl hsb (by rw [List.nil_append, mvs_len, HLQ.out]; unfold maxLen; simp only [List.length_cons, List.length_nil]; omega) (by rw [List.nil_append, mvs_len, HLQ.out]; simp only [List.length_cons, List.length_nil]; omega) hbq.size (fun _ => .inr ⟨_, rfl⟩) ?_
              intro v2 w2 ow2 gr2 at2 ne2
              replace hbq := hbq.grown gr2 hbq.size (fun b hb => (ow1.lt b hb).1)
              have HS := Lib.hid (HKK.out _ hbq)
              rw [List.nil_append, HXQ.out] at ow2
              obtain ⟨A4, c4, hv2⟩ : ∃ A4 c4, v2 = .slice A4 (lq + 1 + 1) c4 := by
                obtain ⟨A4, c4, h, _, _, _⟩ := ow2.form
                exact ⟨A4, c4, by rw [h, mvs_len, List.length_append, HLQ.out]; rfl⟩
              subst hv2
              have hs2 : Sl w2 w2.heap.size 2 CE A4 (mvs (q ++ [x])) := ow2.sl fE_len (by rw [mvs_len, List.length_append, HLQ.out]; rfl)
              clear gr2 at2 ne2 hsb ow1 ow2
              refine hK.out _ _ HS.out (fun _ => ?_)
              clear hK K
              try simp only [Act.put, List.setIfInBounds_toArray, List.set_cons_zero, List.set_cons_succ]
              refine wpAnyH_ready (rs := [11]) (by kernel_rfl) (by simp) ?_
              refine AllReadyH.cons rfl (fun K hK => ?_) AllReadyH.nil
              rw [if_pos (by rfl)]
              go_simp
              go_at_call 67
              (with_reducible refine (HR.out x HXM.out HXN.out HXS.out A4 c4 _ (HPW.out _ (HST2.out.be.trans (hbq.mono hwz2))) hs2).mono ?_)
              rintro e w3 ⟨v3, ml3, rfl, ow3, mr3, hl3, hb3⟩
              obtain ⟨A5, c5, rfl, _, _, _⟩ := ow3.form
              replace hbq := hbq.trans (hb3.mono hbq.size)
              have HS := Lib.hid (HKK.out _ hbq)
              clear hb3 hs2
              refine hK.out _ _ HS.out (fun _ => ?_)
              clear hK K
              try simp only [Act.put, List.setIfInBounds_toArray, List.set_cons_zero, List.set_cons_succ]
              refine wpAnyH_ready (rs := [12]) (by kernel_rfl) (by simp) ?_
              refine AllReadyH.cons rfl (fun K hK => ?_) AllReadyH.nil
              rw [if_pos (by rfl)]
              have hst3 := HST2.out.below hbq hwz2
              have hl1 : ml.length ≤ 131072 := by have h5 := HKL.out i; rw [← HML.out, List.length_map] at h5; exact h5
              have hl2 : ml3.length ≤ 131072 := by have h5 := HLL.out x (q ++ [x]); rw [← hl3, List.length_map] at h5; exact h5
              refine wp_app _ _ _ _ rfl W0.heap.size 31 i31 _ 1 24 Tryz.underlying53 hi31 hz10 hz11 hz12 rfl (by omega) fW_len fW_one v8 ml rfl hst3.ow _ A5 ml3 c5 rfl (ow3.sl fW_len rfl) (by unfold maxLen; omega) (by omega) (by have := hbq.size; omega) (fun h => by cases A5 with | none => exact .inl rfl | some a => exact .inr ⟨_, rfl⟩) ?_
              intro v9 w9 ow9 gr9 at9 ne9
              obtain ⟨hst9, hk9⟩ := hst3.grown mr3 ow9 gr9 (by have := hbq.size; omega)
              have hne9 := own_kp27 (HNE2.out.below hbq (Nat.le_refl _)) hk9 (by simp)
              have HS := Lib.hid (HKW.out _ hst9.be hne9)
              have hml9 : (ml ++ ml3).map W3.l = onK (nxN p) t n q u (i + 1) := by rw [List.map_append, HML.out, hl3, HKM.out i x HXI.out HUT.out HXN.out]
              clear hst3 hl1 hl2 gr9 at9 ne9 hk9 ow9
              refine hK.out _ _ HS.out (fun _ => ?_)
              clear hK K
              try simp only [Act.put, List.setIfInBounds_toArray, List.set_cons_zero, List.set_cons_succ]
              refine hTake (i := 13) (d := 8) (v := v9) rfl rfl (by kernel_rfl) (by kernel_rfl) (by kernel_rfl) (fun _ _ _ h => h) (Or.inl ⟨rfl, ?gr⟩) HS.out ?_
              case gr =>
                rintro W' ⟨s0, s1, s2, s3, s4, s5⟩
                go_simp
              simp only [Act.put, List.setIfInBounds_toArray, List.set_cons_zero, List.set_cons_succ]
              refine wpAnyH_done (by kernel_rfl) ?_ _
              go_wp2_with fail
              go_roundw
              case rel => exact ⟨i + 1, _, ml ++ ml3, by omega, by go_num, rfl, hml9, hst9, hne9⟩
              case measure => simp [intOf]; omega
            · rw [if_pos (by rfl)]
              go_simp
              have hal : Below wd.heap.size wd (wd.alloc (.cells #[.int .i64 x0, .bool x1] 27)) := (Below.refl _ _).alloc (Nat.le_refl _) _
              have hsb : Sl (wd.alloc (.cells #[.int .i64 x0, .bool x1] 27)) (wd.alloc (.cells #[.int .i64 x0, .bool x1] 27)).heap.size 2 (fun x cs => cs = fE x) (some ⟨wd.heap.size, 0, none⟩) [(⟨x0, x1⟩ : E)] := (Sl.new (f := fE) (size := 2) wd 27 (⟨x0, x1⟩ : E) #[.int .i64 x0, .bool x1] rfl).more (fun _ _ h => h) (by simp)
              replace hbq := hbq.trans (hal.mono hbq.size)
              have HS := Lib.hid (HKK.out _ hbq)
              clear hal
              refine hK.out _ _ HS.out (fun _ => ?_)
              clear hK K
              try simp only [Act.put, List.setIfInBounds_toArray, List.set_cons_zero, List.set_cons_succ]
              refine wpAnyH_ready (rs := [3]) (by kernel_rfl) (by simp) ?_
              refine AllReadyH.cons rfl (fun K hK => ?_) AllReadyH.nil
              rw [if_pos (by rfl)]
              refine wp_app _ _ _ _ rfl W2.heap.size 27 i27 _ 2 16 Tryz.underlying31 hi27 hz70 hz71 hz72 rfl (by omega) fE_len fE_one (.slice none 0 0) [] rfl (Own.nil _ _ _ _ _) _ (some ⟨b1, o1, none⟩) (mvs q) c3 (by rw [mvs_len, HLQ.out]; rfl) (HSW.out _ (HST2.out.be.trans (hbq.mono hwz2))) (by rw [mvs_len, HLQ.out]; unfold maxLen; simp only [List.length_nil]; omega) (by rw [mvs_len, HLQ.out]; simp only [List.length_nil]; omega) hbq.size (fun _ => .inr ⟨_, rfl⟩) ?_
              intro v1 w1 ow1 gr1 at1 ne1
              replace hsb := hsb.below ((Below.refl _ _).grown gr1 (Nat.le_refl _) (fun b hb => by simp [Value.ownBlock] at hb))
              replace hbq := hbq.grown gr1 hbq.size (fun b hb => by simp [Value.ownBlock] at hb)
              have HS := Lib.hid (HKK.out _ hbq)
              clear gr1 at1 ne1
              refine hK.out _ _ HS.out (fun _ => ?_)
              clear hK K
              try simp only [Act.put, List.setIfInBounds_toArray, List.set_cons_zero, List.set_cons_succ]
              refine wpAnyH_ready (rs := [9]) (by kernel_rfl) (by simp) ?_
              refine AllReadyH.cons rfl (fun K hK => ?_) AllReadyH.nil
              rw [if_pos (by rfl)]
              refine wp_app _ _ _ _ rfl W2.heap.size 27 i27 _ 2 16 Tryz.underlying31 hi27 hz70 hz71 hz72 rfl (by omega) fE_len fE_one v1 _ rfl ow1 _ _ [(⟨x0, x1⟩ : E)] 1 rfl hsb (by rw [List.nil_append, mvs_len, HLQ.out]; unfold maxLen; simp only [List.length_cons, List.length_nil]; omega) (by rw [List.nil_append, mvs_len, HLQ.out]; simp only [List.length_cons, List.length_nil]; omega) hbq.size (fun _ => .inr ⟨_, rfl⟩) ?_
              intro v2 w2 ow2 gr2 at2 ne2
              replace hbq := hbq.grown gr2 hbq.size (fun b hb => (ow1.lt b hb).1)
              have HS := Lib.hid (HKK.out _ hbq)
              rw [List.nil_append, HXQ.out] at ow2
              obtain ⟨A4, c4, hv2⟩ : ∃ A4 c4, v2 = .slice A4 (lq + 1 + 1) c4 := by
                obtain ⟨A4, c4, h, _, _, _⟩ := ow2.form
                exact ⟨A4, c4, by rw [h, mvs_len, List.length_append, HLQ.out]; rfl⟩
              subst hv2
              have hs2 : Sl w2 w2.heap.size 2 CE A4 (mvs (q ++ [x])) := ow2.sl fE_len (by rw [mvs_len, List.length_append, HLQ.out]; rfl)
              clear gr2 at2 ne2 hsb ow1 ow2
              refine hK.out _ _ HS.out (fun _ => ?_)
              clear hK K
              try simp only [Act.put, List.setIfInBounds_toArray, List.set_cons_zero, List.set_cons_succ]
              refine wpAnyH_ready (rs := [11]) (by kernel_rfl) (by simp) ?_
              refine AllReadyH.cons rfl (fun K hK => ?_) AllReadyH.nil
              rw [if_pos (by rfl)]
              go_simp
              go_at_call 67
              (with_reducible refine (HR.out x HXM.out HXN.out HXS.out A4 c4 _ (HPW.out _ (HST2.out.be.trans (hbq.mono hwz2))) hs2).mono ?_)
              rintro e w3 ⟨v3, ml3, rfl, ow3, mr3, hl3, hb3⟩
              obtain ⟨A5, c5, rfl, _, _, _⟩ := ow3.form
              replace hbq := hbq.trans (hb3.mono hbq.size)
              have HS := Lib.hid (HKK.out _ hbq)
              clear hb3 hs2
              refine hK.out _ _ HS.out (fun _ => ?_)
              clear hK K
              try simp only [Act.put, List.setIfInBounds_toArray, List.set_cons_zero, List.set_cons_succ]
              refine wpAnyH_ready (rs := [12]) (by kernel_rfl) (by simp) ?_
              refine AllReadyH.cons rfl (fun K hK => ?_) AllReadyH.nil
              rw [if_pos (by rfl)]
              have hst3 := HST2.out.below hbq hwz2
              have hl1 : ml.length ≤ 131072 := by have h5 := HKL.out i; rw [← HML.out, List.length_map] at h5; exact h5
              have hl2 : ml3.length ≤ 131072 := by have h5 := HLL.out x (q ++ [x]); rw [← hl3, List.length_map] at h5; exact h5
              refine wp_app _ _ _ _ rfl W0.heap.size 31 i31 _ 1 24 Tryz.underlying53 hi31 hz10 hz11 hz12 rfl (by omega) fW_len fW_one v8 ml rfl hst3.ow _ A5 ml3 c5 rfl (ow3.sl fW_len rfl) (by unfold maxLen; omega) (by omega) (by have := hbq.size; omega) (fun h => by cases A5 with | none => exact .inl rfl | some a => exact .inr ⟨_, rfl⟩) ?_
              intro v9 w9 ow9 gr9 at9 ne9
              obtain ⟨hst9, hk9⟩ := hst3.grown mr3 ow9 gr9 (by have := hbq.size; omega)
              have hne9 := own_kp27 (HNE2.out.below hbq (Nat.le_refl _)) hk9 (by simp)
              have HS := Lib.hid (HKW.out _ hst9.be hne9)
              have hml9 : (ml ++ ml3).map W3.l = onK (nxN p) t n q u (i + 1) := by rw [List.map_append, HML.out, hl3, HKM.out i x HXI.out HUT.out HXN.out]
              clear hst3 hl1 hl2 gr9 at9 ne9 hk9 ow9
              refine hK.out _ _ HS.out (fun _ => ?_)
              clear hK K
              try simp only [Act.put, List.setIfInBounds_toArray, List.set_cons_zero, List.set_cons_succ]
              refine hTake (i := 13) (d := 8) (v := v9) rfl rfl (by kernel_rfl) (by kernel_rfl) (by kernel_rfl) (fun _ _ _ h => h) (Or.inl ⟨rfl, ?gr⟩) HS.out ?_
              case gr =>
                rintro W' ⟨s0, s1, s2, s3, s4, s5⟩
                go_simp
              simp only [Act.put, List.setIfInBounds_toArray, List.set_cons_zero, List.set_cons_succ]
              refine wpAnyH_done (by kernel_rfl) ?_ _
              go_wp2_with fail
              go_roundw
              case rel => exact ⟨i + 1, _, ml ++ ml3, by omega, by go_num, rfl, hml9, hst9, hne9⟩
              case measure => simp [intOf]; omega
    · obtain rfl : i = L := by omega
      have hz : ¬ (i : Int) < (i : Int) := by omega
      have HV := Lib.hid (HKA.out i HL.out)
      go_wp2_with fail
      go_ret
      exact ⟨_, ml, rfl, HST.out.ow.lower (by omega), HST.out.mr, by rw [← HV.out]; exact HML.out, HB0.out.trans (HST.out.be.mono (by omega))⟩

set_option maxRecDepth 100000 in
set_option maxHeartbeats 4000000 in
theorem On_hit (A A2 : Option Addr) (b1 o1 c c2 c3 M n t u lq : Nat) (p : Pl) (q : List Nat) (w : World) (H : OIn A A2 b1 o1 c c2 M n t u lq p q w) (hut : u = t)
    (hR : ∀ x, x < M → x ∉ q → x ∈ nxN p u → ∀ (A4 : Option Addr) (c4 : Nat) (wx : World), PlAt wx wx.heap.size A c A2 c2 p → Sl wx wx.heap.size 2 CE A4 (mvs (q ++ [x])) →
      Calls Tryz.prog 67 #[.agg #[.slice A p.nodes.length c, .slice A2 p.rails.length c2], .slice A4 (lq + 1 + 1) c4, .agg #[.int .i64 (moveE (t : Int)).rail, .bool (moveE (t : Int)).last]] wx (OnPost (onL (nxN p) t n (q ++ [x]) x) wx)) :
    Calls Tryz.prog 67 #[.agg #[.slice A p.nodes.length c, .slice A2 p.rails.length c2], .slice (some ⟨b1, o1, none⟩) (lq + 1) c3, .agg #[.int .i64 (moveE (t : Int)).rail, .bool (moveE (t : Int)).last]] w (OnPost (onL (nxN p) t (n + 1) q u) w) := by
  obtain ⟨hM, h16, hP, hv, hA, hlq, hq16, hqm, hu, ht, hn⟩ := H
  have hnet := plan_net hv hM
  obtain ⟨hul, hue⟩ := List.getElem?_eq_some_iff.1 hu
  have huM : u < M := by rw [← hue]; exact hqm _ (List.getElem_mem hul)
  have h2 : ∀ u, (nxN p u).length ≤ 2 := nxN_len p
  obtain ⟨i27, hi27, hz70, hz71, hz72⟩ := info_parts info27
  obtain ⟨i31, hi31, hz10, hz11, hz12⟩ := info_parts inf31
  have hpow : 2 ^ (n + 1) ≤ 131072 := by have := Nat.pow_le_pow_right (show 0 < 2 by omega) (show n + 1 ≤ 17 by omega); simpa using this
  have HKL := Lib.hid (show ∀ i, (onK (nxN p) t n q u i).length ≤ 131072 from fun i => Nat.le_trans (onK_len h2 i) hpow)
  have HLL := Lib.hid (show ∀ y q', (onL (nxN p) t n q' y).length ≤ 131072 from fun y q' => Nat.le_trans (Nat.le_trans (onL_len h2 n q' y) (Nat.pow_le_pow_right (by omega) (Nat.le_succ n))) hpow)
  have hnm := next_mvs hv (show u < 2 * p.rails.length by omega)
  obtain ⟨nn, hnn⟩ : ∃ z, nxN p u = z := ⟨_, rfl⟩
  have hnnM : ∀ x ∈ nn, x < M := fun x hx => by rw [← hnn] at hx; exact hnet.nb u huM x hx
  have hnn2 : nn.length ≤ 2 := by rw [← hnn]; exact h2 u
  rw [hnn] at hnm hR
  have HKA := Lib.hid (show ∀ i, nn.length = i → onK (nxN p) t n q u i = onL (nxN p) t (n + 1) q u from fun i h => onK_all (by rw [hnn]; exact h))
  have HKS := Lib.hid (show ∀ i x, nn[i]? = some x → (u = t ∨ x ∈ q) → onK (nxN p) t n q u (i + 1) = onK (nxN p) t n q u i from fun i x h h' => onK_skip (by rw [hnn]; exact h) h')
  have HKM := Lib.hid (show ∀ i x, nn[i]? = some x → u ≠ t → x ∉ q → onK (nxN p) t n q u (i + 1) = onK (nxN p) t n q u i ++ onL (nxN p) t n (q ++ [x]) x from fun i x h h' h3 => onK_more (by rw [hnn]; exact h) h' h3)
  have HK0 := Lib.hid (show ∀ i, onK (nxN p) t n q u i = [q] from onK_at hut)
  obtain ⟨L, hL⟩ : ∃ z, nn.length = z := ⟨_, rfl⟩
  have HL := Lib.hid hL
  obtain ⟨x6, hx6⟩ : ∃ z, (moveE (u : Int)).rail = z := ⟨_, rfl⟩
  obtain ⟨x7, hx7⟩ : ∃ z, (moveE (u : Int)).last = z := ⟨_, rfl⟩
  obtain ⟨y0, hy0⟩ : ∃ z, (moveE (t : Int)).rail = z := ⟨_, rfl⟩
  obtain ⟨y1, hy1⟩ : ∃ z, (moveE (t : Int)).last = z := ⟨_, rfl⟩
  have hmu : moveE (u : Int) = ⟨x6, x7⟩ := by rw [← hx6, ← hx7]
  have hmt : moveE (t : Int) = ⟨y0, y1⟩ := by rw [← hy0, ← hy1]
  obtain ⟨e6, e7⟩ : x6 = y0 ∧ x7 = y1 := (move_ne hmu hmt).1 hut
  subst e6; subst e7
  rw [hy0, hy1] at hR ⊢
  obtain ⟨b1', o1', e1, hb1l, u0, u1⟩ := mvs_cell hA hul
  obtain ⟨rfl, rfl⟩ : b1 = b1' ∧ o1 = o1' := by simpa using e1
  rw [hue] at u0 u1
  rw [hx6] at u0
  rw [hx7] at u1
  have HST0 := Lib.hid (G3st.start (⟨x6, x7⟩ : E) (⟨x6, x7⟩ : E) hP)
  obtain ⟨W0, hW0⟩ : ∃ z, (((w.alloc (.cells #[.slice A p.nodes.length c, .slice A2 p.rails.length c2] 25)).alloc (.cells #[.int .i64 x6, .bool x7] 27)).alloc (.cells #[.int .i64 x6, .bool x7] 27)) = z := ⟨_, rfl⟩
  have hz0 : (((w.alloc (.cells #[.slice A p.nodes.length c, .slice A2 p.rails.length c2] 25)).alloc (.cells #[.int .i64 x6, .bool x7] 27)).alloc (.cells #[.int .i64 x6, .bool x7] 27)).heap.size = w.heap.size + 1 + 1 + 1 := by simp
  rw [hW0] at HST0 hz0
  have hb0 := HST0.out.be
  have HSW := Lib.hid (show ∀ wx, Below W0.heap.size W0 wx → Sl wx wx.heap.size 2 CE (some ⟨b1, o1, none⟩) (mvs q) from fun wx hb => (hA.below (hb0.trans (hb.mono (by omega)))).more (fun _ _ h => h) (by have := hb.size; omega))
  have HPW := Lib.hid (show ∀ wx, Below W0.heap.size W0 wx → PlAt wx wx.heap.size A c A2 c2 p from fun wx hb => (hP.below (hb0.trans (hb.mono (by omega)))).more (by have := hb.size; omega))
  have HC65 := Lib.hid (show ∀ wx : World, PlAt wx wx.heap.size A c A2 c2 p → Calls Tryz.prog 65 #[.agg #[.slice A p.nodes.length c, .slice A2 p.rails.length c2], .agg #[.int .i64 x6, .bool x7]] wx fun e w' => (∃ v, e = .returned v ∧ Own w' wx.heap.size 27 2 fE v (mvs nn)) ∧ Below wx.heap.size wx w' from fun wx hp => by
    have := rNext_any A A2 c c2 p (moveE (u : Int)) wx hp hv (moveE_in (by omega))
    rw [keyE_moveU, hnm, hmu] at this
    exact this)
  have HR := Lib.hid hR; have HB0 := Lib.hid hb0; have HLQ := Lib.hid hlq; have HQM := Lib.hid hqm; have HNM := Lib.hid hnnM; have HUT := Lib.hid hut
  clear hR hnm hnnM hu hue hul hP hv hA hlq hqm hnet h2 hpow hx6 hx7 hy0 hy1 hmu hmt hnn hL huM ht hM e1 hut
  have w1' : (lq : Int) + 1 - 1 = (lq : Int) := by omega
  have w2' : IntKind.i64.wrap (lq : Int) = (lq : Int) := by rw [IntKind.wrap_i64]; omega
  have l0 : (0 : Int) ≤ (lq : Int) := by omega
  have l1 : (lq : Int) < (lq : Int) + 1 := by omega
  obtain ⟨k0, k1, m0, m1, n0, n1, _, _, hz2⟩ := HST0.out
  go_enter Tryz.func67, Tryz.ntmps67
  go_upto_region 5 with (first
    | (at_builtin; refine wpList_app _ rfl _ _ _ rfl W0.heap.size 27 i27 _ 2 16 Tryz.underlying31 hi27 hz70 hz71 hz72 rfl (by omega) fE_len fE_one (.slice none 0 0) [] rfl (Own.nil _ _ _ _ _) _ (some ⟨b1, o1, none⟩) (mvs q) c3 (by rw [mvs_len, HLQ.out]; rfl) (HSW.out _ (Below.refl _ _)) (by rw [mvs_len, HLQ.out]; unfold maxLen; simp only [List.length_nil]; omega) (by rw [mvs_len, HLQ.out]; simp only [List.length_nil]; omega) (Nat.le_refl _) (fun _ => .inr ⟨_, rfl⟩) ?_
       intro v1 w1 ow1 gr1 at1 ne1
       have hb1 : Below W0.heap.size W0 w1 := (Below.refl _ _).grown gr1 (Nat.le_refl _) (fun b hb => by simp [Value.ownBlock] at hb)
       rw [List.nil_append] at ow1
       obtain ⟨A4, c4, hv1⟩ : ∃ A4 c4, v1 = .slice A4 (lq + 1) c4 := by
         obtain ⟨A4, c4, h, _, _, _⟩ := ow1.form
         exact ⟨A4, c4, by rw [h, mvs_len, HLQ.out]⟩
       subst hv1
       have hmr1 : MR w1 ⟨A4, q, c4⟩ := by
         unfold MR
         rw [HLQ.out]
         exact ow1.lower (Nat.zero_le _)
       have hal : Below w1.heap.size w1 (w1.alloc (.cells #[.slice A4 (lq + 1) c4] 31)) := (Below.refl _ _).alloc (Nat.le_refl _) _
       have hsl : Sl (w1.alloc (.cells #[.slice A4 (lq + 1) c4] 31)) (w1.heap.size + 1) 1 (fun x cs => cs = fW x) (some ⟨w1.heap.size, 0, none⟩) [(⟨A4, q, c4⟩ : W3)] := Sl.new (f := fW) (size := 1) w1 31 (⟨A4, q, c4⟩ : W3) _ (by rw [fW, HLQ.out])
       have HMR := Lib.hid (hmr1.kp (Kp.below [27] hal) (by simp))
       have HBA := Lib.hid (hb1.trans (hal.mono hb1.size))
       have HSL := Lib.hid hsl
       have hz1s := hb1.size
       clear hmr1 hal hsl hb1 ow1 gr1 at1 ne1)
    | (at_builtin; go_must (refine wpList_app _ rfl _ _ _ rfl W0.heap.size 31 i31 _ 1 24 Tryz.underlying53 hi31 hz10 hz11 hz12 rfl (by omega) fW_len fW_one (.slice none 0 0) [] rfl (Own.nil _ _ _ _ _) _ _ [(⟨A4, q, c4⟩ : W3)] 1 rfl HSL.out (by unfold maxLen; simp only [List.length_cons, List.length_nil]; omega) (by simp only [List.length_cons, List.length_nil]; omega) (by simp; omega) (fun _ => .inr ⟨_, rfl⟩) ?_); intro v9 w9 ow9 gr9 at9 ne9))
  rw [List.nil_append] at ow9
  obtain ⟨hst9, _⟩ := MSt.grown (w1 := W0) (S := W0.heap.size) (v := .slice none 0 0) (ml := []) ⟨Own.nil _ _ _ _ _, (fun x hx => by cases hx), HBA.out⟩ (m2 := [(⟨A4, q, c4⟩ : W3)]) (fun x hx => by rw [List.mem_singleton.1 hx]; exact HMR.out) (by rw [List.nil_append]; exact ow9) gr9 (by simp; omega)
  rw [List.nil_append] at hst9
  obtain ⟨q0', q1', m0', m1', n0', n1', _, _, _⟩ := HST0.out.next hst9.be
  have HST9 := Lib.hid hst9
  have hz9 := hst9.be.size
  clear hst9 ow9 gr9 at9 ne9 hW0 hb0 k0 k1 m0 m1 n0 n1
  go_wp2_with fail
  refine (HC65.out _ (HPW.out _ HST9.out.be)).mono ?_
  rintro e w5 ⟨⟨vn, rfl, hown⟩, hb5⟩
  obtain ⟨An, cn, rfl, _, _, _⟩ := hown.form
  rw [mvs_len, HL.out] at hown ⊢
  have HST5 := Lib.hid (HST9.out.below hb5 hz9)
  have HNE := Lib.hid (Own.lower hown (show W0.heap.size ≤ w9.heap.size from hz9))
  clear hown hb5 q0' q1' m0' m1' n0' n1'
  go_wp2
  go_loopw [8, 10] (fun s8 s10 wr => ∃ (i : Nat) (v8 : Value) (ml : List W3), i ≤ L ∧ s10 = .int .i64 (i : Int) ∧ v8 = s8 ∧ ml.map W3.l = onK (nxN p) t n q u i ∧ MSt W0 W0.heap.size wr v8 ml ∧ Own wr W0.heap.size 27 2 fE (.slice An L cn) (mvs nn)) (fun _ s10 _ => L - (intOf s10).toNat)
  case atStart => exact ⟨0, _, [(⟨A4, q, c4⟩ : W3)], Nat.zero_le _, rfl, rfl, (HK0.out 0).symm, HST5.out, HNE.out⟩
  case round =>
    obtain ⟨i, v8, ml, hi, rfl, rfl, hml, hst, hne⟩ := hrel
    obtain ⟨wb, rfl⟩ : ∃ z, z = wr := ⟨_, rfl⟩
    have HML := Lib.hid hml; have HST := Lib.hid hst; have HNE := Lib.hid hne
    have hwz := hst.be.size
    clear hml hst hne
    by_cases hiL : i < L
    · have hin : i < nn.length := by rw [HL.out]; exact hiL
      obtain ⟨b2, o2, e2, hb2l, n0, n1⟩ := mvs_cell (HNE.out.sl fE_len (by rw [mvs_len, HL.out])) hin
      obtain ⟨x, hx⟩ : ∃ z, nn[i] = z := ⟨_, rfl⟩
      have HXI := Lib.hid (show nn[i]? = some x by rw [List.getElem?_eq_getElem hin, hx])
      have HXS := Lib.hid (show x ∈ nn by rw [← hx]; exact List.getElem_mem hin)
      have HXM := Lib.hid (HNM.out x HXS.out)
      rw [hx] at n0 n1
      obtain ⟨x0, hx0⟩ : ∃ z, (moveE (x : Int)).rail = z := ⟨_, rfl⟩
      obtain ⟨x1, hx1⟩ : ∃ z, (moveE (x : Int)).last = z := ⟨_, rfl⟩
      have HMX := Lib.hid (show moveE (x : Int) = ⟨x0, x1⟩ by rw [← hx0, ← hx1])
      rw [hx0] at n0
      rw [hx1] at n1
      subst e2
      have i0 : (0 : Int) ≤ (i : Int) := by omega
      have i1 : (i : Int) < (L : Int) := by omega
      clear hx hx0 hx1
      go_wp2
      go_loopw [11, 12] (fun s11 s12 w2 => ∃ k : Nat, k ≤ lq + 1 ∧ s12 = .int .i64 (k : Int) ∧ s11 = .bool (decide (x ∈ q.take k)) ∧ Below wb.heap.size wb w2) (fun _ s12 _ => lq + 1 - (intOf s12).toNat)
      case atStart => exact ⟨0, Nat.zero_le _, rfl, by simp, Below.refl _ _⟩
      case round =>
        obtain ⟨k, hk, rfl, rfl, hb⟩ := hrel
        have hw0 : Below W0.heap.size W0 wr := HST.out.be.trans (hb.mono hwz)
        have HB := Lib.hid hb; have HW0 := Lib.hid hw0
        by_cases hkl : k < lq + 1
        · have hkq : k < q.length := by rw [HLQ.out]; exact hkl
          obtain ⟨b3, o3, e3, hb3l, m0, m1⟩ := mvs_cell (HSW.out _ hw0) hkq
          obtain ⟨rfl, rfl⟩ : b1 = b3 ∧ o1 = o3 := by simpa using e3
          obtain ⟨z, hz⟩ : ∃ z, q[k] = z := ⟨_, rfl⟩
          have HTK := Lib.hid (show decide (x ∈ q.take (k + 1)) = (decide (x ∈ q.take k) || decide (x = z)) by
            rw [List.take_succ_eq_append_getElem hkq, hz]
            simp [Bool.decide_or])
          rw [hz] at m0 m1
          obtain ⟨z0, hz0'⟩ : ∃ y, (moveE (z : Int)).rail = y := ⟨_, rfl⟩
          obtain ⟨z1, hz1'⟩ : ∃ y, (moveE (z : Int)).last = y := ⟨_, rfl⟩
          have HMZ := Lib.hid (move_ne HMX.out (show moveE (z : Int) = ⟨z0, z1⟩ by rw [← hz0', ← hz1']))
          rw [hz0'] at m0
          rw [hz1'] at m1
          have n0' := (hb.cell (p := ⟨b2, o2 + i * 2, none⟩) hb2l).trans n0
          have n1' := (hb.cell (p := ⟨b2, o2 + i * 2 + 1, none⟩) hb2l).trans n1
          obtain ⟨bb, hbb⟩ : ∃ y, decide (x ∈ q.take k) = y := ⟨_, rfl⟩
          rw [hbb] at HTK ⊢
          have k0 : (0 : Int) ≤ (k : Int) := by omega
          have k1 : (k : Int) < (lq : Int) + 1 := by omega
          clear hz hz0' hz1' hbb hb hw0 n0 n1 e3
          cases bb with
          | true =>
            go_wp2
            go_quiet (fail)
            go_wp2
            go_roundw
            case rel => exact ⟨k + 1, by omega, by go_num, by rw [HTK.out]; rfl, bDrewN HB.out _⟩
            case measure => simp [intOf]; omega
          | false =>
            by_cases hxz : x = z
            · have HV := Lib.hid (show decide (x ∈ q.take (k + 1)) = true by rw [HTK.out]; simp [hxz])
              obtain ⟨rfl, rfl⟩ := HMZ.out.1 hxz
              clear hxz
              go_wp2
              go_quiet (fail)
              go_wp2
              go_roundw
              case rel => exact ⟨k + 1, by omega, by go_num, by rw [HV.out], bDrewN HB.out _⟩
              case measure => simp [intOf]; omega
            · have HV := Lib.hid (show decide (x ∈ q.take (k + 1)) = false by rw [HTK.out]; simp [hxz])
              have HXZ := Lib.hid hxz
              clear hxz
              by_cases hz0x : z0 = x0
              · subst hz0x
                have hcz : ¬ z1 = x1 := fun e2 => HXZ.out (HMZ.out.2 ⟨rfl, e2.symm⟩)
                have hczb : (z1 == x1) = false := by rw [beq_eq_false_iff_ne]; exact hcz
                go_wp2
                go_quiet (fail)
                go_wp2
                go_roundw
                case rel => exact ⟨k + 1, by omega, by go_num, by rw [HV.out], bDrewN HB.out _⟩
                case measure => simp [intOf]; omega
              · have hczb : (z0 == x0) = false := by rw [beq_eq_false_iff_ne]; exact hz0x
                go_wp2
                go_quiet (fail)
                go_wp2
                go_roundw
                case rel => exact ⟨k + 1, by omega, by go_num, by rw [HV.out], bDrewN HB.out _⟩
                case measure => simp [intOf]; omega
        · have hk1 : k = lq + 1 := by omega
          have hkz : ¬ (k : Int) < (lq : Int) + 1 := by omega
          have htk : q.take k = q := List.take_of_length_le (by rw [hk1, HLQ.out]; exact Nat.le_refl _)
          rw [htk]
          have HST2 := Lib.hid (HST.out.below hb hwz)
          have HNE2 := Lib.hid (HNE.out.below hb (Nat.le_refl _))
          have n0' := (hb.cell (p := ⟨b2, o2 + i * 2, none⟩) hb2l).trans n0
          have n1' := (hb.cell (p := ⟨b2, o2 + i * 2 + 1, none⟩) hb2l).trans n1
          obtain ⟨q0, q1, m0, m1, l0', l1', _, _, _⟩ := HST0.out.next hw0
          clear hk1 htk hb hw0 hk
          by_cases hxq : x ∈ q
          · rw [decide_eq_true hxq]
            have HV := Lib.hid (HKS.out i x HXI.out (.inr hxq))
            clear hxq
            go_wp2
            go_roundw
            case rel => exact ⟨i + 1, _, ml, by omega, by go_num, rfl, by rw [HV.out]; exact HML.out, HST2.out, HNE2.out⟩
            case measure => simp [intOf]; omega
          · rw [decide_eq_false hxq]
            have HV := Lib.hid (HKS.out i x HXI.out (.inl HUT.out))
            clear hxq
            go_wp2
            go_roundw
            case rel => exact ⟨i + 1, _, ml, by omega, by go_num, rfl, by rw [HV.out]; exact HML.out, HST2.out, HNE2.out⟩
            case measure => simp [intOf]; omega
    · obtain rfl : i = L := by omega
      have hz : ¬ (i : Int) < (i : Int) := by omega
      have HV := Lib.hid (HKA.out i HL.out)
      go_wp2_with fail
      go_ret
      exact ⟨_, ml, rfl, HST.out.ow.lower (by omega), HST.out.mr, by rw [← HV.out]; exact HML.out, HB0.out.trans (HST.out.be.mono (by omega))⟩
theorem On_any (A A2 : Option Addr) (c c2 M t : Nat) (p : Pl) (hM : 2 * p.rails.length = M) (h16 : M ≤ 16) (hv : Vld p) (ht : t < M) :
    ∀ (n : Nat), n ≤ 17 → ∀ (A3 : Option Addr) (c3 u : Nat) (pr : List Nat) (w : World), M ≤ n + pr.length → (pr ++ [u]).Nodup → (∀ x ∈ pr ++ [u], x < M) → PlAt w w.heap.size A c A2 c2 p → Sl w w.heap.size 2 CE A3 (mvs (pr ++ [u])) →
      Calls Tryz.prog 67 #[.agg #[.slice A p.nodes.length c, .slice A2 p.rails.length c2], .slice A3 (pr.length + 1) c3, .agg #[.int .i64 (moveE (t : Int)).rail, .bool (moveE (t : Int)).last]] w (OnPost (onL (nxN p) t n (pr ++ [u]) u) w)
  | 0, _, _, _, u, pr, _, hn, hnd, hlt, _, _ => by
    exfalso
    have := hnd.length_le_of_subset (l₂ := List.range M) fun x hx => List.mem_range.2 (hlt x hx)
    simp at this
    omega
  | n + 1, hn17, A3, c3, u, pr, w, hn, hnd, hlt, hP, hA => by
    have hle := hnd.length_le_of_subset (l₂ := List.range M) fun x hx => List.mem_range.2 (hlt x hx)
    simp only [List.length_append, List.length_singleton, List.length_range] at hle
    obtain ⟨b1, o1, rfl, _, _, _⟩ := mvs_cell hA (i := pr.length) (by simp)
    have H : OIn A A2 b1 o1 c c2 M n t u pr.length p (pr ++ [u]) w := ⟨hM, h16, hP, hv, hA, by simp, by omega, hlt, by simp, ht, by omega⟩
    have hR : ∀ x, x < M → x ∉ pr ++ [u] → x ∈ nxN p u → ∀ (A4 : Option Addr) (c4 : Nat) (wx : World), PlAt wx wx.heap.size A c A2 c2 p → Sl wx wx.heap.size 2 CE A4 (mvs (pr ++ [u] ++ [x])) →
        Calls Tryz.prog 67 #[.agg #[.slice A p.nodes.length c, .slice A2 p.rails.length c2], .slice A4 (pr.length + 1 + 1) c4, .agg #[.int .i64 (moveE (t : Int)).rail, .bool (moveE (t : Int)).last]] wx (OnPost (onL (nxN p) t n (pr ++ [u] ++ [x]) x) wx) := fun x hx hxn hxs A4 c4 wx hp hs => by
      have := On_any A A2 c c2 M t p hM h16 hv ht n (by omega) A4 c4 x (pr ++ [u]) wx (by simp; omega) (by
        rw [List.nodup_append]
        refine ⟨hnd, by simp, fun a ha b hb e => ?_⟩
        rw [List.mem_singleton.1 hb] at e
        exact hxn (e ▸ ha)) (fun y hy => by
        rcases List.mem_append.1 hy with hy | hy
        · exact hlt y hy
        · rw [List.mem_singleton.1 hy]; exact hx) hp hs
      rwa [show (pr ++ [u]).length = pr.length + 1 by simp] at this
    by_cases hut : u = t
    · exact On_hit A A2 b1 o1 c c2 c3 M n t u pr.length p _ w H hut hR
    · by_cases hc : (moveE (t : Int)).rail = (moveE (u : Int)).rail
      · exact On_goA A A2 b1 o1 c c2 c3 M n t u pr.length p _ w H hut hc hR
      · exact On_goB A A2 b1 o1 c c2 c3 M n t u pr.length p _ w H hut hc hR
end Go.Proofs.YtcpanfpijljeaaaGreat.DH

namespace Go.Proofs.YtcpanfpijljeaaaGreat.DH
set_option linter.unusedVariables false
set_option linter.unusedSimpArgs false
open Go.RowKit

theorem sl_take {α : Type} {C : α → List Value → Prop} {w : World} {B size : Nat} {A : Option Addr} {l : List α} (h : Sl w B size C A l) (k : Nat) : Sl w B size C A (l.take k) := by
  intro hne
  have hne2 : l ≠ [] := by rintro rfl; simp at hne
  obtain ⟨b, o, e, hb, hc⟩ := h hne2
  refine ⟨b, o, e, hb, fun i x hx => hc i x ?_⟩
  rw [List.getElem?_take] at hx
  split at hx
  · exact hx
  · simp at hx
theorem sl_drop {α : Type} {C : α → List Value → Prop} {w : World} {B size b o : Nat} {l : List α} (h : Sl w B size C (some ⟨b, o, none⟩) l) (k : Nat) : Sl w B size C (some ⟨b, o + k * size, none⟩) (l.drop k) := by
  intro hne
  have hne2 : l ≠ [] := by rintro rfl; simp at hne
  obtain ⟨b', o', e, hb, hc⟩ := h hne2
  obtain ⟨rfl, rfl⟩ : b = b' ∧ o = o' := by simpa using e
  refine ⟨b, _, rfl, hb, fun i x hx => ?_⟩
  rw [List.getElem?_drop] at hx
  obtain ⟨cs, h1, h2⟩ := hc _ x hx
  refine ⟨cs, h1, fun j u hu => ?_⟩
  have := h2 j u hu
  rw [show o + k * size + i * size + j = o + (k + i) * size + j by rw [Nat.add_mul]; omega]
  exact this
theorem own_at31 {w : World} {base : Nat} {v : Value} {l : List W3} (h : Own w base 31 1 fW v l) {i : Nat} (hi : i < l.length) :
    ∃ gb c, v = .slice (some ⟨gb, 0, none⟩) l.length c ∧ l.length ≤ c ∧ gb < w.heap.size ∧ w.cell? ⟨gb, i, none⟩ = some (.slice l[i].A l[i].l.length l[i].c) := by
  rcases h.2 with ⟨_, hn⟩ | ⟨g, cap, cur, rfl, hb, hg, hn, hm, hs, ht⟩
  · omega
  · refine ⟨g, cap, rfl, hn, lt_of_some hg, ?_⟩
    rw [cell_of_row _ g i _ 31 (0, 0) hg]
    have e := flat_get fW_len (show 0 < 1 by omega) l i
    rw [← ht, Nat.mul_one, List.getElem?_take_of_lt (by omega), List.getElem?_eq_getElem hi] at e
    rw [← Array.getElem?_toList]
    simpa [fW] using e
theorem MR.sl {w : World} {x : W3} (h : MR w x) : Sl w w.heap.size 2 CE x.A (mvs x.l) := by
  unfold MR at h
  exact Own.sl fE_len h (A := x.A) (c := x.c) (by simp)
/-- what Ways answers -/
def RWPost (p : Pl) (M f t : Nat) (w : World) (e : Ending) (w' : World) : Prop :=
  ∃ v ml, e = .returned v ∧ Own w' w.heap.size 31 1 fW v ml ∧ (∀ x ∈ ml, MR w' x) ∧ (ml.map W3.l).Pairwise (bf (wtP p)) ∧ (∀ q, q ∈ ml.map W3.l ↔ Sw M f t (nxN p) q) ∧ ml.length ≤ 131072 ∧ Below w.heap.size w w'
def S7 (K : Nat) (A : Option Addr) (a c : Nat) (A2 : Option Addr) (a2 c2 g7 i : Nat) (v1 : Value) (g8 k : Nat) (v2 : Value) (w' : World) : Prop :=
  w'.cell? ⟨K, 0, none⟩ = some (.slice A a c) ∧ w'.cell? ⟨K, 1, none⟩ = some (.slice A2 a2 c2) ∧ w'.cell? ⟨g7, i, none⟩ = some v1 ∧ w'.cell? ⟨g8, k, none⟩ = some v2
def S9 (g7 i : Nat) (v1 : Value) (w' : World) : Prop := w'.cell? ⟨g7, i, none⟩ = some v1
set_option maxRecDepth 100000 in
set_option maxHeartbeats 4000000 in
theorem rWays_any (A A2 : Option Addr) (c c2 M : Nat) (p : Pl) (m n : E) (w : World) (hM : 2 * p.rails.length = M) (h16 : M ≤ 16) (hP : PlAt w w.heap.size A c A2 c2 p) (hv : Vld p) (hm : railIn p m.rail = true) (hn : railIn p n.rail = true) :
    Calls Tryz.prog 36 #[.agg #[.slice A p.nodes.length c, .slice A2 p.rails.length c2], .agg #[.int .i64 m.rail, .bool m.last], .agg #[.int .i64 n.rail, .bool n.last]] w (RWPost p M (keyE m) (keyE n) w) := by
  have H1 := Lib.hid (G3st.start m n hP)
  have hnet := plan_net hv hM
  have hfM : keyE m < M := by have := (key_in hm).2.1; omega
  have htM : keyE n < M := by have := (key_in hn).2.1; omega
  have hmk := move_key hm
  have hnk := move_key hn
  obtain ⟨f, hf⟩ : ∃ z, keyE m = z := ⟨_, rfl⟩
  obtain ⟨t, ht⟩ : ∃ z, keyE n = z := ⟨_, rfl⟩
  rw [hf] at hfM hmk
  rw [ht] at htM hnk
  rw [hf, ht]
  obtain ⟨LL, hLL⟩ : ∃ z, onL (nxN p) t 16 [f] f = z := ⟨_, rfl⟩
  have hon := onL_mem (f := f) (t := t) hnet 16 [] f (by simp; exact h16) (by simp) trivial (by simp) (by intro x hx; simp at hx; omega) (by simp)
  rw [List.nil_append, hLL] at hon
  have HSWm := Lib.hid (show ∀ q, q ∈ LL ↔ Sw M f t (nxN p) q from fun q => by
    rw [hon.1 q]
    constructor
    · exact fun h => h.1
    · intro h
      refine ⟨h, ?_⟩
      have := h.hd
      cases q with
      | nil => simp at this
      | cons a s => exact ⟨s, by simpa using this⟩)
  have hnd := hon.2
  have hLl : LL.length ≤ 131072 := by
    have h5 := onL_len (t := t) (nxN_len p) 16 [f] f
    rw [hLL] at h5
    omega
  have HON := Lib.hid (show ∀ (A3 : Option Addr) (c3 : Nat) (wx : World), PlAt wx wx.heap.size A c A2 c2 p → Sl wx wx.heap.size 2 CE A3 [m] → Calls Tryz.prog 67 #[.agg #[.slice A p.nodes.length c, .slice A2 p.rails.length c2], .slice A3 1 c3, .agg #[.int .i64 n.rail, .bool n.last]] wx (OnPost LL wx) from fun A3 c3 wx hp hs => by
    have := On_any A A2 c c2 M t p hM h16 hv htM 16 (by omega) A3 c3 f [] wx (by simp; exact h16) (by simp) (by intro x hx; simp at hx; omega) hp (by
      rw [List.nil_append, show mvs [f] = [m] by simp [mvs, zs, hmk]]
      exact hs)
    rw [List.nil_append, hLL, hnk] at this
    exact this)
  have HBF := Lib.hid (show ∀ (x y : W3) (wx : World), x.l ∈ LL → y.l ∈ LL → PlAt wx wx.heap.size A c A2 c2 p → MR wx x → MR wx y → Calls Tryz.prog 68 #[.agg #[.slice A p.nodes.length c, .slice A2 p.rails.length c2], .slice x.A x.l.length x.c, .slice y.A y.l.length y.c] wx fun e w' => (∃ b, e = .returned (.bool b) ∧ (b = true ↔ bf (wtP p) x.l y.l)) ∧ Below wx.heap.size wx w' from fun x y wx hx hy hp hmx hmy => by
    have sx := (HSWm.out _).1 hx
    have sy := (HSWm.out _).1 hy
    have lx := nodup_le sx.nd sx.lt
    have ly := nodup_le sy.nd sy.lt
    refine (Before_any A A2 x.A y.A c c2 x.c y.c p x.l y.l wx hp hv hmx.sl hmy.sl (by omega) (by omega) (fun z hz => by rw [hM]; exact sx.lt z hz) (fun z hz => by rw [hM]; exact sy.lt z hz)).mono ?_
    rintro e w' ⟨⟨b, h1, h2⟩, h3⟩
    exact ⟨⟨b, h1, h2.trans (bfW_iff sx.hd sy.hd)⟩, h3⟩)
  obtain ⟨i31, hi31, hz10, hz11, hz12⟩ := info_parts inf31
  have HND := Lib.hid hnd; have HLL := Lib.hid hLl
  clear hP hv hm hn hM hnet hfM htM hmk hnk hf ht hLL hon hnd
  go_enter Tryz.func36, Tryz.ntmps36
  obtain ⟨k0, k1, m0, m1, n0, n1, hpl, hbe0, hz2⟩ := H1.out
  obtain ⟨W0, hW0⟩ : ∃ z, (((w.alloc (.cells #[.slice A p.nodes.length c, .slice A2 p.rails.length c2] 25)).alloc (.cells #[.int .i64 m.rail, .bool m.last] 27)).alloc (.cells #[.int .i64 n.rail, .bool n.last] 27)) = z := ⟨_, rfl⟩
  rw [hW0] at H1 k0 k1 m0 m1 n0 n1 hpl hbe0 hz2
  have hal : Below W0.heap.size W0 (W0.alloc (.cells #[.int .i64 m.rail, .bool m.last] 27)) := (Below.refl _ _).alloc (Nat.le_refl _) _
  obtain ⟨_, _, _, _, n0', n1', hpl', _, _⟩ := H1.out.next hal
  have hsl := Sl.new (f := fE) (size := 2) W0 27 m #[.int .i64 m.rail, .bool m.last] rfl
  have hsl2 : Sl (W0.alloc (.cells #[.int .i64 m.rail, .bool m.last] 27)) (W0.alloc (.cells #[.int .i64 m.rail, .bool m.last] 27)).heap.size 2 CE (some ⟨W0.heap.size, 0, none⟩) [m] := hsl.more (fun _ _ h => h) (by simp)
  go_upto_region 2 with fail
  (with_reducible refine (HON.out _ _ _ hpl' hsl2).mono ?_)
  rintro e w5 ⟨v7, wl, rfl, how, hmr, hwl, hb5⟩
  have hbW0 := hal.trans (hb5.mono (by simp))
  obtain ⟨q0, q1, _, _, _, _, hpl5, hbe5, _⟩ := H1.out.next hbW0
  have hsz5 := hbe5.size
  have hK5 := hz2
  have hz25 : w.heap.size + 1 + 1 < w5.heap.size := Nat.lt_of_lt_of_le hz2 hbW0.size
  have HPW := Lib.hid (show ∀ wx, Below w5.heap.size w5 wx → PlAt wx wx.heap.size A c A2 c2 p from fun wx hb => (hpl5.below hb).more hb.size)
  have HKP := Lib.hid (show ∀ wx, Below w5.heap.size w5 wx → wx.cell? ⟨w.heap.size, 0, none⟩ = some (.slice A p.nodes.length c) ∧ wx.cell? ⟨w.heap.size, 1, none⟩ = some (.slice A2 p.rails.length c2) from fun wx hb => ⟨(hb.cell (p := ⟨w.heap.size, 0, none⟩) (by simp; omega)).trans q0, (hb.cell (p := ⟨w.heap.size, 1, none⟩) (by simp; omega)).trans q1⟩)
  obtain ⟨A7, c7, rfl, _, _, _⟩ := how.form
  obtain ⟨KK, hKK⟩ : ∃ z, wl.length = z := ⟨_, rfl⟩
  have hLK : LL.length = KK := by rw [← hwl, List.length_map, hKK]
  have HBE := Lib.hid hbe5; have HOW := Lib.hid how; have HMR := Lib.hid hmr; have HWL := Lib.hid hwl; have HKK := Lib.hid hKK; have HLK := Lib.hid hLK
  have HK1 := Lib.hid (show KK ≤ 131072 by rw [← hLK]; exact HLL.out)
  rw [hKK]
  clear hsl2 hbW0 q0 q1 hpl5 hbe5 how hmr hwl hb5 hKK hLK hal n0' n1' hpl' hsl hW0 k0 k1 m0 m1 n0 n1 hpl hbe0 hz2 hK5
  go_wp2
  go_loopw [8, 9] (fun s8 s9 wr => ∃ (i : Nat) (v8 : Value) (ml : List W3), i ≤ KK ∧ s9 = .int .i64 (i : Int) ∧ v8 = s8 ∧ MSt w5 w5.heap.size wr v8 ml ∧ (ml.map W3.l).Pairwise (bf (wtP p)) ∧ (∀ q, q ∈ ml.map W3.l ↔ q ∈ LL.take i) ∧ ml.length = i) (fun _ s9 _ => KK - (intOf s9).toNat)
  case atStart => exact ⟨0, _, [], Nat.zero_le _, rfl, rfl, ⟨Own.nil _ _ _ _ _, (fun x hx => by cases hx), Below.refl _ _⟩, List.Pairwise.nil, by simp, rfl⟩
  case round =>
    obtain ⟨i, v8, ml, hi, rfl, rfl, hst, hso, hme, hlen⟩ := hrel
    obtain ⟨wb, rfl⟩ : ∃ z, z = wr := ⟨_, rfl⟩
    have hwz := hst.be.size
    by_cases hiK : i < KK
    · have hiw : i < wl.length := by rw [HKK.out]; exact hiK
      obtain ⟨g7, c7', e7, _, hg7, p7⟩ := own_at31 HOW.out hiw
      obtain ⟨rfl, ex1⟩ : A7 = some ⟨g7, 0, none⟩ ∧ c7 = c7' := by simpa using e7
      clear ex1
      obtain ⟨x, hx⟩ : ∃ z, wl[i] = z := ⟨_, rfl⟩
      have hxm : x ∈ wl := by rw [← hx]; exact List.getElem_mem hiw
      have hxl : LL[i]? = some x.l := by rw [← HWL.out, List.getElem?_map, List.getElem?_eq_getElem hiw, hx]; rfl
      rw [hx] at p7
      have HP7 := Lib.hid (show ∀ wx, Below w5.heap.size w5 wx → wx.cell? ⟨g7, i, none⟩ = some (.slice x.A x.l.length x.c) from fun wx hb => (hb.cell (p := ⟨g7, i, none⟩) hg7).trans p7)
      have HMX := Lib.hid (show ∀ wx, Below w5.heap.size w5 wx → MR wx x from fun wx hb => (HMR.out x hxm).kp (Kp.below [27] hb) (by simp))
      have HXL := Lib.hid hxl
      have HXM := Lib.hid (show x.l ∈ LL from List.mem_of_getElem? hxl)
      have HLEN := Lib.hid hlen; have HSO := Lib.hid hso; have HME := Lib.hid hme; have HST := Lib.hid hst
      obtain ⟨A8, c8, hv8, hc8, hc8m, hA8⟩ := hst.ow.form
      rw [hlen] at hv8 hc8
      subst hv8
      have HML := Lib.hid (show ∀ j (hj : j < ml.length), ml[j].l ∈ LL from fun j hj => List.mem_of_mem_take ((hme _).1 (List.mem_map_of_mem (f := W3.l) (List.getElem_mem hj))))
      have i0 : (0 : Int) ≤ (i : Int) := by omega
      have i1 : (i : Int) < (KK : Int) := by omega
      clear e7 p7 hx hxm hxl hst hso hme hlen hA8
      go_wp2
      go_loopw [10] (fun s10 wr => ∃ k : Nat, k ≤ i ∧ s10 = .int .i64 (k : Int) ∧ (∀ j (hj : j < ml.length), k ≤ j → bf (wtP p) x.l ml[j].l) ∧ Below wb.heap.size wb wr) (fun s10 _ => (intOf s10).toNat)
      case atStart => exact ⟨i, Nat.le_refl _, rfl, (fun j hj h => by have := HLEN.out; omega), Below.refl _ _⟩
      case round =>
        obtain ⟨k, hki, rfl, hbf, hb⟩ := hrel
        have HBJ := Lib.hid hbf; have HB := Lib.hid hb
        have HW5 := Lib.hid (HST.out.be.trans (hb.mono hwz))
        have hzr := hb.size
        clear hbf hb
        by_cases hk0 : k = 0
        · have k1 : ¬ (0 : Int) < (k : Int) := by omega
          have k2 : decide ((0 : Int) < (k : Int)) = false := by rw [decide_eq_false_iff_not]; exact k1
          go_upto_region 7 with (fail)
          have HS := Lib.hid trivial
          refine wp_region_held_drew (S := fun _ => True) (by kernel_rfl) HS.out (fun _ => ?_)
          refine hTake (i := 0) (d := 24) (v := .int .i64 (k : Int)) rfl rfl (by kernel_rfl) (by kernel_rfl) (by kernel_rfl) (fun _ _ _ h => h) (Or.inl ⟨rfl, ?gr⟩) HS.out ?_
          case gr =>
            intro W' hs'
            go_simp
          simp only [Act.put, List.setIfInBounds_toArray, List.set_cons_zero, List.set_cons_succ]
          refine hTake (i := 1) (d := 25) (v := .bool false) rfl rfl (by kernel_rfl) (by kernel_rfl) (by kernel_rfl) (fun _ _ _ h => h) (Or.inl ⟨rfl, ?gr⟩) HS.out ?_
          case gr =>
            intro W' hs'
            go_simp
          simp only [Act.put, List.setIfInBounds_toArray, List.set_cons_zero, List.set_cons_succ]
          refine hTake (i := 2) (d := 26) (v := .bool false) rfl rfl (by kernel_rfl) (by kernel_rfl) (by kernel_rfl) (fun _ _ _ h => h) (Or.inl ⟨rfl, ?gr⟩) HS.out ?_
          case gr =>
            intro W' hs'
            go_simp
          simp only [Act.put, List.setIfInBounds_toArray, List.set_cons_zero, List.set_cons_succ]
          refine hTake (i := 3) (d := 27) (v := undef) rfl rfl (by kernel_rfl) (by kernel_rfl) (by kernel_rfl) (fun _ _ _ h => h) (Or.inr ⟨rfl, rfl⟩) HS.out ?_
          simp only [Act.put, List.setIfInBounds_toArray, List.set_cons_zero, List.set_cons_succ]
          refine hTake (i := 4) (d := 28) (v := undef) rfl rfl (by kernel_rfl) (by kernel_rfl) (by kernel_rfl) (fun _ _ _ h => h) (Or.inr ⟨rfl, rfl⟩) HS.out ?_
          simp only [Act.put, List.setIfInBounds_toArray, List.set_cons_zero, List.set_cons_succ]
          refine hTake (i := 5) (d := 29) (v := undef) rfl rfl (by kernel_rfl) (by kernel_rfl) (by kernel_rfl) (fun _ _ _ h => h) (Or.inr ⟨rfl, rfl⟩) HS.out ?_
          simp only [Act.put, List.setIfInBounds_toArray, List.set_cons_zero, List.set_cons_succ]
          refine hTake (i := 6) (d := 30) (v := undef) rfl rfl (by kernel_rfl) (by kernel_rfl) (by kernel_rfl) (fun _ _ _ h => h) (Or.inr ⟨rfl, rfl⟩) HS.out ?_
          simp only [Act.put, List.setIfInBounds_toArray, List.set_cons_zero, List.set_cons_succ]
          refine hTake (i := 7) (d := 31) (v := undef) rfl rfl (by kernel_rfl) (by kernel_rfl) (by kernel_rfl) (fun _ _ _ h => h) (Or.inr ⟨rfl, rfl⟩) HS.out ?_
          simp only [Act.put, List.setIfInBounds_toArray, List.set_cons_zero, List.set_cons_succ]
          refine hTake (i := 8) (d := 32) (v := undef) rfl rfl (by kernel_rfl) (by kernel_rfl) (by kernel_rfl) (fun _ _ _ h => h) (Or.inr ⟨rfl, rfl⟩) HS.out ?_
          simp only [Act.put, List.setIfInBounds_toArray, List.set_cons_zero, List.set_cons_succ]
          refine hTake (i := 9) (d := 33) (v := undef) rfl rfl (by kernel_rfl) (by kernel_rfl) (by kernel_rfl) (fun _ _ _ h => h) (Or.inr ⟨rfl, rfl⟩) HS.out ?_
          simp only [Act.put, List.setIfInBounds_toArray, List.set_cons_zero, List.set_cons_succ]
          refine hTake (i := 10) (d := 34) (v := undef) rfl rfl (by kernel_rfl) (by kernel_rfl) (by kernel_rfl) (fun _ _ _ h => h) (Or.inr ⟨rfl, rfl⟩) HS.out ?_
          simp only [Act.put, List.setIfInBounds_toArray, List.set_cons_zero, List.set_cons_succ]
          refine hTake (i := 11) (d := 35) (v := undef) rfl rfl (by kernel_rfl) (by kernel_rfl) (by kernel_rfl) (fun _ _ _ h => h) (Or.inr ⟨rfl, rfl⟩) HS.out ?_
          simp only [Act.put, List.setIfInBounds_toArray, List.set_cons_zero, List.set_cons_succ]
          refine hTake (i := 12) (d := 36) (v := undef) rfl rfl (by kernel_rfl) (by kernel_rfl) (by kernel_rfl) (fun _ _ _ h => h) (Or.inr ⟨rfl, rfl⟩) HS.out ?_
          simp only [Act.put, List.setIfInBounds_toArray, List.set_cons_zero, List.set_cons_succ]
          refine hTake (i := 13) (d := 37) (v := undef) rfl rfl (by kernel_rfl) (by kernel_rfl) (by kernel_rfl) (fun _ _ _ h => h) (Or.inr ⟨rfl, rfl⟩) HS.out ?_
          simp only [Act.put, List.setIfInBounds_toArray, List.set_cons_zero, List.set_cons_succ]
          refine hTake (i := 14) (d := 38) (v := .bool false) rfl rfl (by kernel_rfl) (by kernel_rfl) (by kernel_rfl) (fun _ _ _ h => h) (Or.inl ⟨rfl, ?gr⟩) HS.out ?_
          case gr =>
            intro W' hs'
            go_simp
          simp only [Act.put, List.setIfInBounds_toArray, List.set_cons_zero, List.set_cons_succ]
          refine wpAnyH_done (by kernel_rfl) ?_ _
          go_upto_region 9 with (fail)
          have HBc := Lib.hid (HB.out.trans ((Below.refl wr.heap.size wr).drew.mono hzr))
          generalize wr.drew = wc at *
          obtain ⟨kk, rfl⟩ : ∃ z, z = k := ⟨_, rfl⟩
          have HNB := Lib.hid (show ∀ (hj : kk - 1 < ml.length), 0 < kk → ¬ bf (wtP p) x.l (ml[kk - 1]).l from fun hj h => by omega)
          have HBJ2 := HBJ
          clear k1 k2 HS hk0
          have hzc := HBc.out.size
          have hz5c : w5.heap.size ≤ wc.heap.size := by omega
          have HW5c := Lib.hid (HST.out.be.trans (HBc.out.mono hwz))
          have HST2 := Lib.hid (HST.out.below HBc.out hwz)
          have hsl0 := HST2.out.ow.sl fW_len (A := A8) (c := c8) (by rw [HLEN.out])
          have hA8 : A8 = none ∨ ∃ g, A8 = some ⟨g, 0, none⟩ := by
            rcases HST2.out.ow.2 with ⟨h, _⟩ | ⟨g, cap, cur, h, _⟩
            · injection h with h _ _; exact .inl h
            · injection h with h _ _; exact .inr ⟨g, h⟩
          have ha0 : Option.map (fun x : Addr => x.add 0) A8 = A8 := by
            rcases hA8 with rfl | ⟨g, rfl⟩
            · rfl
            · simp [Addr.add]
          obtain ⟨AX, hAX⟩ : ∃ z, (if c8 = kk then A8 else Option.map (fun x : Addr => x.add kk) A8) = z := ⟨_, rfl⟩
          have hltk : (ml.take kk).length = kk := by rw [List.length_take, HLEN.out]; omega
          have hldr : (ml.drop kk).length = i - kk := by rw [List.length_drop, HLEN.out]
          have hsl1 : Sl wc wc.heap.size 1 (fun x cs => cs = fW x) AX (ml.drop kk) := by
            rw [← hAX]
            rcases hA8 with rfl | ⟨g, rfl⟩
            · have h0 : ml.drop kk = [] := by
                rcases HST2.out.ow.2 with ⟨_, h⟩ | ⟨g, cap, cur, h, _⟩
                · exact List.drop_eq_nil_of_le (by omega)
                · injection h with h _ _; cases h
              rw [h0]; exact Sl.nil
            · by_cases e : c8 = kk
              · have h0 : ml.drop kk = [] := List.drop_eq_nil_of_le (by rw [HLEN.out]; omega)
                rw [h0]; exact Sl.nil
              · rw [if_neg e]
                have := sl_drop hsl0 kk
                simpa [add_lit] using this
          have HTAK := Lib.hid (show ∀ wq, Below wc.heap.size wc wq → Sl wq wc.heap.size 1 (fun x cs => cs = fW x) A8 (ml.take kk) from fun wq hb => (sl_take hsl0 kk).below hb)
          have HDRP := Lib.hid (show ∀ wq, Below wc.heap.size wc wq → Sl wq wc.heap.size 1 (fun x cs => cs = fW x) AX (ml.drop kk) from fun wq hb => hsl1.below hb)
          have HINS := Lib.hid (show ((ml.take kk ++ x :: ml.drop kk).map W3.l).Pairwise (bf (wtP p)) ∧ (∀ q, q ∈ (ml.take kk ++ x :: ml.drop kk).map W3.l ↔ q ∈ LL.take (i + 1)) ∧ (ml.take kk ++ x :: ml.drop kk).length = i + 1 from by
            obtain ⟨hil, hie⟩ := List.getElem?_eq_some_iff.1 HXL.out
            have hxn : x.l ∉ LL.take i := fun h => by
              have hnd := HND.out
              rw [← List.take_append_drop i LL, ← List.getElem_cons_drop hil, hie, List.nodup_append] at hnd
              exact hnd.2.2 _ h _ (by simp) rfl
            obtain ⟨r1, r2⟩ := ins_more (l := LL.take i) (x := x.l) (k := kk) HSO.out HME.out hxn (by rw [List.length_map, HLEN.out]; omega) (fun j hj hkj => by
              rw [List.getElem_map]
              exact HBJ2.out j (by simpa using hj) hkj) (fun h => by
              rw [List.getElem_map]
              exact HNB.out (by rw [HLEN.out]; omega) h)
            have e1 : (ml.take kk ++ x :: ml.drop kk).map W3.l = (ml.map W3.l).take kk ++ x.l :: (ml.map W3.l).drop kk := by simp
            rw [e1]
            refine ⟨r1, fun q => ?_, by rw [List.length_append, List.length_cons, hltk, hldr]; omega⟩
            rw [r2 q, List.take_succ_eq_append_getElem hil, hie])
          have HFIN := Lib.hid (show ∀ (v : Value) (wq : World), Own wq wc.heap.size 31 1 fW v (ml.take kk ++ x :: ml.drop kk) → Below wc.heap.size wc wq → MSt w5 w5.heap.size wq v (ml.take kk ++ x :: ml.drop kk) from fun v wq ho hb => by
            refine ⟨ho.lower hz5c, fun y hy => ?_, HW5c.out.trans (hb.mono hz5c)⟩
            have hy2 : y = x ∨ y ∈ ml := by
              rcases List.mem_append.1 hy with h | h
              · exact .inr (List.mem_of_mem_take h)
              · rcases List.mem_cons.1 h with h | h
                · exact .inl h
                · exact .inr (List.mem_of_mem_drop h)
            rcases hy2 with rfl | h
            · exact HMX.out _ (HW5c.out.trans (hb.mono hz5c))
            · exact (HST2.out.mr y h).kp (Kp.below [27] hb) (by simp))
          have HK9 := Lib.hid (show ∀ wq, Below w5.heap.size w5 wq → S9 g7 i (.slice x.A x.l.length x.c) wq from fun wq hb => HP7.out wq hb)
          have hk131 := HK1.out
          have hbq : Below wc.heap.size wc wc.drew := (Below.refl _ _).drew
          have HS := Lib.hid (HK9.out _ (HW5c.out.trans (hbq.mono hz5c)))
          have kc0 : (0 : Int) ≤ (kk : Int) := by omega
          have kc1 : (kk : Int) ≤ (c8 : Int) := by omega
          have kc2 : (kk : Int) ≤ (i : Int) := by omega
          have kc3 : kk ≤ c8 := by omega
          clear hsl0 hsl1 hA8
          refine wp_region_held_drew (S := S9 g7 i (.slice x.A x.l.length x.c)) (by kernel_rfl) HS.out (fun _ => ?_)
          generalize wc.drew = wd at *
          refine hTake (i := 0) (d := 41) (v := .slice A8 i c8) rfl rfl (by kernel_rfl) (by kernel_rfl) (by kernel_rfl) (fun _ _ _ h => h) (Or.inl ⟨rfl, ?gr⟩) HS.out ?_
          case gr =>
            intro W' s0; unfold S9 at s0
            go_simp
          simp only [Act.put, List.setIfInBounds_toArray, List.set_cons_zero, List.set_cons_succ]
          refine hTake (i := 1) (d := 42) (v := .int .i64 (kk : Int)) rfl rfl (by kernel_rfl) (by kernel_rfl) (by kernel_rfl) (fun _ _ _ h => h) (Or.inl ⟨rfl, ?gr⟩) HS.out ?_
          case gr =>
            intro W' s0; unfold S9 at s0
            go_simp
          simp only [Act.put, List.setIfInBounds_toArray, List.set_cons_zero, List.set_cons_succ]
          refine hTake (i := 2) (d := 43) (v := .slice A8 kk c8) rfl rfl (by kernel_rfl) (by kernel_rfl) (by kernel_rfl) (fun _ _ _ h => h) (Or.inl ⟨rfl, ?gr⟩) HS.out ?_
          case gr =>
            intro W' s0; unfold S9 at s0
            go_simp
          simp only [Act.put, List.setIfInBounds_toArray, List.set_cons_zero, List.set_cons_succ]
          refine hTake (i := 4) (d := 45) (v := .slice (some ⟨g7, 0, none⟩) KK c7) rfl rfl (by kernel_rfl) (by kernel_rfl) (by kernel_rfl) (fun _ _ _ h => h) (Or.inl ⟨rfl, ?gr⟩) HS.out ?_
          case gr =>
            intro W' s0; unfold S9 at s0
            go_simp
          simp only [Act.put, List.setIfInBounds_toArray, List.set_cons_zero, List.set_cons_succ]
          refine hTake (i := 5) (d := 46) (v := .int .i64 (i : Int)) rfl rfl (by kernel_rfl) (by kernel_rfl) (by kernel_rfl) (fun _ _ _ h => h) (Or.inl ⟨rfl, ?gr⟩) HS.out ?_
          case gr =>
            intro W' s0; unfold S9 at s0
            go_simp
          simp only [Act.put, List.setIfInBounds_toArray, List.set_cons_zero, List.set_cons_succ]
          refine hTake (i := 6) (d := 47) (v := .pointer (some ⟨g7, i, none⟩)) rfl rfl (by kernel_rfl) (by kernel_rfl) (by kernel_rfl) (fun _ _ _ h => h) (Or.inl ⟨rfl, ?gr⟩) HS.out ?_
          case gr =>
            intro W' s0; unfold S9 at s0
            go_simp
          simp only [Act.put, List.setIfInBounds_toArray, List.set_cons_zero, List.set_cons_succ]
          refine hTake (i := 7) (d := 48) (v := .slice x.A x.l.length x.c) rfl rfl (by kernel_rfl) (by kernel_rfl) (by kernel_rfl) (fun _ _ _ h => h) (Or.inl ⟨rfl, ?gr⟩) HS.out ?_
          case gr =>
            intro W' s0; unfold S9 at s0
            go_simp
          simp only [Act.put, List.setIfInBounds_toArray, List.set_cons_zero, List.set_cons_succ]
          refine hTake (i := 10) (d := 51) (v := .slice A8 i c8) rfl rfl (by kernel_rfl) (by kernel_rfl) (by kernel_rfl) (fun _ _ _ h => h) (Or.inl ⟨rfl, ?gr⟩) HS.out ?_
          case gr =>
            intro W' s0; unfold S9 at s0
            go_simp
          simp only [Act.put, List.setIfInBounds_toArray, List.set_cons_zero, List.set_cons_succ]
          refine hTake (i := 11) (d := 52) (v := .int .i64 (kk : Int)) rfl rfl (by kernel_rfl) (by kernel_rfl) (by kernel_rfl) (fun _ _ _ h => h) (Or.inl ⟨rfl, ?gr⟩) HS.out ?_
          case gr =>
            intro W' s0; unfold S9 at s0
            go_simp
          simp only [Act.put, List.setIfInBounds_toArray, List.set_cons_zero, List.set_cons_succ]
          refine hTake (i := 12) (d := 53) (v := .slice AX (i - kk) (c8 - kk)) rfl rfl (by kernel_rfl) (by kernel_rfl) (by kernel_rfl) (fun _ _ _ h => h) (Or.inl ⟨rfl, ?gr⟩) HS.out ?_
          case gr =>
            intro W' s0; unfold S9 at s0
            go_simp
          simp only [Act.put, List.setIfInBounds_toArray, List.set_cons_zero, List.set_cons_succ]
          refine wpAnyH_ready (rs := [3, 8]) (by kernel_rfl) (by simp) ?_
          refine AllReadyH.cons rfl (fun K hK => ?_) (AllReadyH.cons rfl (fun K hK => ?_) AllReadyH.nil)
          · rw [if_pos (by rfl)]
            refine wp_app _ _ _ _ rfl wc.heap.size 31 i31 _ 1 24 Tryz.underlying53 hi31 hz10 hz11 hz12 rfl (by omega) fW_len fW_one (.slice none 0 0) [] rfl (Own.nil _ _ _ _ _) _ A8 (ml.take kk) c8 (by rw [hltk]; rfl) (HTAK.out _ hbq) (by rw [hltk]; unfold maxLen; simp only [List.length_nil]; omega) (by rw [hltk]; simp only [List.length_nil]; omega) hbq.size (fun h => by cases A8 with | none => exact .inl rfl | some a => exact .inr ⟨_, rfl⟩) ?_
            intro v1 w1 ow1 gr1 at1 ne1
            rw [List.nil_append] at ow1
            replace hbq := hbq.grown gr1 hbq.size (fun b hb => by simp [Value.ownBlock] at hb)
            have HS := Lib.hid (HK9.out _ (HW5c.out.trans (hbq.mono hz5c)))
            clear gr1 at1 ne1
            refine hK.out _ _ HS.out (fun _ => ?_)
            clear hK K
            try simp only [Act.put, List.setIfInBounds_toArray, List.set_cons_zero, List.set_cons_succ]
            refine wpAnyH_ready (rs := [8]) (by kernel_rfl) (by simp) ?_
            refine AllReadyH.cons rfl (fun K hK => ?_) AllReadyH.nil
            rw [if_pos (by rfl)]
            go_simp
            have hal : Below w1.heap.size w1 (w1.alloc (.cells #[.slice x.A x.l.length x.c] 31)) := (Below.refl _ _).alloc (Nat.le_refl _) _
            have hsb : Sl (w1.alloc (.cells #[.slice x.A x.l.length x.c] 31)) (w1.alloc (.cells #[.slice x.A x.l.length x.c] 31)).heap.size 1 (fun x cs => cs = fW x) (some ⟨w1.heap.size, 0, none⟩) [x] := (Sl.new (f := fW) (size := 1) w1 31 x #[.slice x.A x.l.length x.c] rfl).more (fun _ _ h => h) (by simp)
            replace ow1 := ow1.alloc (.cells #[.slice x.A x.l.length x.c] 31)
            replace hbq := hbq.trans (hal.mono hbq.size)
            have HS := Lib.hid (HK9.out _ (HW5c.out.trans (hbq.mono hz5c)))
            clear hal
            refine hK.out _ _ HS.out (fun _ => ?_)
            clear hK K
            try simp only [Act.put, List.setIfInBounds_toArray, List.set_cons_zero, List.set_cons_succ]
            refine wpAnyH_ready (rs := [9]) (by kernel_rfl) (by simp) ?_
            refine AllReadyH.cons rfl (fun K hK => ?_) AllReadyH.nil
            rw [if_pos (by rfl)]
            refine wp_app _ _ _ _ rfl wc.heap.size 31 i31 _ 1 24 Tryz.underlying53 hi31 hz10 hz11 hz12 rfl (by omega) fW_len fW_one v1 _ rfl ow1 _ _ [x] 1 rfl hsb (by rw [hltk]; unfold maxLen; simp only [List.length_cons, List.length_nil]; omega) (by rw [hltk]; simp only [List.length_cons, List.length_nil]; omega) hbq.size (fun h => .inr ⟨_, rfl⟩) ?_
            intro v2 w2 ow2 gr2 at2 ne2
            replace hbq := hbq.grown gr2 hbq.size (fun b hb => (ow1.lt b hb).1)
            have HS := Lib.hid (HK9.out _ (HW5c.out.trans (hbq.mono hz5c)))
            clear gr2 at2 ne2 hsb ow1
            refine hK.out _ _ HS.out (fun _ => ?_)
            clear hK K
            try simp only [Act.put, List.setIfInBounds_toArray, List.set_cons_zero, List.set_cons_succ]
            refine wpAnyH_ready (rs := [13]) (by kernel_rfl) (by simp) ?_
            refine AllReadyH.cons rfl (fun K hK => ?_) AllReadyH.nil
            rw [if_pos (by rfl)]
            refine wp_app _ _ _ _ rfl wc.heap.size 31 i31 _ 1 24 Tryz.underlying53 hi31 hz10 hz11 hz12 rfl (by omega) fW_len fW_one v2 _ rfl ow2 _ AX (ml.drop kk) (c8 - kk) (by rw [hldr]; rfl) (HDRP.out _ hbq) (by rw [List.length_append, hltk, hldr]; unfold maxLen; simp only [List.length_cons, List.length_nil]; omega) (by rw [List.length_append, hltk, hldr]; simp only [List.length_cons, List.length_nil]; omega) hbq.size (fun h => by cases AX with | none => exact .inl rfl | some a => exact .inr ⟨_, rfl⟩) ?_
            intro v3 w3 ow3 gr3 at3 ne3
            replace hbq := hbq.grown gr3 hbq.size (fun b hb => (ow2.lt b hb).1)
            have HS := Lib.hid (HK9.out _ (HW5c.out.trans (hbq.mono hz5c)))
            rw [List.append_assoc, List.singleton_append] at ow3
            have hst3 := HFIN.out v3 w3 ow3 hbq
            clear gr3 at3 ne3 ow2 ow3
            refine hK.out _ _ HS.out (fun _ => ?_)
            clear hK K
            try simp only [Act.put, List.setIfInBounds_toArray, List.set_cons_zero, List.set_cons_succ]
            refine hTake (i := 14) (d := 8) (v := v3) rfl rfl (by kernel_rfl) (by kernel_rfl) (by kernel_rfl) (fun _ _ _ h => h) (Or.inl ⟨rfl, ?gr⟩) HS.out ?_
            case gr =>
              intro W' s0; unfold S9 at s0
              go_simp
            simp only [Act.put, List.setIfInBounds_toArray, List.set_cons_zero, List.set_cons_succ]
            refine wpAnyH_done (by kernel_rfl) ?_ _
            go_wp2_with fail
            go_roundw
            case rel => exact ⟨i + 1, _, _, by omega, by go_num, rfl, hst3, HINS.out.1, HINS.out.2.1, HINS.out.2.2⟩
            case measure => simp [intOf]; omega
          · rw [if_pos (by rfl)]
            go_simp
            have hal : Below wd.heap.size wd (wd.alloc (.cells #[.slice x.A x.l.length x.c] 31)) := (Below.refl _ _).alloc (Nat.le_refl _) _
            have hsb : Sl (wd.alloc (.cells #[.slice x.A x.l.length x.c] 31)) (wd.alloc (.cells #[.slice x.A x.l.length x.c] 31)).heap.size 1 (fun x cs => cs = fW x) (some ⟨wd.heap.size, 0, none⟩) [x] := (Sl.new (f := fW) (size := 1) wd 31 x #[.slice x.A x.l.length x.c] rfl).more (fun _ _ h => h) (by simp)
            replace hbq := hbq.trans (hal.mono hbq.size)
            have HS := Lib.hid (HK9.out _ (HW5c.out.trans (hbq.mono hz5c)))
            clear hal
            refine hK.out _ _ HS.out (fun _ => ?_)
            clear hK K
            try simp only [Act.put, List.setIfInBounds_toArray, List.set_cons_zero, List.set_cons_succ]
            refine wpAnyH_ready (rs := [3]) (by kernel_rfl) (by simp) ?_
            refine AllReadyH.cons rfl (fun K hK => ?_) AllReadyH.nil
            rw [if_pos (by rfl)]
            refine wp_app _ _ _ _ rfl wc.heap.size 31 i31 _ 1 24 Tryz.underlying53 hi31 hz10 hz11 hz12 rfl (by omega) fW_len fW_one (.slice none 0 0) [] rfl (Own.nil _ _ _ _ _) _ A8 (ml.take kk) c8 (by rw [hltk]; rfl) (HTAK.out _ hbq) (by rw [hltk]; unfold maxLen; simp only [List.length_nil]; omega) (by rw [hltk]; simp only [List.length_nil]; omega) hbq.size (fun h => by cases A8 with | none => exact .inl rfl | some a => exact .inr ⟨_, rfl⟩) ?_
            intro v1 w1 ow1 gr1 at1 ne1
            rw [List.nil_append] at ow1
            replace hsb := hsb.below ((Below.refl _ _).grown gr1 (Nat.le_refl _) (fun b hb => by simp [Value.ownBlock] at hb))
            replace hbq := hbq.grown gr1 hbq.size (fun b hb => by simp [Value.ownBlock] at hb)
            have HS := Lib.hid (HK9.out _ (HW5c.out.trans (hbq.mono hz5c)))
            clear gr1 at1 ne1
            refine hK.out _ _ HS.out (fun _ => ?_)
            clear hK K
            try simp only [Act.put, List.setIfInBounds_toArray, List.set_cons_zero, List.set_cons_succ]
            refine wpAnyH_ready (rs := [9]) (by kernel_rfl) (by simp) ?_
            refine AllReadyH.cons rfl (fun K hK => ?_) AllReadyH.nil
            rw [if_pos (by rfl)]
            refine wp_app _ _ _ _ rfl wc.heap.size 31 i31 _ 1 24 Tryz.underlying53 hi31 hz10 hz11 hz12 rfl (by omega) fW_len fW_one v1 _ rfl ow1 _ _ [x] 1 rfl hsb (by rw [hltk]; unfold maxLen; simp only [List.length_cons, List.length_nil]; omega) (by rw [hltk]; simp only [List.length_cons, List.length_nil]; omega) hbq.size (fun h => .inr ⟨_, rfl⟩) ?_
            intro v2 w2 ow2 gr2 at2 ne2
            replace hbq := hbq.grown gr2 hbq.size (fun b hb => (ow1.lt b hb).1)
            have HS := Lib.hid (HK9.out _ (HW5c.out.trans (hbq.mono hz5c)))
            clear gr2 at2 ne2 hsb ow1
            refine hK.out _ _ HS.out (fun _ => ?_)
            clear hK K
            try simp only [Act.put, List.setIfInBounds_toArray, List.set_cons_zero, List.set_cons_succ]
            refine wpAnyH_ready (rs := [13]) (by kernel_rfl) (by simp) ?_
            refine AllReadyH.cons rfl (fun K hK => ?_) AllReadyH.nil
            rw [if_pos (by rfl)]
            refine wp_app _ _ _ _ rfl wc.heap.size 31 i31 _ 1 24 Tryz.underlying53 hi31 hz10 hz11 hz12 rfl (by omega) fW_len fW_one v2 _ rfl ow2 _ AX (ml.drop kk) (c8 - kk) (by rw [hldr]; rfl) (HDRP.out _ hbq) (by rw [List.length_append, hltk, hldr]; unfold maxLen; simp only [List.length_cons, List.length_nil]; omega) (by rw [List.length_append, hltk, hldr]; simp only [List.length_cons, List.length_nil]; omega) hbq.size (fun h => by cases AX with | none => exact .inl rfl | some a => exact .inr ⟨_, rfl⟩) ?_
            intro v3 w3 ow3 gr3 at3 ne3
            replace hbq := hbq.grown gr3 hbq.size (fun b hb => (ow2.lt b hb).1)
            have HS := Lib.hid (HK9.out _ (HW5c.out.trans (hbq.mono hz5c)))
            rw [List.append_assoc, List.singleton_append] at ow3
            have hst3 := HFIN.out v3 w3 ow3 hbq
            clear gr3 at3 ne3 ow2 ow3
            refine hK.out _ _ HS.out (fun _ => ?_)
            clear hK K
            try simp only [Act.put, List.setIfInBounds_toArray, List.set_cons_zero, List.set_cons_succ]
            refine hTake (i := 14) (d := 8) (v := v3) rfl rfl (by kernel_rfl) (by kernel_rfl) (by kernel_rfl) (fun _ _ _ h => h) (Or.inl ⟨rfl, ?gr⟩) HS.out ?_
            case gr =>
              intro W' s0; unfold S9 at s0
              go_simp
            simp only [Act.put, List.setIfInBounds_toArray, List.set_cons_zero, List.set_cons_succ]
            refine wpAnyH_done (by kernel_rfl) ?_ _
            go_wp2_with fail
            go_roundw
            case rel => exact ⟨i + 1, _, _, by omega, by go_num, rfl, hst3, HINS.out.1, HINS.out.2.1, HINS.out.2.2⟩
            case measure => simp [intOf]; omega
        · obtain ⟨k1, hk1⟩ : ∃ z, k = z + 1 := ⟨k - 1, by omega⟩
          subst hk1
          have hkm : k1 < ml.length := by rw [HLEN.out]; omega
          obtain ⟨g8, c8', e8, _, hg8, p8⟩ := own_at31 HST.out.ow hkm
          obtain ⟨rfl, ex1, ex2⟩ : A8 = some ⟨g8, 0, none⟩ ∧ i = ml.length ∧ c8 = c8' := by simpa using e8
          clear ex1 ex2
          obtain ⟨y, hy⟩ : ∃ z, ml[k1] = z := ⟨_, rfl⟩
          have HYY := Lib.hid hy
          have HYL := Lib.hid (show y.l ∈ LL by rw [← hy]; exact HML.out k1 hkm)
          have hym : y ∈ ml := by rw [← hy]; exact List.getElem_mem hkm
          rw [hy] at p8
          have HMY := Lib.hid (show ∀ wx, Below wr.heap.size wr wx → MR wx y from fun wx hb => ((HST.out.mr y hym).kp (Kp.below [27] HB.out) (by simp)).kp (Kp.below [27] hb) (by simp))
          have HK7 := Lib.hid (show ∀ wx, Below wr.heap.size wr wx → S7 w.heap.size A p.nodes.length c A2 p.rails.length c2 g7 i (.slice x.A x.l.length x.c) g8 k1 (.slice y.A y.l.length y.c) wx from fun wx hb => by
            have h5 := HW5.out.trans (hb.mono (by omega))
            exact ⟨(HKP.out _ h5).1, (HKP.out _ h5).2, HP7.out _ h5, ((HB.out.trans (hb.mono hzr)).cell (p := ⟨g8, k1, none⟩) hg8).trans p8⟩)
          have hcast : ((k1 + 1 : Nat) : Int) = (k1 : Int) + 1 := rfl
          rw [hcast]
          have k2 : (0 : Int) < (k1 : Int) + 1 := by omega
          have k3 : (k1 : Int) + 1 - 1 = (k1 : Int) := by omega
          have k4 : (0 : Int) ≤ (k1 : Int) := by omega
          have k5 : (k1 : Int) < (i : Int) := by omega
          have k6 : IntKind.i64.wrap (k1 : Int) = (k1 : Int) := by rw [IntKind.wrap_i64]; have := HK1.out; omega
          clear e8 p8 hy hym
          go_upto_region 7 with (fail)
          have hbq : Below wr.heap.size wr wr.drew := (Below.refl _ _).drew
          have HS := Lib.hid (HK7.out _ hbq)
          refine wp_region_held_drew (S := S7 w.heap.size A p.nodes.length c A2 p.rails.length c2 g7 i (.slice x.A x.l.length x.c) g8 k1 (.slice y.A y.l.length y.c)) (by kernel_rfl) HS.out (fun _ => ?_)
          refine hTake (i := 0) (d := 24) (v := .int .i64 ((k1 : Int) + 1)) rfl rfl (by kernel_rfl) (by kernel_rfl) (by kernel_rfl) (fun _ _ _ h => h) (Or.inl ⟨rfl, ?gr⟩) HS.out ?_
          case gr =>
            rintro W' ⟨s0, s1, s2, s3⟩
            go_simp
          simp only [Act.put, List.setIfInBounds_toArray, List.set_cons_zero, List.set_cons_succ]
          refine hTake (i := 1) (d := 25) (v := .bool true) rfl rfl (by kernel_rfl) (by kernel_rfl) (by kernel_rfl) (fun _ _ _ h => h) (Or.inl ⟨rfl, ?gr⟩) HS.out ?_
          case gr =>
            rintro W' ⟨s0, s1, s2, s3⟩
            go_simp
          simp only [Act.put, List.setIfInBounds_toArray, List.set_cons_zero, List.set_cons_succ]
          refine hTake (i := 2) (d := 26) (v := .bool true) rfl rfl (by kernel_rfl) (by kernel_rfl) (by kernel_rfl) (fun _ _ _ h => h) (Or.inl ⟨rfl, ?gr⟩) HS.out ?_
          case gr =>
            rintro W' ⟨s0, s1, s2, s3⟩
            go_simp
          simp only [Act.put, List.setIfInBounds_toArray, List.set_cons_zero, List.set_cons_succ]
          refine hTake (i := 3) (d := 27) (v := .agg #[.slice A p.nodes.length c, .slice A2 p.rails.length c2]) rfl rfl (by kernel_rfl) (by kernel_rfl) (by kernel_rfl) (fun _ _ _ h => h) (Or.inl ⟨rfl, ?gr⟩) HS.out ?_
          case gr =>
            rintro W' ⟨s0, s1, s2, s3⟩
            go_simp
          simp only [Act.put, List.setIfInBounds_toArray, List.set_cons_zero, List.set_cons_succ]
          refine hTake (i := 4) (d := 28) (v := .slice (some ⟨g7, 0, none⟩) KK c7) rfl rfl (by kernel_rfl) (by kernel_rfl) (by kernel_rfl) (fun _ _ _ h => h) (Or.inl ⟨rfl, ?gr⟩) HS.out ?_
          case gr =>
            rintro W' ⟨s0, s1, s2, s3⟩
            go_simp
          simp only [Act.put, List.setIfInBounds_toArray, List.set_cons_zero, List.set_cons_succ]
          refine hTake (i := 5) (d := 29) (v := .int .i64 (i : Int)) rfl rfl (by kernel_rfl) (by kernel_rfl) (by kernel_rfl) (fun _ _ _ h => h) (Or.inl ⟨rfl, ?gr⟩) HS.out ?_
          case gr =>
            rintro W' ⟨s0, s1, s2, s3⟩
            go_simp
          simp only [Act.put, List.setIfInBounds_toArray, List.set_cons_zero, List.set_cons_succ]
          refine hTake (i := 6) (d := 30) (v := .pointer (some ⟨g7, i, none⟩)) rfl rfl (by kernel_rfl) (by kernel_rfl) (by kernel_rfl) (fun _ _ _ h => h) (Or.inl ⟨rfl, ?gr⟩) HS.out ?_
          case gr =>
            rintro W' ⟨s0, s1, s2, s3⟩
            go_simp
          simp only [Act.put, List.setIfInBounds_toArray, List.set_cons_zero, List.set_cons_succ]
          refine hTake (i := 7) (d := 31) (v := .slice x.A x.l.length x.c) rfl rfl (by kernel_rfl) (by kernel_rfl) (by kernel_rfl) (fun _ _ _ h => h) (Or.inl ⟨rfl, ?gr⟩) HS.out ?_
          case gr =>
            rintro W' ⟨s0, s1, s2, s3⟩
            go_simp
          simp only [Act.put, List.setIfInBounds_toArray, List.set_cons_zero, List.set_cons_succ]
          refine hTake (i := 8) (d := 32) (v := .slice (some ⟨g8, 0, none⟩) i c8) rfl rfl (by kernel_rfl) (by kernel_rfl) (by kernel_rfl) (fun _ _ _ h => h) (Or.inl ⟨rfl, ?gr⟩) HS.out ?_
          case gr =>
            rintro W' ⟨s0, s1, s2, s3⟩
            go_simp
          simp only [Act.put, List.setIfInBounds_toArray, List.set_cons_zero, List.set_cons_succ]
          refine hTake (i := 9) (d := 33) (v := .int .i64 ((k1 : Int) + 1)) rfl rfl (by kernel_rfl) (by kernel_rfl) (by kernel_rfl) (fun _ _ _ h => h) (Or.inl ⟨rfl, ?gr⟩) HS.out ?_
          case gr =>
            rintro W' ⟨s0, s1, s2, s3⟩
            go_simp
          simp only [Act.put, List.setIfInBounds_toArray, List.set_cons_zero, List.set_cons_succ]
          refine hTake (i := 10) (d := 34) (v := .int .i64 (k1 : Int)) rfl rfl (by kernel_rfl) (by kernel_rfl) (by kernel_rfl) (fun _ _ _ h => h) (Or.inl ⟨rfl, ?gr⟩) HS.out ?_
          case gr =>
            rintro W' ⟨s0, s1, s2, s3⟩
            go_simp
          simp only [Act.put, List.setIfInBounds_toArray, List.set_cons_zero, List.set_cons_succ]
          refine hTake (i := 11) (d := 35) (v := .pointer (some ⟨g8, k1, none⟩)) rfl rfl (by kernel_rfl) (by kernel_rfl) (by kernel_rfl) (fun _ _ _ h => h) (Or.inl ⟨rfl, ?gr⟩) HS.out ?_
          case gr =>
            rintro W' ⟨s0, s1, s2, s3⟩
            go_simp
          simp only [Act.put, List.setIfInBounds_toArray, List.set_cons_zero, List.set_cons_succ]
          refine hTake (i := 12) (d := 36) (v := .slice y.A y.l.length y.c) rfl rfl (by kernel_rfl) (by kernel_rfl) (by kernel_rfl) (fun _ _ _ h => h) (Or.inl ⟨rfl, ?gr⟩) HS.out ?_
          case gr =>
            rintro W' ⟨s0, s1, s2, s3⟩
            go_simp
          simp only [Act.put, List.setIfInBounds_toArray, List.set_cons_zero, List.set_cons_succ]
          refine wpAnyH_ready (rs := [13]) (by kernel_rfl) (by simp) ?_
          refine AllReadyH.cons rfl (fun K hK => ?_) AllReadyH.nil
          rw [if_pos (by rfl)]
          go_simp
          go_at_call 68
          (with_reducible refine (HBF.out x y _ HXM.out HYL.out (HPW.out _ (HW5.out.trans (hbq.mono (by omega)))) (HMX.out _ (HW5.out.trans (hbq.mono (by omega)))) (HMY.out _ hbq)).mono ?_)
          rintro e w7 ⟨⟨b, rfl, hbb⟩, hb7⟩
          replace hbq := hbq.trans (hb7.mono hbq.size)
          have HS := Lib.hid (HK7.out _ hbq)
          clear hb7
          refine hK.out _ _ HS.out (fun _ => ?_)
          clear hK K
          try simp only [Act.put, List.setIfInBounds_toArray, List.set_cons_zero, List.set_cons_succ]
          refine hTake (i := 14) (d := 38) (v := .bool b) rfl rfl (by kernel_rfl) (by kernel_rfl) (by kernel_rfl) (fun _ _ _ h => h) (Or.inl ⟨rfl, ?gr⟩) HS.out ?_
          case gr =>
            rintro W' ⟨s0, s1, s2, s3⟩
            go_simp
          simp only [Act.put, List.setIfInBounds_toArray, List.set_cons_zero, List.set_cons_succ]
          refine wpAnyH_done (by kernel_rfl) ?_ _
          have HBB := Lib.hid hbb
          have HBQ := Lib.hid hbq
          clear hbb hbq
          cases b with
          | true =>
            go_wp2
            go_roundw
            case rel => exact ⟨k1, by omega, by go_num, (fun j hj hkj => by
              by_cases e : j = k1
              · subst e; rw [HYY.out]; exact HBB.out.1 (by simp)
              · exact HBJ.out j hj (by omega)), HB.out.trans (HBQ.out.mono hzr)⟩
            case measure => (simp [intOf]; try omega)
          | false =>
            go_upto_region 9 with (fail)
            have HBc := Lib.hid (HB.out.trans (HBQ.out.mono hzr))
            obtain ⟨wc, rfl⟩ : ∃ z, z = w7 := ⟨_, rfl⟩
            rw [show (k1 : Int) + 1 = ((k1 + 1 : Nat) : Int) from rfl]
            have HNB' := Lib.hid (show ∀ (hj : k1 + 1 - 1 < ml.length), 0 < k1 + 1 → ¬ bf (wtP p) x.l (ml[k1 + 1 - 1]).l from fun hj h h2 => by
              have h3 : bf (wtP p) x.l y.l := by rw [← HYY.out]; exact h2
              exact absurd (HBB.out.2 h3) (by simp))
            obtain ⟨kk, hkk⟩ : ∃ z, k1 + 1 = z := ⟨_, rfl⟩
            have HNB := Lib.hid (show ∀ (hj : kk - 1 < ml.length), 0 < kk → ¬ bf (wtP p) x.l (ml[kk - 1]).l from by subst hkk; exact HNB'.out)
            have HBJ2 := Lib.hid (show ∀ j (hj : j < ml.length), kk ≤ j → bf (wtP p) x.l ml[j].l from by subst hkk; exact HBJ.out)
            have hki2 : kk ≤ i := by omega
            rw [hkk]
            clear HS hcast k2 k3 k4 k5 k6 hkm hki hkk HNB' HBJ HBB HYY HYL HMY HK7
            obtain ⟨A8, hA8e⟩ : ∃ z, some (⟨g8, 0, none⟩ : Addr) = z := ⟨_, rfl⟩
            rw [hA8e] at HST ⊢
            clear hA8e
            have hzc := HBc.out.size
            have hz5c : w5.heap.size ≤ wc.heap.size := by omega
            have HW5c := Lib.hid (HST.out.be.trans (HBc.out.mono hwz))
            have HST2 := Lib.hid (HST.out.below HBc.out hwz)
            have hsl0 := HST2.out.ow.sl fW_len (A := A8) (c := c8) (by rw [HLEN.out])
            have hA8 : A8 = none ∨ ∃ g, A8 = some ⟨g, 0, none⟩ := by
              rcases HST2.out.ow.2 with ⟨h, _⟩ | ⟨g, cap, cur, h, _⟩
              · injection h with h _ _; exact .inl h
              · injection h with h _ _; exact .inr ⟨g, h⟩
            have ha0 : Option.map (fun x : Addr => x.add 0) A8 = A8 := by
              rcases hA8 with rfl | ⟨g, rfl⟩
              · rfl
              · simp [Addr.add]
            obtain ⟨AX, hAX⟩ : ∃ z, (if c8 = kk then A8 else Option.map (fun x : Addr => x.add kk) A8) = z := ⟨_, rfl⟩
            have hltk : (ml.take kk).length = kk := by rw [List.length_take, HLEN.out]; omega
            have hldr : (ml.drop kk).length = i - kk := by rw [List.length_drop, HLEN.out]
            have hsl1 : Sl wc wc.heap.size 1 (fun x cs => cs = fW x) AX (ml.drop kk) := by
              rw [← hAX]
              rcases hA8 with rfl | ⟨g, rfl⟩
              · have h0 : ml.drop kk = [] := by
                  rcases HST2.out.ow.2 with ⟨_, h⟩ | ⟨g, cap, cur, h, _⟩
                  · exact List.drop_eq_nil_of_le (by omega)
                  · injection h with h _ _; cases h
                rw [h0]; exact Sl.nil
              · by_cases e : c8 = kk
                · have h0 : ml.drop kk = [] := List.drop_eq_nil_of_le (by rw [HLEN.out]; omega)
                  rw [h0]; exact Sl.nil
                · rw [if_neg e]
                  have := sl_drop hsl0 kk
                  simpa [add_lit] using this
            have HTAK := Lib.hid (show ∀ wq, Below wc.heap.size wc wq → Sl wq wc.heap.size 1 (fun x cs => cs = fW x) A8 (ml.take kk) from fun wq hb => (sl_take hsl0 kk).below hb)
            have HDRP := Lib.hid (show ∀ wq, Below wc.heap.size wc wq → Sl wq wc.heap.size 1 (fun x cs => cs = fW x) AX (ml.drop kk) from fun wq hb => hsl1.below hb)
            have HINS := Lib.hid (show ((ml.take kk ++ x :: ml.drop kk).map W3.l).Pairwise (bf (wtP p)) ∧ (∀ q, q ∈ (ml.take kk ++ x :: ml.drop kk).map W3.l ↔ q ∈ LL.take (i + 1)) ∧ (ml.take kk ++ x :: ml.drop kk).length = i + 1 from by
              obtain ⟨hil, hie⟩ := List.getElem?_eq_some_iff.1 HXL.out
              have hxn : x.l ∉ LL.take i := fun h => by
                have hnd := HND.out
                rw [← List.take_append_drop i LL, ← List.getElem_cons_drop hil, hie, List.nodup_append] at hnd
                exact hnd.2.2 _ h _ (by simp) rfl
              obtain ⟨r1, r2⟩ := ins_more (l := LL.take i) (x := x.l) (k := kk) HSO.out HME.out hxn (by rw [List.length_map, HLEN.out]; omega) (fun j hj hkj => by
                rw [List.getElem_map]
                exact HBJ2.out j (by simpa using hj) hkj) (fun h => by
                rw [List.getElem_map]
                exact HNB.out (by rw [HLEN.out]; omega) h)
              have e1 : (ml.take kk ++ x :: ml.drop kk).map W3.l = (ml.map W3.l).take kk ++ x.l :: (ml.map W3.l).drop kk := by simp
              rw [e1]
              refine ⟨r1, fun q => ?_, by rw [List.length_append, List.length_cons, hltk, hldr]; omega⟩
              rw [r2 q, List.take_succ_eq_append_getElem hil, hie])
            have HFIN := Lib.hid (show ∀ (v : Value) (wq : World), Own wq wc.heap.size 31 1 fW v (ml.take kk ++ x :: ml.drop kk) → Below wc.heap.size wc wq → MSt w5 w5.heap.size wq v (ml.take kk ++ x :: ml.drop kk) from fun v wq ho hb => by
              refine ⟨ho.lower hz5c, fun y hy => ?_, HW5c.out.trans (hb.mono hz5c)⟩
              have hy2 : y = x ∨ y ∈ ml := by
                rcases List.mem_append.1 hy with h | h
                · exact .inr (List.mem_of_mem_take h)
                · rcases List.mem_cons.1 h with h | h
                  · exact .inl h
                  · exact .inr (List.mem_of_mem_drop h)
              rcases hy2 with rfl | h
              · exact HMX.out _ (HW5c.out.trans (hb.mono hz5c))
              · exact (HST2.out.mr y h).kp (Kp.below [27] hb) (by simp))
            have HK9 := Lib.hid (show ∀ wq, Below w5.heap.size w5 wq → S9 g7 i (.slice x.A x.l.length x.c) wq from fun wq hb => HP7.out wq hb)
            have hk131 := HK1.out
            have hbq : Below wc.heap.size wc wc.drew := (Below.refl _ _).drew
            have HS := Lib.hid (HK9.out _ (HW5c.out.trans (hbq.mono hz5c)))
            have kc0 : (0 : Int) ≤ (kk : Int) := by omega
            have kc1 : (kk : Int) ≤ (c8 : Int) := by omega
            have kc2 : (kk : Int) ≤ (i : Int) := by omega
            have kc3 : kk ≤ c8 := by omega
            clear hsl0 hsl1 hA8
            refine wp_region_held_drew (S := S9 g7 i (.slice x.A x.l.length x.c)) (by kernel_rfl) HS.out (fun _ => ?_)
            generalize wc.drew = wd at *
            refine hTake (i := 0) (d := 41) (v := .slice A8 i c8) rfl rfl (by kernel_rfl) (by kernel_rfl) (by kernel_rfl) (fun _ _ _ h => h) (Or.inl ⟨rfl, ?gr⟩) HS.out ?_
            case gr =>
              intro W' s0; unfold S9 at s0
              go_simp
            simp only [Act.put, List.setIfInBounds_toArray, List.set_cons_zero, List.set_cons_succ]
            refine hTake (i := 1) (d := 42) (v := .int .i64 (kk : Int)) rfl rfl (by kernel_rfl) (by kernel_rfl) (by kernel_rfl) (fun _ _ _ h => h) (Or.inl ⟨rfl, ?gr⟩) HS.out ?_
            case gr =>
              intro W' s0; unfold S9 at s0
              go_simp
            simp only [Act.put, List.setIfInBounds_toArray, List.set_cons_zero, List.set_cons_succ]
            refine hTake (i := 2) (d := 43) (v := .slice A8 kk c8) rfl rfl (by kernel_rfl) (by kernel_rfl) (by kernel_rfl) (fun _ _ _ h => h) (Or.inl ⟨rfl, ?gr⟩) HS.out ?_
            case gr =>
              intro W' s0; unfold S9 at s0
              go_simp
            simp only [Act.put, List.setIfInBounds_toArray, List.set_cons_zero, List.set_cons_succ]
            refine hTake (i := 4) (d := 45) (v := .slice (some ⟨g7, 0, none⟩) KK c7) rfl rfl (by kernel_rfl) (by kernel_rfl) (by kernel_rfl) (fun _ _ _ h => h) (Or.inl ⟨rfl, ?gr⟩) HS.out ?_
            case gr =>
              intro W' s0; unfold S9 at s0
              go_simp
            simp only [Act.put, List.setIfInBounds_toArray, List.set_cons_zero, List.set_cons_succ]
            refine hTake (i := 5) (d := 46) (v := .int .i64 (i : Int)) rfl rfl (by kernel_rfl) (by kernel_rfl) (by kernel_rfl) (fun _ _ _ h => h) (Or.inl ⟨rfl, ?gr⟩) HS.out ?_
            case gr =>
              intro W' s0; unfold S9 at s0
              go_simp
            simp only [Act.put, List.setIfInBounds_toArray, List.set_cons_zero, List.set_cons_succ]
            refine hTake (i := 6) (d := 47) (v := .pointer (some ⟨g7, i, none⟩)) rfl rfl (by kernel_rfl) (by kernel_rfl) (by kernel_rfl) (fun _ _ _ h => h) (Or.inl ⟨rfl, ?gr⟩) HS.out ?_
            case gr =>
              intro W' s0; unfold S9 at s0
              go_simp
            simp only [Act.put, List.setIfInBounds_toArray, List.set_cons_zero, List.set_cons_succ]
            refine hTake (i := 7) (d := 48) (v := .slice x.A x.l.length x.c) rfl rfl (by kernel_rfl) (by kernel_rfl) (by kernel_rfl) (fun _ _ _ h => h) (Or.inl ⟨rfl, ?gr⟩) HS.out ?_
            case gr =>
              intro W' s0; unfold S9 at s0
              go_simp
            simp only [Act.put, List.setIfInBounds_toArray, List.set_cons_zero, List.set_cons_succ]
            refine hTake (i := 10) (d := 51) (v := .slice A8 i c8) rfl rfl (by kernel_rfl) (by kernel_rfl) (by kernel_rfl) (fun _ _ _ h => h) (Or.inl ⟨rfl, ?gr⟩) HS.out ?_
            case gr =>
              intro W' s0; unfold S9 at s0
              go_simp
            simp only [Act.put, List.setIfInBounds_toArray, List.set_cons_zero, List.set_cons_succ]
            refine hTake (i := 11) (d := 52) (v := .int .i64 (kk : Int)) rfl rfl (by kernel_rfl) (by kernel_rfl) (by kernel_rfl) (fun _ _ _ h => h) (Or.inl ⟨rfl, ?gr⟩) HS.out ?_
            case gr =>
              intro W' s0; unfold S9 at s0
              go_simp
            simp only [Act.put, List.setIfInBounds_toArray, List.set_cons_zero, List.set_cons_succ]
            refine hTake (i := 12) (d := 53) (v := .slice AX (i - kk) (c8 - kk)) rfl rfl (by kernel_rfl) (by kernel_rfl) (by kernel_rfl) (fun _ _ _ h => h) (Or.inl ⟨rfl, ?gr⟩) HS.out ?_
            case gr =>
              intro W' s0; unfold S9 at s0
              go_simp
            simp only [Act.put, List.setIfInBounds_toArray, List.set_cons_zero, List.set_cons_succ]
            refine wpAnyH_ready (rs := [3, 8]) (by kernel_rfl) (by simp) ?_
            refine AllReadyH.cons rfl (fun K hK => ?_) (AllReadyH.cons rfl (fun K hK => ?_) AllReadyH.nil)
            · rw [if_pos (by rfl)]
              refine wp_app _ _ _ _ rfl wc.heap.size 31 i31 _ 1 24 Tryz.underlying53 hi31 hz10 hz11 hz12 rfl (by omega) fW_len fW_one (.slice none 0 0) [] rfl (Own.nil _ _ _ _ _) _ A8 (ml.take kk) c8 (by rw [hltk]; rfl) (HTAK.out _ hbq) (by rw [hltk]; unfold maxLen; simp only [List.length_nil]; omega) (by rw [hltk]; simp only [List.length_nil]; omega) hbq.size (fun h => by cases A8 with | none => exact .inl rfl | some a => exact .inr ⟨_, rfl⟩) ?_
              intro v1 w1 ow1 gr1 at1 ne1
              rw [List.nil_append] at ow1
              replace hbq := hbq.grown gr1 hbq.size (fun b hb => by simp [Value.ownBlock] at hb)
              have HS := Lib.hid (HK9.out _ (HW5c.out.trans (hbq.mono hz5c)))
              clear gr1 at1 ne1
              refine hK.out _ _ HS.out (fun _ => ?_)
              clear hK K
              try simp only [Act.put, List.setIfInBounds_toArray, List.set_cons_zero, List.set_cons_succ]
              refine wpAnyH_ready (rs := [8]) (by kernel_rfl) (by simp) ?_
              refine AllReadyH.cons rfl (fun K hK => ?_) AllReadyH.nil
              rw [if_pos (by rfl)]
              go_simp
              have hal : Below w1.heap.size w1 (w1.alloc (.cells #[.slice x.A x.l.length x.c] 31)) := (Below.refl _ _).alloc (Nat.le_refl _) _
              have hsb : Sl (w1.alloc (.cells #[.slice x.A x.l.length x.c] 31)) (w1.alloc (.cells #[.slice x.A x.l.length x.c] 31)).heap.size 1 (fun x cs => cs = fW x) (some ⟨w1.heap.size, 0, none⟩) [x] := (Sl.new (f := fW) (size := 1) w1 31 x #[.slice x.A x.l.length x.c] rfl).more (fun _ _ h => h) (by simp)
              replace ow1 := ow1.alloc (.cells #[.slice x.A x.l.length x.c] 31)
              replace hbq := hbq.trans (hal.mono hbq.size)
              have HS := Lib.hid (HK9.out _ (HW5c.out.trans (hbq.mono hz5c)))
              clear hal
              refine hK.out _ _ HS.out (fun _ => ?_)
              clear hK K
              try simp only [Act.put, List.setIfInBounds_toArray, List.set_cons_zero, List.set_cons_succ]
              refine wpAnyH_ready (rs := [9]) (by kernel_rfl) (by simp) ?_
              refine AllReadyH.cons rfl (fun K hK => ?_) AllReadyH.nil
              rw [if_pos (by rfl)]
              refine wp_app _ _ _ _ rfl wc.heap.size 31 i31 _ 1 24 Tryz.underlying53 hi31 hz10 hz11 hz12 rfl (by omega) fW_len fW_one v1 _ rfl ow1 _ _ [x] 1 rfl hsb (by rw [hltk]; unfold maxLen; simp only [List.length_cons, List.length_nil]; omega) (by rw [hltk]; simp only [List.length_cons, List.length_nil]; omega) hbq.size (fun h => .inr ⟨_, rfl⟩) ?_
              intro v2 w2 ow2 gr2 at2 ne2
              replace hbq := hbq.grown gr2 hbq.size (fun b hb => (ow1.lt b hb).1)
              have HS := Lib.hid (HK9.out _ (HW5c.out.trans (hbq.mono hz5c)))
              clear gr2 at2 ne2 hsb ow1
              refine hK.out _ _ HS.out (fun _ => ?_)
              clear hK K
              try simp only [Act.put, List.setIfInBounds_toArray, List.set_cons_zero, List.set_cons_succ]
              refine wpAnyH_ready (rs := [13]) (by kernel_rfl) (by simp) ?_
              refine AllReadyH.cons rfl (fun K hK => ?_) AllReadyH.nil
              rw [if_pos (by rfl)]
              refine wp_app _ _ _ _ rfl wc.heap.size 31 i31 _ 1 24 Tryz.underlying53 hi31 hz10 hz11 hz12 rfl (by omega) fW_len fW_one v2 _ rfl ow2 _ AX (ml.drop kk) (c8 - kk) (by rw [hldr]; rfl) (HDRP.out _ hbq) (by rw [List.length_append, hltk, hldr]; unfold maxLen; simp only [List.length_cons, List.length_nil]; omega) (by rw [List.length_append, hltk, hldr]; simp only [List.length_cons, List.length_nil]; omega) hbq.size (fun h => by cases AX with | none => exact .inl rfl | some a => exact .inr ⟨_, rfl⟩) ?_
              intro v3 w3 ow3 gr3 at3 ne3
              replace hbq := hbq.grown gr3 hbq.size (fun b hb => (ow2.lt b hb).1)
              have HS := Lib.hid (HK9.out _ (HW5c.out.trans (hbq.mono hz5c)))
              rw [List.append_assoc, List.singleton_append] at ow3
              have hst3 := HFIN.out v3 w3 ow3 hbq
              clear gr3 at3 ne3 ow2 ow3
              refine hK.out _ _ HS.out (fun _ => ?_)
              clear hK K
              try simp only [Act.put, List.setIfInBounds_toArray, List.set_cons_zero, List.set_cons_succ]
              refine hTake (i := 14) (d := 8) (v := v3) rfl rfl (by kernel_rfl) (by kernel_rfl) (by kernel_rfl) (fun _ _ _ h => h) (Or.inl ⟨rfl, ?gr⟩) HS.out ?_
              case gr =>
                intro W' s0; unfold S9 at s0
                go_simp
              simp only [Act.put, List.setIfInBounds_toArray, List.set_cons_zero, List.set_cons_succ]
              refine wpAnyH_done (by kernel_rfl) ?_ _
              go_wp2_with fail
              go_roundw
              case rel => exact ⟨i + 1, _, _, by omega, by go_num, rfl, hst3, HINS.out.1, HINS.out.2.1, HINS.out.2.2⟩
              case measure => simp [intOf]; omega
            · rw [if_pos (by rfl)]
              go_simp
              have hal : Below wd.heap.size wd (wd.alloc (.cells #[.slice x.A x.l.length x.c] 31)) := (Below.refl _ _).alloc (Nat.le_refl _) _
              have hsb : Sl (wd.alloc (.cells #[.slice x.A x.l.length x.c] 31)) (wd.alloc (.cells #[.slice x.A x.l.length x.c] 31)).heap.size 1 (fun x cs => cs = fW x) (some ⟨wd.heap.size, 0, none⟩) [x] := (Sl.new (f := fW) (size := 1) wd 31 x #[.slice x.A x.l.length x.c] rfl).more (fun _ _ h => h) (by simp)
              replace hbq := hbq.trans (hal.mono hbq.size)
              have HS := Lib.hid (HK9.out _ (HW5c.out.trans (hbq.mono hz5c)))
              clear hal
              refine hK.out _ _ HS.out (fun _ => ?_)
              clear hK K
              try simp only [Act.put, List.setIfInBounds_toArray, List.set_cons_zero, List.set_cons_succ]
              refine wpAnyH_ready (rs := [3]) (by kernel_rfl) (by simp) ?_
              refine AllReadyH.cons rfl (fun K hK => ?_) AllReadyH.nil
              rw [if_pos (by rfl)]
              refine wp_app _ _ _ _ rfl wc.heap.size 31 i31 _ 1 24 Tryz.underlying53 hi31 hz10 hz11 hz12 rfl (by omega) fW_len fW_one (.slice none 0 0) [] rfl (Own.nil _ _ _ _ _) _ A8 (ml.take kk) c8 (by rw [hltk]; rfl) (HTAK.out _ hbq) (by rw [hltk]; unfold maxLen; simp only [List.length_nil]; omega) (by rw [hltk]; simp only [List.length_nil]; omega) hbq.size (fun h => by cases A8 with | none => exact .inl rfl | some a => exact .inr ⟨_, rfl⟩) ?_
              intro v1 w1 ow1 gr1 at1 ne1
              rw [List.nil_append] at ow1
              replace hsb := hsb.below ((Below.refl _ _).grown gr1 (Nat.le_refl _) (fun b hb => by simp [Value.ownBlock] at hb))
              replace hbq := hbq.grown gr1 hbq.size (fun b hb => by simp [Value.ownBlock] at hb)
              have HS := Lib.hid (HK9.out _ (HW5c.out.trans (hbq.mono hz5c)))
              clear gr1 at1 ne1
              refine hK.out _ _ HS.out (fun _ => ?_)
              clear hK K
              try simp only [Act.put, List.setIfInBounds_toArray, List.set_cons_zero, List.set_cons_succ]
              refine wpAnyH_ready (rs := [9]) (by kernel_rfl) (by simp) ?_
              refine AllReadyH.cons rfl (fun K hK => ?_) AllReadyH.nil
              rw [if_pos (by rfl)]
              refine wp_app _ _ _ _ rfl wc.heap.size 31 i31 _ 1 24 Tryz.underlying53 hi31 hz10 hz11 hz12 rfl (by omega) fW_len fW_one v1 _ rfl ow1 _ _ [x] 1 rfl hsb (by rw [hltk]; unfold maxLen; simp only [List.length_cons, List.length_nil]; omega) (by rw [hltk]; simp only [List.length_cons, List.length_nil]; omega) hbq.size (fun h => .inr ⟨_, rfl⟩) ?_
              intro v2 w2 ow2 gr2 at2 ne2
              replace hbq := hbq.grown gr2 hbq.size (fun b hb => (ow1.lt b hb).1)
              have HS := Lib.hid (HK9.out _ (HW5c.out.trans (hbq.mono hz5c)))
              clear gr2 at2 ne2 hsb ow1
              refine hK.out _ _ HS.out (fun _ => ?_)
              clear hK K
              try simp only [Act.put, List.setIfInBounds_toArray, List.set_cons_zero, List.set_cons_succ]
              refine wpAnyH_ready (rs := [13]) (by kernel_rfl) (by simp) ?_
              refine AllReadyH.cons rfl (fun K hK => ?_) AllReadyH.nil
              rw [if_pos (by rfl)]
              refine wp_app _ _ _ _ rfl wc.heap.size 31 i31 _ 1 24 Tryz.underlying53 hi31 hz10 hz11 hz12 rfl (by omega) fW_len fW_one v2 _ rfl ow2 _ AX (ml.drop kk) (c8 - kk) (by rw [hldr]; rfl) (HDRP.out _ hbq) (by rw [List.length_append, hltk, hldr]; unfold maxLen; simp only [List.length_cons, List.length_nil]; omega) (by rw [List.length_append, hltk, hldr]; simp only [List.length_cons, List.length_nil]; omega) hbq.size (fun h => by cases AX with | none => exact .inl rfl | some a => exact .inr ⟨_, rfl⟩) ?_
              intro v3 w3 ow3 gr3 at3 ne3
              replace hbq := hbq.grown gr3 hbq.size (fun b hb => (ow2.lt b hb).1)
              have HS := Lib.hid (HK9.out _ (HW5c.out.trans (hbq.mono hz5c)))
              rw [List.append_assoc, List.singleton_append] at ow3
              have hst3 := HFIN.out v3 w3 ow3 hbq
              clear gr3 at3 ne3 ow2 ow3
              refine hK.out _ _ HS.out (fun _ => ?_)
              clear hK K
              try simp only [Act.put, List.setIfInBounds_toArray, List.set_cons_zero, List.set_cons_succ]
              refine hTake (i := 14) (d := 8) (v := v3) rfl rfl (by kernel_rfl) (by kernel_rfl) (by kernel_rfl) (fun _ _ _ h => h) (Or.inl ⟨rfl, ?gr⟩) HS.out ?_
              case gr =>
                intro W' s0; unfold S9 at s0
                go_simp
              simp only [Act.put, List.setIfInBounds_toArray, List.set_cons_zero, List.set_cons_succ]
              refine wpAnyH_done (by kernel_rfl) ?_ _
              go_wp2_with fail
              go_roundw
              case rel => exact ⟨i + 1, _, _, by omega, by go_num, rfl, hst3, HINS.out.1, HINS.out.2.1, HINS.out.2.2⟩
              case measure => simp [intOf]; omega
    · obtain rfl : i = KK := by omega
      have hz : ¬ (i : Int) < (i : Int) := by omega
      go_wp2_with fail
      go_ret
      exact ⟨_, ml, rfl, hst.ow.lower hsz5, hst.mr, hso, fun q => by rw [hme q, ← HSWm.out q, List.take_of_length_le (by rw [HLK.out]; exact Nat.le_refl _)], by rw [hlen]; exact HK1.out, HBE.out.trans (hst.be.mono hsz5)⟩
end Go.Proofs.YtcpanfpijljeaaaGreat.DH

namespace Go.Proofs.YtcpanfpijljeaaaGreat.DH
set_option linter.unusedVariables false
set_option linter.unusedSimpArgs false
open Go.RowKit

def SL2 (g4 g5 i : Nat) (v1 v2 : Value) (w' : World) : Prop := w'.cell? ⟨g4, i, none⟩ = some v1 ∧ w'.cell? ⟨g5, i, none⟩ = some v2
section
variable (A A2 : Option Addr) (c c2 : Nat) (p : Pl) (m n : E) (k : Int) (w : World)
def ShC : Prop := Calls Tryz.prog 6 #[.agg #[.slice A p.nodes.length c, .slice A2 p.rails.length c2], .agg #[.int .i64 m.rail, .bool m.last], .agg #[.int .i64 n.rail, .bool n.last], .int .i64 k] w fun e w' => e = .returned (.bool true) ∧ Below w.heap.size w w'
set_option maxRecDepth 100000 in
set_option maxHeartbeats 4000000 in
theorem Sh_not (hP : PlAt w w.heap.size A c A2 c2 p) (v : Bool) (hV : ValB p v) (hF : fineB p v m n = false ∨ (fineB p v m n = true ∧ (7 < p.nodes.length ∨ 8 < p.rails.length))) : ShC A A2 c c2 p m n k w := by
  have H1 := Lib.hid (G3st.start m n hP)
  obtain ⟨fb, hfb⟩ : ∃ z, fineB p v m n = z := ⟨_, rfl⟩
  have HV := Lib.hid (show ∀ w, PlAt w w.heap.size A c A2 c2 p → Calls Tryz.prog 30 #[.agg #[.slice A p.nodes.length c, .slice A2 p.rails.length c2], .agg #[.int .i64 m.rail, .bool m.last], .agg #[.int .i64 n.rail, .bool n.last]] w fun e w' => e = .returned (.bool fb) ∧ Below w.heap.size w w' from fun w hP => by
    have := fine_of A A2 c c2 p m n w hP v (fun w hP => hV A A2 c c2 w hP)
    rwa [hfb] at this)
  rw [hfb] at hF
  clear hP hV hfb
  unfold ShC
  cases fb with
  | false =>
    clear hF
    go_enter Tryz.func6, Tryz.ntmps6
    go_wp2_with fail
    refine (HV.out _ H1.out.pl).mono ?_
    rintro e w2 ⟨rfl, hb2⟩
    have H2 := Lib.hid (H1.out.next hb2)
    clear hb2 H1
    go_wp2_with fail
    refine (known_any _).mono ?_
    rintro e w3 ⟨rfl, hb3⟩
    have H3 := Lib.hid (H2.out.next hb3)
    clear hb3 H2
    go_wp2
    go_ret
    exact ⟨rfl, H3.out.be⟩
  | true =>
    rcases hF with h | ⟨_, hF⟩
    · cases h
    by_cases h7 : 7 < p.nodes.length
    · have d1 : (7 : Int) < (p.nodes.length : Int) := by omega
      clear hF
      go_enter Tryz.func6, Tryz.ntmps6
      go_wp2_with fail
      refine (HV.out _ H1.out.pl).mono ?_
      rintro e w2 ⟨rfl, hb2⟩
      have H2 := Lib.hid (H1.out.next hb2)
      obtain ⟨k0, k1, _, _, _, _, _, _, _⟩ := H2.out
      clear hb2 H1
      go_wp2_with fail
      refine (known_any _).mono ?_
      rintro e w3 ⟨rfl, hb3⟩
      have H3 := Lib.hid (H2.out.next hb3)
      clear hb3 H2 k0 k1
      go_wp2
      go_ret
      exact ⟨rfl, H3.out.be⟩
    · have d2 : (8 : Int) < (p.rails.length : Int) := by rcases hF with h | h <;> omega
      have d1 : ¬ (7 : Int) < (p.nodes.length : Int) := by omega
      have d3 : decide ((7 : Int) < (p.nodes.length : Int)) = false := by rw [decide_eq_false_iff_not]; exact d1
      clear hF
      go_enter Tryz.func6, Tryz.ntmps6
      go_wp2_with fail
      refine (HV.out _ H1.out.pl).mono ?_
      rintro e w2 ⟨rfl, hb2⟩
      have H2 := Lib.hid (H1.out.next hb2)
      obtain ⟨k0, k1, _, _, _, _, _, _, _⟩ := H2.out
      clear hb2 H1
      go_wp2_with fail
      refine (known_any _).mono ?_
      rintro e w3 ⟨rfl, hb3⟩
      have H3 := Lib.hid (H2.out.next hb3)
      clear hb3 H2 k0 k1
      go_wp2
      go_ret
      exact ⟨rfl, H3.out.be⟩

set_option maxRecDepth 100000 in
set_option maxHeartbeats 4000000 in
theorem Sh_bad (hP : PlAt w w.heap.size A c A2 c2 p) (hv : Vld p) (hs : smallB p = true) (hm : railIn p m.rail = true) (hn : railIn p n.rail = true) (h7 : p.nodes.length ≤ 7) (h8 : p.rails.length ≤ 8) (hk : k < 1 ∨ 200 < k) : ShC A A2 c c2 p m n k w := by
  obtain ⟨M, hM⟩ : ∃ M, 2 * p.rails.length = M := ⟨_, rfl⟩
  have h16 : M ≤ 16 := by omega
  have hnet := plan_net hv hM
  have hfM : keyE m < M := by have := (key_in hm).2.1; omega
  have htM : keyE n < M := by have := (key_in hn).2.1; omega
  obtain ⟨nn, res, hs1, hbd, hnx, hrl, hL0⟩ := closed_facts hv hs hM htM [] (by simp)
  have hL : Lab M (keyE n) (nxN p) (wtP p) (fun _ => False) (fun x => gC res x) := by simpa using hL0
  rw [clL_nil] at hs1
  have H1 := Lib.hid (G3st.start m n hP)
  have C30 := Lib.hid (show ∀ w, PlAt w w.heap.size A c A2 c2 p → Calls Tryz.prog 30 #[.agg #[.slice A p.nodes.length c, .slice A2 p.rails.length c2], .agg #[.int .i64 m.rail, .bool m.last], .agg #[.int .i64 n.rail, .bool n.last]] w fun e w' => e = .returned (.bool true) ∧ Below w.heap.size w w' from fun w hP => by
    have := fine_of A A2 c c2 p m n w hP true (fun w hP => valB_yes hv A A2 c c2 w hP)
    rwa [show fineB p true m n = true by simp [fineB, hs, hm, hn]] at this)
  have C18 := Lib.hid (show ∀ w, PlAt w w.heap.size A c A2 c2 p → Calls Tryz.prog 18 #[.agg #[.slice A p.nodes.length c, .slice A2 p.rails.length c2], .agg #[.int .i64 m.rail, .bool m.last], .agg #[.int .i64 n.rail, .bool n.last]] w fun e w' => (((∀ q, ¬ Sw M (keyE m) (keyE n) (nxN p) q) ∧ e = .returned (.tuple #[.slice none 0 0, .int .i64 4])) ∨ (∃ A9 c9 q, e = .returned (.tuple #[.slice A9 q.length c9, .int .i64 0]) ∧ Sl w' w'.heap.size 2 CE A9 (mvs q) ∧ Sw M (keyE m) (keyE n) (nxN p) q ∧ ∀ r, Sw M (keyE m) (keyE n) (nxN p) r → q = r ∨ bf (wtP p) q r)) ∧ Below w.heap.size w w' from fun w hP => by
    refine (Shortest_in A A2 c c2 M nn res p m n w hM hP hv hm hn hs1 hbd hnx).mono ?_
    rintro e w' ⟨⟨h0, rfl⟩ | ⟨h0, v, q, rfl, how, hpq⟩, hb⟩
    · exact ⟨.inl ⟨none_sw hL h0, rfl⟩, hb⟩
    · obtain ⟨s, rfl, hg⟩ := pq_gr q _ hpq
      obtain ⟨h1, h2⟩ := gr_sw hnet hL hfM hg
      obtain ⟨A9, c9, rfl, _, _, _⟩ := how.form
      refine ⟨.inr ⟨A9, c9, _, by simp, how.sl fE_len rfl, h1, h2⟩, hb⟩)
  have C36 := Lib.hid (show ∀ w, PlAt w w.heap.size A c A2 c2 p → Calls Tryz.prog 36 #[.agg #[.slice A p.nodes.length c, .slice A2 p.rails.length c2], .agg #[.int .i64 m.rail, .bool m.last], .agg #[.int .i64 n.rail, .bool n.last]] w fun e w' => (∃ A3 c3 ml, e = .returned (.slice A3 ml.length c3) ∧ Own w' w.heap.size 31 1 fW (.slice A3 ml.length c3) ml ∧ (∀ x ∈ ml, MR w' x) ∧ (ml.map W3.l).Pairwise (bf (wtP p)) ∧ (∀ q, q ∈ ml.map W3.l ↔ Sw M (keyE m) (keyE n) (nxN p) q) ∧ ml.length ≤ 131072) ∧ Below w.heap.size w w' from fun w hP => by
    refine (rWays_any A A2 c c2 M p m n w hM h16 hP hv hm hn).mono ?_
    rintro e w' ⟨v, ml, rfl, how, h1, h2, h3, h4, hb⟩
    obtain ⟨A3, c3, rfl, _, _, _⟩ := how.form
    exact ⟨⟨A3, c3, ml, rfl, how, h1, h2, h3, h4⟩, hb⟩)
  have C37 := Lib.hid (show ∀ (B1 B2 : Option Addr) (d1 d2 : Nat) (x y : List Nat) (w : World), Sl w w.heap.size 2 CE B1 (mvs x) → Sl w w.heap.size 2 CE B2 (mvs y) → x.length ≤ 16 → x = y → Calls Tryz.prog 37 #[.slice B1 x.length d1, .slice B2 y.length d2] w fun e w' => e = .returned (.bool true) ∧ Below w.heap.size w w' from fun B1 B2 d1 d2 x y w h1 h2 hl hxy => by
    have := sameMoves_any B1 B2 (mvs x) (mvs y) d1 d2 w h1 h2 (by rw [mvs_len]; omega)
    rw [mvs_len, mvs_len] at this
    exact this.mono fun e w' ⟨⟨b, h3, h4⟩, h5⟩ => ⟨by rw [h3, h4.2 (by rw [hxy])], h5⟩)
  have HL16 := Lib.hid (show ∀ q, Sw M (keyE m) (keyE n) (nxN p) q → q.length ≤ 16 from fun q hq => Nat.le_trans (nodup_le hq.nd hq.lt) h16)
  have C20 := Lib.hid (show ∀ w, PlAt w w.heap.size A c A2 c2 p → Calls Tryz.prog 20 #[.agg #[.slice A p.nodes.length c, .slice A2 p.rails.length c2], .agg #[.int .i64 m.rail, .bool m.last], .agg #[.int .i64 n.rail, .bool n.last], .int .i64 k] w fun e w' => e = .returned (.tuple #[.slice none 0 0, .int .i64 2]) ∧ Below w.heap.size w w' from fun w hP => Ways_bad A A2 c c2 M k p m n w hM hP hv hm hn hk)
  have d1 : ¬ (7 : Int) < (p.nodes.length : Int) := by omega
  have d2 : ¬ (8 : Int) < (p.rails.length : Int) := by omega
  have d3 : decide ((7 : Int) < (p.nodes.length : Int)) = false := by rw [decide_eq_false_iff_not]; exact d1
  have d4 : decide ((8 : Int) < (p.rails.length : Int)) = false := by rw [decide_eq_false_iff_not]; exact d2
  obtain ⟨f, hf⟩ : ∃ z, keyE m = z := ⟨_, rfl⟩
  obtain ⟨t, ht⟩ : ∃ z, keyE n = z := ⟨_, rfl⟩
  rw [hf, ht] at C18 C36 HL16
  clear hP hv hs hm hn hM hnet hfM htM hs1 hbd hnx hrl hL0 hL hf ht h7 h8
  unfold ShC
  go_enter Tryz.func6, Tryz.ntmps6
  go_wp2_with fail
  refine (C30.out _ H1.out.pl).mono ?_
  rintro e w2 ⟨rfl, hb2⟩
  have H2 := Lib.hid (H1.out.next hb2)
  obtain ⟨k0, k1, m0, m1, n0, n1, _, _, _⟩ := H2.out
  clear hb2 H1
  go_wp2_with fail
  refine (C18.out _ H2.out.pl).mono ?_
  rintro e w3 ⟨hcase, hb3⟩
  have H3 := Lib.hid (H2.out.next hb3)
  clear hb3 k0 k1 m0 m1 n0 n1
  obtain ⟨k0, k1, m0, m1, n0, n1, _, _, _⟩ := H3.out
  rcases hcase with ⟨hno, rfl⟩ | ⟨A9, c9, q, rfl, hsq, hqw, hqb⟩
  · go_wp2_with fail
    refine (C20.out _ H3.out.pl).mono ?_
    rintro e w4 ⟨rfl, hb4⟩
    have H4 := Lib.hid (H3.out.next hb4)
    clear hb4 k0 k1 m0 m1 n0 n1
    obtain ⟨k0, k1, m0, m1, n0, n1, _, _, _⟩ := H4.out
    go_wp2_with fail
    refine (C36.out _ H4.out.pl).mono ?_
    rintro e w5 ⟨⟨A5, c5, ml, rfl, how5, hmr5, hso5, hme5, hle5⟩, hb5⟩
    have H5 := Lib.hid (H4.out.next hb5)
    have HOW5 := Lib.hid how5; have HMR5 := Lib.hid hmr5; have HME5 := Lib.hid hme5
    obtain rfl : ml = [] := by
      rcases ml with _ | ⟨x, r⟩
      · rfl
      · exact absurd ((hme5 x.l).1 (by simp)) (hno _)
    clear how5 hmr5 hso5 hme5 hb5 k0 k1 m0 m1 n0 n1 hno
    simp only [List.length_nil]
    go_wp2_with fail
    all_goals
      refine (known_any _).mono ?_
      rintro e w7 ⟨rfl, hb7⟩
      have H7 := Lib.hid (H5.out.next hb7)
      clear hb7
      go_wp2
      go_ret
      exact ⟨rfl, H7.out.be⟩
  · go_wp2_with fail
    refine (C20.out _ H3.out.pl).mono ?_
    rintro e w4 ⟨rfl, hb4⟩
    have H4 := Lib.hid (H3.out.next hb4)
    have hsq4 := (hsq.below hb4).more (fun _ _ h => h) hb4.size
    clear hb4 k0 k1 m0 m1 n0 n1
    obtain ⟨k0, k1, m0, m1, n0, n1, _, _, _⟩ := H4.out
    go_wp2_with fail
    refine (C36.out _ H4.out.pl).mono ?_
    rintro e w5 ⟨⟨A5, c5, ml, rfl, how5, hmr5, hso5, hme5, hle5⟩, hb5⟩
    have H5 := Lib.hid (H4.out.next hb5)
    have HSQ := Lib.hid ((hsq4.below hb5).more (fun _ _ h => h) hb5.size)
    have HOW5 := Lib.hid how5; have HMR5 := Lib.hid hmr5; have HME5 := Lib.hid hme5
    have hh := first_is hso5 hme5 hqw hqb
    obtain ⟨x0, mr, rfl⟩ : ∃ x r, ml = x :: r := by
      rcases ml with _ | ⟨x, r⟩
      · simp at hh
      · exact ⟨x, r, rfl⟩
    have HX0 := Lib.hid (show q = x0.l by simpa using hh.symm)
    obtain ⟨g5, c5', e5, _, hg5, p5⟩ := own_at31 HOW5.out (i := 0) (by simp)
    obtain ⟨rfl, ex1⟩ : A5 = some ⟨g5, 0, none⟩ ∧ c5 = c5' := by simpa using e5
    clear ex1
    have p5' : w5.cell? ⟨g5, 0, none⟩ = some (.slice x0.A x0.l.length x0.c) := p5
    have hmx := HMR5.out x0 (by simp)
    have hq16 := HL16.out q hqw
    clear how5 hmr5 hso5 hme5 hb5 k0 k1 m0 m1 n0 n1 hh e5 p5 hsq hsq4 hqb
    obtain ⟨N, hN⟩ : ∃ z, mr.length + 1 = z := ⟨_, rfl⟩
    have HN := Lib.hid hN
    have hN1 : (0 : Int) < (N : Int) := by omega
    have hN2 : ¬ (N : Int) = 0 := by omega
    have hNd : ((N : Int) == 0) = false := by rw [beq_eq_false_iff_ne]; exact hN2
    simp only [List.length_cons]
    rw [hN]
    clear hN
    go_wp2_with fail
    (with_reducible refine (C37.out A9 x0.A c9 x0.c q x0.l _ HSQ.out hmx.sl hq16 HX0.out).mono ?_)
    rintro e w6 ⟨rfl, hb6⟩
    have H6 := Lib.hid (H5.out.next hb6)
    have HB6 := Lib.hid hb6
    clear hb6 p5' hmx hq16
    go_wp2_with fail
    all_goals
      refine (known_any _).mono ?_
      rintro e w7 ⟨rfl, hb7⟩
      have H7 := Lib.hid (H6.out.next hb7)
      clear hb7
      go_wp2
      go_ret
      exact ⟨rfl, H7.out.be⟩

set_option maxRecDepth 100000 in
set_option maxHeartbeats 4000000 in
theorem Sh_good (hP : PlAt w w.heap.size A c A2 c2 p) (hv : Vld p) (hs : smallB p = true) (hm : railIn p m.rail = true) (hn : railIn p n.rail = true) (h7 : p.nodes.length ≤ 7) (h8 : p.rails.length ≤ 8) (hk : 1 ≤ k ∧ k ≤ 200) : ShC A A2 c c2 p m n k w := by
  obtain ⟨M, hM⟩ : ∃ M, 2 * p.rails.length = M := ⟨_, rfl⟩
  have h16 : M ≤ 16 := by omega
  have hnet := plan_net hv hM
  have hfM : keyE m < M := by have := (key_in hm).2.1; omega
  have htM : keyE n < M := by have := (key_in hn).2.1; omega
  obtain ⟨nn, res, hs1, hbd, hnx, hrl, hL0⟩ := closed_facts hv hs hM htM [] (by simp)
  have hL : Lab M (keyE n) (nxN p) (wtP p) (fun _ => False) (fun x => gC res x) := by simpa using hL0
  rw [clL_nil] at hs1
  have H1 := Lib.hid (G3st.start m n hP)
  have C30 := Lib.hid (show ∀ w, PlAt w w.heap.size A c A2 c2 p → Calls Tryz.prog 30 #[.agg #[.slice A p.nodes.length c, .slice A2 p.rails.length c2], .agg #[.int .i64 m.rail, .bool m.last], .agg #[.int .i64 n.rail, .bool n.last]] w fun e w' => e = .returned (.bool true) ∧ Below w.heap.size w w' from fun w hP => by
    have := fine_of A A2 c c2 p m n w hP true (fun w hP => valB_yes hv A A2 c c2 w hP)
    rwa [show fineB p true m n = true by simp [fineB, hs, hm, hn]] at this)
  have C18 := Lib.hid (show ∀ w, PlAt w w.heap.size A c A2 c2 p → Calls Tryz.prog 18 #[.agg #[.slice A p.nodes.length c, .slice A2 p.rails.length c2], .agg #[.int .i64 m.rail, .bool m.last], .agg #[.int .i64 n.rail, .bool n.last]] w fun e w' => (((∀ q, ¬ Sw M (keyE m) (keyE n) (nxN p) q) ∧ e = .returned (.tuple #[.slice none 0 0, .int .i64 4])) ∨ (∃ A9 c9 q, e = .returned (.tuple #[.slice A9 q.length c9, .int .i64 0]) ∧ Sl w' w'.heap.size 2 CE A9 (mvs q) ∧ Sw M (keyE m) (keyE n) (nxN p) q ∧ ∀ r, Sw M (keyE m) (keyE n) (nxN p) r → q = r ∨ bf (wtP p) q r)) ∧ Below w.heap.size w w' from fun w hP => by
    refine (Shortest_in A A2 c c2 M nn res p m n w hM hP hv hm hn hs1 hbd hnx).mono ?_
    rintro e w' ⟨⟨h0, rfl⟩ | ⟨h0, v, q, rfl, how, hpq⟩, hb⟩
    · exact ⟨.inl ⟨none_sw hL h0, rfl⟩, hb⟩
    · obtain ⟨s, rfl, hg⟩ := pq_gr q _ hpq
      obtain ⟨h1, h2⟩ := gr_sw hnet hL hfM hg
      obtain ⟨A9, c9, rfl, _, _, _⟩ := how.form
      refine ⟨.inr ⟨A9, c9, _, by simp, how.sl fE_len rfl, h1, h2⟩, hb⟩)
  have C36 := Lib.hid (show ∀ w, PlAt w w.heap.size A c A2 c2 p → Calls Tryz.prog 36 #[.agg #[.slice A p.nodes.length c, .slice A2 p.rails.length c2], .agg #[.int .i64 m.rail, .bool m.last], .agg #[.int .i64 n.rail, .bool n.last]] w fun e w' => (∃ A3 c3 ml, e = .returned (.slice A3 ml.length c3) ∧ Own w' w.heap.size 31 1 fW (.slice A3 ml.length c3) ml ∧ (∀ x ∈ ml, MR w' x) ∧ (ml.map W3.l).Pairwise (bf (wtP p)) ∧ (∀ q, q ∈ ml.map W3.l ↔ Sw M (keyE m) (keyE n) (nxN p) q) ∧ ml.length ≤ 131072) ∧ Below w.heap.size w w' from fun w hP => by
    refine (rWays_any A A2 c c2 M p m n w hM h16 hP hv hm hn).mono ?_
    rintro e w' ⟨v, ml, rfl, how, h1, h2, h3, h4, hb⟩
    obtain ⟨A3, c3, rfl, _, _, _⟩ := how.form
    exact ⟨⟨A3, c3, ml, rfl, how, h1, h2, h3, h4⟩, hb⟩)
  have C37 := Lib.hid (show ∀ (B1 B2 : Option Addr) (d1 d2 : Nat) (x y : List Nat) (w : World), Sl w w.heap.size 2 CE B1 (mvs x) → Sl w w.heap.size 2 CE B2 (mvs y) → x.length ≤ 16 → x = y → Calls Tryz.prog 37 #[.slice B1 x.length d1, .slice B2 y.length d2] w fun e w' => e = .returned (.bool true) ∧ Below w.heap.size w w' from fun B1 B2 d1 d2 x y w h1 h2 hl hxy => by
    have := sameMoves_any B1 B2 (mvs x) (mvs y) d1 d2 w h1 h2 (by rw [mvs_len]; omega)
    rw [mvs_len, mvs_len] at this
    exact this.mono fun e w' ⟨⟨b, h3, h4⟩, h5⟩ => ⟨by rw [h3, h4.2 (by rw [hxy])], h5⟩)
  have HL16 := Lib.hid (show ∀ q, Sw M (keyE m) (keyE n) (nxN p) q → q.length ≤ 16 from fun q hq => Nat.le_trans (nodup_le hq.nd hq.lt) h16)
  obtain ⟨most, rfl⟩ : ∃ z : Nat, k = z := ⟨k.toNat, by omega⟩
  have C20 := Lib.hid (show ∀ w, PlAt w w.heap.size A c A2 c2 p → Calls Tryz.prog 20 #[.agg #[.slice A p.nodes.length c, .slice A2 p.rails.length c2], .agg #[.int .i64 m.rail, .bool m.last], .agg #[.int .i64 n.rail, .bool n.last], .int .i64 (most : Int)] w fun e w' => (∃ A4 c4 wl, e = .returned (.tuple #[.slice A4 wl.length c4, .int .i64 0]) ∧ Own w' w.heap.size 31 1 fW (.slice A4 wl.length c4) wl ∧ (∀ x ∈ wl, MR w' x) ∧ Res M (keyE m) (keyE n) (nxN p) (wtP p) most (wl.map W3.l) ∧ wl.length ≤ most) ∧ Below w.heap.size w w' from fun w hP => by
    refine (Ways_in A A2 c c2 M most p m n w hM hP hv hs hm hn (by omega) (by omega)).mono ?_
    rintro e w' ⟨v, ml, rfl, how, h1, h2, h3, hb⟩
    obtain ⟨A3, c3, rfl, _, _, _⟩ := how.form
    exact ⟨⟨A3, c3, ml, rfl, how, h1, h2, h3⟩, hb⟩)
  have hk1 : ¬ (most : Int) < 1 := by omega
  have hk2 : ¬ (200 : Int) < (most : Int) := by omega
  have hk3 : decide ((most : Int) < 1) = false := by rw [decide_eq_false_iff_not]; exact hk1
  have hk4 : decide ((200 : Int) < (most : Int)) = false := by rw [decide_eq_false_iff_not]; exact hk2
  have d1 : ¬ (7 : Int) < (p.nodes.length : Int) := by omega
  have d2 : ¬ (8 : Int) < (p.rails.length : Int) := by omega
  have d3 : decide ((7 : Int) < (p.nodes.length : Int)) = false := by rw [decide_eq_false_iff_not]; exact d1
  have d4 : decide ((8 : Int) < (p.rails.length : Int)) = false := by rw [decide_eq_false_iff_not]; exact d2
  obtain ⟨f, hf⟩ : ∃ z, keyE m = z := ⟨_, rfl⟩
  obtain ⟨t, ht⟩ : ∃ z, keyE n = z := ⟨_, rfl⟩
  rw [hf, ht] at C18 C36 HL16 C20
  clear hP hv hs hm hn hM hnet hfM htM hs1 hbd hnx hrl hL0 hL hf ht h7 h8
  unfold ShC
  go_enter Tryz.func6, Tryz.ntmps6
  go_wp2_with fail
  refine (C30.out _ H1.out.pl).mono ?_
  rintro e w2 ⟨rfl, hb2⟩
  have H2 := Lib.hid (H1.out.next hb2)
  obtain ⟨k0, k1, m0, m1, n0, n1, _, _, _⟩ := H2.out
  clear hb2 H1
  go_wp2_with fail
  refine (C18.out _ H2.out.pl).mono ?_
  rintro e w3 ⟨hcase, hb3⟩
  have H3 := Lib.hid (H2.out.next hb3)
  clear hb3 k0 k1 m0 m1 n0 n1
  obtain ⟨k0, k1, m0, m1, n0, n1, _, _, _⟩ := H3.out
  rcases hcase with ⟨hno, rfl⟩ | ⟨A9, c9, q, rfl, hsq, hqw, hqb⟩
  · go_wp2_with fail
    refine (C20.out _ H3.out.pl).mono ?_
    rintro e w4 ⟨⟨A4, c4, wl, rfl, how4, hmr4, hre4, hle4⟩, hb4⟩
    have H4 := Lib.hid (H3.out.next hb4)
    clear hb4 k0 k1 m0 m1 n0 n1
    obtain ⟨k0, k1, m0, m1, n0, n1, _, _, _⟩ := H4.out
    go_wp2_with fail
    refine (C36.out _ H4.out.pl).mono ?_
    rintro e w5 ⟨⟨A5, c5, ml, rfl, how5, hmr5, hso5, hme5, hle5⟩, hb5⟩
    have H5 := Lib.hid (H4.out.next hb5)
    have HOW4 := Lib.hid (how4.below hb5 (Nat.le_refl _))
    have HMR4 := Lib.hid (show ∀ x ∈ wl, MR w5 x from fun x hx => (hmr4 x hx).kp (Kp.below [27] hb5) (by simp))
    have HEQ := Lib.hid (hre4.is (by rw [List.length_map]; exact hle4) hso5 hme5)
    clear how4 hmr4 hre4
    have HOW5 := Lib.hid how5; have HMR5 := Lib.hid hmr5; have HME5 := Lib.hid hme5
    obtain rfl : ml = [] := by
      rcases ml with _ | ⟨x, r⟩
      · rfl
      · exact absurd ((hme5 x.l).1 (by simp)) (hno _)
    clear how5 hmr5 hso5 hme5 hb5 k0 k1 m0 m1 n0 n1 hno
    simp only [List.length_nil]
    have hl1 := congrArg List.length HEQ.out
    rw [List.length_map, List.length_take, List.length_map] at hl1
    simp only [List.length_nil] at hl1
    obtain ⟨K4, hK4⟩ : ∃ z, wl.length = z := ⟨_, rfl⟩
    have HK4 := Lib.hid hK4
    rw [hK4] at hl1 hle4 ⊢
    have hmin : min (most : Int) (0 : Int) = (K4 : Int) := by omega
    have hle := Lib.hid hl1
    clear hK4 hl1
    have hK0 : K4 = 0 := by have := hle.out; omega
    have hmin2 : min 0 (most : Int) = (K4 : Int) := by omega
    have HBL := Lib.hid (show Below w5.heap.size w5 w5 from (Below.refl _ _))
    go_wp2_with fail
    go_loopw [14] (fun s14 wr => ∃ i : Nat, i ≤ K4 ∧ s14 = .int .i64 (i : Int) ∧ Below w5.heap.size w5 wr) (fun s14 _ => K4 - (intOf s14).toNat)
    case atStart => exact ⟨0, Nat.zero_le _, rfl, HBL.out⟩
    case round =>
      obtain ⟨i, hi, rfl, hb⟩ := hrel
      have HB := Lib.hid hb
      clear hb
      have hz : ¬ (i : Int) < (K4 : Int) := by omega
      go_wp2_with fail
      refine (known_any _).mono ?_
      rintro e w7 ⟨rfl, hb7⟩
      have H7 := Lib.hid ((H5.out.next HB.out).next hb7)
      clear hb7
      go_wp2
      go_ret
      exact ⟨rfl, H7.out.be⟩
  · go_wp2_with fail
    refine (C20.out _ H3.out.pl).mono ?_
    rintro e w4 ⟨⟨A4, c4, wl, rfl, how4, hmr4, hre4, hle4⟩, hb4⟩
    have H4 := Lib.hid (H3.out.next hb4)
    have hsq4 := (hsq.below hb4).more (fun _ _ h => h) hb4.size
    clear hb4 k0 k1 m0 m1 n0 n1
    obtain ⟨k0, k1, m0, m1, n0, n1, _, _, _⟩ := H4.out
    go_wp2_with fail
    refine (C36.out _ H4.out.pl).mono ?_
    rintro e w5 ⟨⟨A5, c5, ml, rfl, how5, hmr5, hso5, hme5, hle5⟩, hb5⟩
    have H5 := Lib.hid (H4.out.next hb5)
    have HSQ := Lib.hid ((hsq4.below hb5).more (fun _ _ h => h) hb5.size)
    have HOW4 := Lib.hid (how4.below hb5 (Nat.le_refl _))
    have HMR4 := Lib.hid (show ∀ x ∈ wl, MR w5 x from fun x hx => (hmr4 x hx).kp (Kp.below [27] hb5) (by simp))
    have HEQ := Lib.hid (hre4.is (by rw [List.length_map]; exact hle4) hso5 hme5)
    clear how4 hmr4 hre4
    have HOW5 := Lib.hid how5; have HMR5 := Lib.hid hmr5; have HME5 := Lib.hid hme5
    have hh := first_is hso5 hme5 hqw hqb
    obtain ⟨x0, mr, rfl⟩ : ∃ x r, ml = x :: r := by
      rcases ml with _ | ⟨x, r⟩
      · simp at hh
      · exact ⟨x, r, rfl⟩
    have HX0 := Lib.hid (show q = x0.l by simpa using hh.symm)
    obtain ⟨g5, c5', e5, _, hg5, p5⟩ := own_at31 HOW5.out (i := 0) (by simp)
    obtain ⟨rfl, ex1⟩ : A5 = some ⟨g5, 0, none⟩ ∧ c5 = c5' := by simpa using e5
    clear ex1
    have p5' : w5.cell? ⟨g5, 0, none⟩ = some (.slice x0.A x0.l.length x0.c) := p5
    have hmx := HMR5.out x0 (by simp)
    have hq16 := HL16.out q hqw
    clear how5 hmr5 hso5 hme5 hb5 k0 k1 m0 m1 n0 n1 hh e5 p5 hsq hsq4 hqb
    obtain ⟨N, hN⟩ : ∃ z, mr.length + 1 = z := ⟨_, rfl⟩
    have HN := Lib.hid hN
    have hN1 : (0 : Int) < (N : Int) := by omega
    have hN2 : ¬ (N : Int) = 0 := by omega
    have hNd : ((N : Int) == 0) = false := by rw [beq_eq_false_iff_ne]; exact hN2
    simp only [List.length_cons]
    rw [hN]
    clear hN
    go_wp2_with fail
    (with_reducible refine (C37.out A9 x0.A c9 x0.c q x0.l _ HSQ.out hmx.sl hq16 HX0.out).mono ?_)
    rintro e w6 ⟨rfl, hb6⟩
    have H6 := Lib.hid (H5.out.next hb6)
    have HB6 := Lib.hid hb6
    clear hb6 p5' hmx hq16
    have hl1 := congrArg List.length HEQ.out
    rw [List.length_map, List.length_take, List.length_map] at hl1
    simp only [List.length_cons] at hl1
    rw [HN.out] at hl1
    obtain ⟨K4, hK4⟩ : ∃ z, wl.length = z := ⟨_, rfl⟩
    have HK4 := Lib.hid hK4
    rw [hK4] at hl1 hle4 ⊢
    have hmin : min (most : Int) (N : Int) = (K4 : Int) := by omega
    have hle := Lib.hid hl1
    clear hK4 hl1
    have HBL := Lib.hid (show Below w5.heap.size w5 w6 from HB6.out)
    go_wp2_with fail
    go_loopw [14] (fun s14 wr => ∃ i : Nat, i ≤ K4 ∧ s14 = .int .i64 (i : Int) ∧ Below w5.heap.size w5 wr) (fun s14 _ => K4 - (intOf s14).toNat)
    case atStart => exact ⟨0, Nat.zero_le _, rfl, HBL.out⟩
    case round =>
      obtain ⟨i, hi, rfl, hb⟩ := hrel
      have HB := Lib.hid hb
      clear hb
      by_cases hiK : i < K4
      · have hiw : i < wl.length := by rw [HK4.out]; exact hiK
        have hin : i < (x0 :: mr).length := by have := hle.out; have := HN.out; rw [List.length_cons]; omega
        obtain ⟨g4, c4', e4, _, hg4, p4⟩ := own_at31 HOW4.out hiw
        obtain ⟨rfl, ex1⟩ : A4 = some ⟨g4, 0, none⟩ ∧ c4 = c4' := by simpa using e4
        obtain ⟨g5', c5x, e5, _, hg5x, p5⟩ := own_at31 HOW5.out hin
        obtain ⟨rfl, ex2⟩ : g5 = g5' ∧ c5 = c5x := by simpa using e5
        obtain ⟨y, hy⟩ : ∃ z, wl[i] = z := ⟨_, rfl⟩
        obtain ⟨z, hzz⟩ : ∃ z, (x0 :: mr)[i] = z := ⟨_, rfl⟩
        have hyz : y.l = z.l := by
          have h1 : (wl.map W3.l)[i]? = some y.l := by rw [List.getElem?_map, List.getElem?_eq_getElem hiw, hy]; rfl
          rw [HEQ.out, List.getElem?_take_of_lt (by have := hle.out; omega), List.getElem?_map, List.getElem?_eq_getElem hin, hzz] at h1
          simpa using h1.symm
        have hym : y ∈ wl := by rw [← hy]; exact List.getElem_mem hiw
        have hzm : z ∈ x0 :: mr := by rw [← hzz]; exact List.getElem_mem hin
        have hzs := (HME5.out z.l).1 (List.mem_map_of_mem hzm)
        have hl16 := HL16.out _ hzs
        rw [← hyz] at hl16
        rw [hy] at p4
        rw [hzz] at p5
        have HMY := Lib.hid (show ∀ wx, Below w5.heap.size w5 wx → Sl wx wx.heap.size 2 CE y.A (mvs y.l) from fun wx hb => ((HMR4.out y hym).kp (Kp.below [27] hb) (by simp)).sl)
        have HMZ := Lib.hid (show ∀ wx, Below w5.heap.size w5 wx → Sl wx wx.heap.size 2 CE z.A (mvs z.l) from fun wx hb => ((HMR5.out z hzm).kp (Kp.below [27] hb) (by simp)).sl)
        have HKL := Lib.hid (show ∀ wx, Below w5.heap.size w5 wx → SL2 g4 g5 i (.slice y.A y.l.length y.c) (.slice z.A z.l.length z.c) wx from fun wx hb => ⟨(hb.cell (p := ⟨g4, i, none⟩) hg4).trans p4, (hb.cell (p := ⟨g5, i, none⟩) hg5x).trans p5⟩)
        have HYZ := Lib.hid hyz
        have i0 : (0 : Int) ≤ (i : Int) := by omega
        have i1 : (i : Int) < (K4 : Int) := by omega
        have i2 : (i : Int) < (N : Int) := by have := hle.out; omega
        clear e4 ex1 e5 ex2 hy hzz hyz hym hzm hzs p4 p5
        go_upto_region 15 with (fail)
        have hbq : Below wr.heap.size wr wr.drew := (Below.refl _ _).drew
        have hwr := HB.out.size
        have HS := Lib.hid (HKL.out _ (HB.out.trans (hbq.mono hwr)))
        refine wp_region_held_drew (S := SL2 g4 g5 i (.slice y.A y.l.length y.c) (.slice z.A z.l.length z.c)) (by kernel_rfl) HS.out (fun _ => ?_)
        refine hTake (i := 0) (d := 114) (v := .slice (some ⟨g4, 0, none⟩) K4 c4) rfl rfl (by kernel_rfl) (by kernel_rfl) (by kernel_rfl) (fun _ _ _ h => h) (Or.inl ⟨rfl, ?gr⟩) HS.out ?_
        case gr =>
          rintro W' ⟨s0, s1⟩
          go_simp
        simp only [Act.put, List.setIfInBounds_toArray, List.set_cons_zero, List.set_cons_succ]
        refine hTake (i := 1) (d := 115) (v := .int .i64 (i : Int)) rfl rfl (by kernel_rfl) (by kernel_rfl) (by kernel_rfl) (fun _ _ _ h => h) (Or.inl ⟨rfl, ?gr⟩) HS.out ?_
        case gr =>
          rintro W' ⟨s0, s1⟩
          go_simp
        simp only [Act.put, List.setIfInBounds_toArray, List.set_cons_zero, List.set_cons_succ]
        refine hTake (i := 2) (d := 116) (v := .pointer (some ⟨g4, i, none⟩)) rfl rfl (by kernel_rfl) (by kernel_rfl) (by kernel_rfl) (fun _ _ _ h => h) (Or.inl ⟨rfl, ?gr⟩) HS.out ?_
        case gr =>
          rintro W' ⟨s0, s1⟩
          go_simp
        simp only [Act.put, List.setIfInBounds_toArray, List.set_cons_zero, List.set_cons_succ]
        refine hTake (i := 3) (d := 117) (v := .slice y.A y.l.length y.c) rfl rfl (by kernel_rfl) (by kernel_rfl) (by kernel_rfl) (fun _ _ _ h => h) (Or.inl ⟨rfl, ?gr⟩) HS.out ?_
        case gr =>
          rintro W' ⟨s0, s1⟩
          go_simp
        simp only [Act.put, List.setIfInBounds_toArray, List.set_cons_zero, List.set_cons_succ]
        refine hTake (i := 4) (d := 118) (v := .slice (some ⟨g5, 0, none⟩) N c5) rfl rfl (by kernel_rfl) (by kernel_rfl) (by kernel_rfl) (fun _ _ _ h => h) (Or.inl ⟨rfl, ?gr⟩) HS.out ?_
        case gr =>
          rintro W' ⟨s0, s1⟩
          go_simp
        simp only [Act.put, List.setIfInBounds_toArray, List.set_cons_zero, List.set_cons_succ]
        refine hTake (i := 5) (d := 119) (v := .int .i64 (i : Int)) rfl rfl (by kernel_rfl) (by kernel_rfl) (by kernel_rfl) (fun _ _ _ h => h) (Or.inl ⟨rfl, ?gr⟩) HS.out ?_
        case gr =>
          rintro W' ⟨s0, s1⟩
          go_simp
        simp only [Act.put, List.setIfInBounds_toArray, List.set_cons_zero, List.set_cons_succ]
        refine hTake (i := 6) (d := 120) (v := .pointer (some ⟨g5, i, none⟩)) rfl rfl (by kernel_rfl) (by kernel_rfl) (by kernel_rfl) (fun _ _ _ h => h) (Or.inl ⟨rfl, ?gr⟩) HS.out ?_
        case gr =>
          rintro W' ⟨s0, s1⟩
          go_simp
        simp only [Act.put, List.setIfInBounds_toArray, List.set_cons_zero, List.set_cons_succ]
        refine hTake (i := 7) (d := 121) (v := .slice z.A z.l.length z.c) rfl rfl (by kernel_rfl) (by kernel_rfl) (by kernel_rfl) (fun _ _ _ h => h) (Or.inl ⟨rfl, ?gr⟩) HS.out ?_
        case gr =>
          rintro W' ⟨s0, s1⟩
          go_simp
        simp only [Act.put, List.setIfInBounds_toArray, List.set_cons_zero, List.set_cons_succ]
        refine wpAnyH_ready (rs := [8]) (by kernel_rfl) (by simp) ?_
        refine AllReadyH.cons rfl (fun K hK => ?_) AllReadyH.nil
        rw [if_pos (by rfl)]
        go_simp
        go_at_call 37
        (with_reducible refine (C37.out y.A z.A y.c z.c y.l z.l _ (HMY.out _ (HB.out.trans (hbq.mono hwr))) (HMZ.out _ (HB.out.trans (hbq.mono hwr))) hl16 HYZ.out).mono ?_)
        rintro e w8 ⟨rfl, hb8⟩
        replace hbq := hbq.trans (hb8.mono hbq.size)
        have HS := Lib.hid (HKL.out _ (HB.out.trans (hbq.mono hwr)))
        clear hb8
        refine hK.out _ _ HS.out (fun _ => ?_)
        clear hK K
        try simp only [Act.put, List.setIfInBounds_toArray, List.set_cons_zero, List.set_cons_succ]
        refine hTake (i := 9) (d := 123) (v := .bool false) rfl rfl (by kernel_rfl) (by kernel_rfl) (by kernel_rfl) (fun _ _ _ h => h) (Or.inl ⟨rfl, ?gr⟩) HS.out ?_
        case gr =>
          rintro W' ⟨s0, s1⟩
          go_simp
        simp only [Act.put, List.setIfInBounds_toArray, List.set_cons_zero, List.set_cons_succ]
        refine wpAnyH_done (by kernel_rfl) ?_ _
        go_wp2_with fail
        go_roundw
        case rel => exact ⟨i + 1, by omega, by go_num, HB.out.trans (hbq.mono hwr)⟩
        case measure => simp [intOf]; omega
      · have hz : ¬ (i : Int) < (K4 : Int) := by omega
        go_wp2_with fail
        refine (known_any _).mono ?_
        rintro e w7 ⟨rfl, hb7⟩
        have H7 := Lib.hid ((H5.out.next HB.out).next hb7)
        clear hb7
        go_wp2
        go_ret
        exact ⟨rfl, H7.out.be⟩
theorem Sh_any (hP : PlAt w w.heap.size A c A2 c2 p) : ShC A A2 c c2 p m n k w := by
  by_cases hv : Vld p
  · cases hs : smallB p
    · exact Sh_not A A2 c c2 p m n k w hP true (valB_yes hv) (.inl (by simp [fineB, hs]))
    cases hm : railIn p m.rail
    · exact Sh_not A A2 c c2 p m n k w hP true (valB_yes hv) (.inl (by simp [fineB, hm]))
    cases hn : railIn p n.rail
    · exact Sh_not A A2 c c2 p m n k w hP true (valB_yes hv) (.inl (by simp [fineB, hn]))
    by_cases hl : 7 < p.nodes.length ∨ 8 < p.rails.length
    · exact Sh_not A A2 c c2 p m n k w hP true (valB_yes hv) (.inr ⟨by simp [fineB, hs, hm, hn], hl⟩)
    · by_cases hk : k < 1 ∨ 200 < k
      · exact Sh_bad A A2 c c2 p m n k w hP hv hs hm hn (by omega) (by omega) hk
      · exact Sh_good A A2 c c2 p m n k w hP hv hs hm hn (by omega) (by omega) (by omega)
  · exact Sh_not A A2 c c2 p m n k w hP false (valB_no hv) (.inl (by simp [fineB]))
end
end Go.Proofs.YtcpanfpijljeaaaGreat.DH
namespace Go.Proofs.YtcpanfpijljeaaaGreat
set_option linter.unusedVariables false
set_option linter.unusedSimpArgs false
open Go.RowKit
section row
open Go.ChangeShapes Go.WideShapes Go.ChangeAt Go.Deep

set_option maxRecDepth 100000 in
set_option maxHeartbeats 1600000 in
theorem trackShortest_lifted (os : Os) (started : os.Started) (H : Type) (enc : TypeId × Value → H) :
    ReturnsInHanded {} Tryz.checked os 6 .any (Rows.trackShortestSpec.pre6 enc Tryz.prog Tryz.f6 Rows.trackShortestRow.domain false) (Rows.trackShortestSpec.post enc Tryz.prog Tryz.f6 false true false false) := by
  refine returnsInHanded_of_change_sized (C := Tryz.checked) (by kernel_rfl : ownKnob Tryz.prog.godebug = none) started (by kernel_rfl) Tryz.func6
    (ChangeSpec.witness6 (enc := enc) (C := Tryz.checked) false ⟨#[], #[.agg #[.slice none 0 0, .slice none 0 0], .agg #[.int .i64 0, .bool false], .agg #[.int .i64 0, .bool false], .int .i64 0], []⟩ 8 (by kernel_rfl) (by kernel_rfl) (by kernel_rfl) (by kernel_rfl)) ?_
  intro W base args ds gs before hval0 hW _ hsz0 _
  have hsz : (DataW.weightsEach Tryz.prog (Tryz.f6.params.toList ++ Rows.trackShortestSpec.plain.varTypes Tryz.prog) (ds ++ gs)).all (· ≤ reachBytes) = true := hsz0
  clear hsz0
  have hval : ∀ (j : Nat) t v, Tryz.f6.params[j]? = some t → args[j]? = some v → Value.okWide Tryz.prog W .any base t v := hval0
  have hW' := hW
  obtain ⟨p, q, hA0, hV, rfl, hfz, _⟩ := hW
  have hA : DataW.TrodAll enc Tryz.prog W 0 (fun _ => true) true Tryz.f6.params.toList args.toList ds p := hA0
  rw [Tryz.params6] at hA hval hsz
  obtain ⟨v0, v1, v2, v3, d0, d1, d2, d3, p0, p1, p2, p3, rfl, rfl, rfl, h0, h1, h2, h3⟩ := trodAll_four hA
  obtain ⟨rfl, rfl⟩ := trodVars_none hV
  obtain ⟨cs0, rfl, hcs0⟩ := okWide_struct Tryz.underlying25 (hval 0 25 v0 rfl rfl)
  obtain ⟨cs1, rfl, hcs1⟩ := okWide_struct Tryz.underlying27 (hval 1 27 v1 rfl rfl)
  obtain ⟨cs2, rfl, hcs2⟩ := okWide_struct Tryz.underlying27 (hval 2 27 v2 rfl rfl)
  obtain ⟨r3, rfl, rfl, rfl, wr3⟩ := open_int Tryz.underlying3 (hval 3 3 v3 rfl rfl) h3
  have h0k := h0
  have h1k := h1
  have h2k := h2
  obtain ⟨fuel0, hf0⟩ := h0
  obtain ⟨fuel1, hf1⟩ := h1
  obtain ⟨fuel2, hf2⟩ := h2
  clear hA0 hval0 hA
  simp only [List.append_nil] at hW' hsz
  have hlt : ∀ x ∈ p0 ++ p1 ++ p2, x.block < W.heap.size := fun x hx => hW'.lt x (by simpa using hx)
  obtain ⟨pl, A, c, A2, c2, hq0, hP⟩ := read_Pl (enc := enc) (w := W) (x := (d0, p0)) hf0 (fun n hn => by
    have := List.all_eq_true.1 hsz n (DataW.weights_mem_each (j := 0) (t := 25) (d := d0) rfl rfl n hn)
    simpa using this)
  obtain ⟨m1, hq1⟩ := read_Mq (enc := enc) (w := W) (x := (d1, p1)) hf1 (fun n hn => by
    have := List.all_eq_true.1 hsz n (DataW.weights_mem_each (j := 1) (t := 27) (d := d1) rfl rfl n hn)
    simpa using this)
  obtain ⟨m2, hq2⟩ := read_Mq (enc := enc) (w := W) (x := (d2, p2)) hf2 (fun n hn => by
    have := List.all_eq_true.1 hsz n (DataW.weights_mem_each (j := 2) (t := 27) (d := d2) rfl rfl n hn)
    simpa using this)
  obtain rfl : cs0 = #[.slice A pl.nodes.length c, .slice A2 pl.rails.length c2] := by
    apply Array.toList_inj.1
    simpa [Value.cells] using hq0
  obtain rfl : cs1 = #[.int .i64 m1.rail, .bool m1.last] := by
    apply Array.toList_inj.1
    unfold CE at hq1
    simpa [Value.cells] using hq1
  obtain rfl : cs2 = #[.int .i64 m2.rail, .bool m2.last] := by
    apply Array.toList_inj.1
    unfold CE at hq2
    simpa [Value.cells] using hq2
  refine (DH.Sh_any A A2 c c2 pl m1 m2 r3 W hP).mono fun e W' ⟨he, hb⟩ => ?_
  subst he
  have hs : W.Since W.heap.size W' := ⟨hb.os, hb.tape, hb.output, hb.size, hb.block⟩
  have laid : laidOutB Tryz.prog = true := by kernel_rfl
  have ha0 : DataW.Trod enc Tryz.prog W' 0 (fun b => decide (b < W.heap.size)) true 25 (.agg #[.slice A pl.nodes.length c, .slice A2 pl.rails.length c2]) d0 p0 :=
    WideElems.Trod_stays laid (by kernel_rfl) (of_decide_eq_true (by kernel_rfl)) h0k (fun x hx => hs.sameAt (hlt x (by simp [hx]))) (fun x hx => by simpa using hlt x (by simp [hx]))
  have ha1 : DataW.Trod enc Tryz.prog W' 0 (fun b => decide (b < W.heap.size)) true 27 (.agg #[.int .i64 m1.rail, .bool m1.last]) d1 p1 :=
    WideElems.Trod_stays laid (by kernel_rfl) (of_decide_eq_true (by kernel_rfl)) h1k (fun x hx => hs.sameAt (hlt x (by simp [hx]))) (fun x hx => by simpa using hlt x (by simp [hx]))
  have ha2 : DataW.Trod enc Tryz.prog W' 0 (fun b => decide (b < W.heap.size)) true 27 (.agg #[.int .i64 m2.rail, .bool m2.last]) d2 p2 :=
    WideElems.Trod_stays laid (by kernel_rfl) (of_decide_eq_true (by kernel_rfl)) h2k (fun x hx => hs.sameAt (hlt x (by simp [hx]))) (fun x hx => by simpa using hlt x (by simp [hx]))
  exact ⟨_, rfl, _, _, _, [], p0 ++ p1 ++ p2, [], hW', trodAll_mk1 (shut_bool Tryz.underlying4 true), by have := trodAll_mk4 ha0 ha1 ha2 (shut_int (enc := enc) (P := Tryz.prog) (w := W') (base := 0) (spare := fun b => decide (b < W.heap.size)) (held := true) Tryz.underlying3 wr3); (try simp only [List.append_nil, List.nil_append, ← List.append_assoc] at this); exact this, rfl, hs.frame _, fun h => by cases h⟩

theorem trackShortest_holds : Rows.TrackShortestSaid :=
  OpenClaim.holds_of_wide 6 Tryz.f6 rfl rfl rfl rfl rfl rfl rfl ⟨rfl, rfl, rfl, rfl, rfl⟩ rfl rfl rfl rfl rfl (by kernel_rfl) Tryz.func6 (by kernel_rfl)
    (of_decide_eq_true (by kernel_rfl)) (by unfold Func.isWrapper; rw [if_neg (of_decide_eq_false (by kernel_rfl))]; exact ⟨rfl, rfl⟩)
    (fun os started H enc _ => trackShortest_lifted os started H enc)
end row
end Go.Proofs.YtcpanfpijljeaaaGreat
