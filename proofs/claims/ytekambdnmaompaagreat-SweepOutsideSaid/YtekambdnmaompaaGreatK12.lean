/- Parts that lie outside of what is foul. -/
import Derived.Test.YtekambdnmaompaaGreatK13
import Derived.Test.YtekambdnmaompaaGreatK11
namespace Go.Proofs.YtekambdnmaompaaGreat.SW
set_option linter.unusedVariables false
set_option linter.unusedSimpArgs false
open Go.RowKit

def insideL (zl : List C3) (a : C3) : Bool := zl.any fun z => decide (a.frm < z.to) && decide (z.frm < a.to)
theorem lt_step {L : List S} (hr : allR L) (hok : okL L = true) {k : Nat} (hk : k + 1 < L.length) : lenTo L k < lenTo L (k + 1) := by
  have h := (okL_iff L).1 hok k (by omega)
  rw [okD_far (sqd_lt (hr k (by omega)) (hr (k + 1) hk))] at h
  have h1 := (of_decide_eq_true h).1
  show lenTo L k < lenTo L k + far (sAt L k) (sAt L (k + 1))
  omega
theorem lt_mono {L : List S} (hr : allR L) (hok : okL L = true) : ∀ (k j : Nat), j < k → k < L.length → lenTo L j < lenTo L k
  | 0, j, h, _ => by omega
  | k + 1, j, h, hk => by
    have h1 := lt_step hr hok hk
    by_cases e : j = k
    · subst e; exact h1
    · have := lt_mono hr hok k j (by omega) (by omega); omega
/-- what is foul is the strips that are -/
theorem inside_zone {r : Int} {L : List S} {fo : Nat → Bool} {a : C3} (hr : allR L) (hok : okL L = true) (hab : a.frm < a.to) : ∀ k, k < L.length →
    insideL (zoneL r L fo k) a = ((List.range k).any fun i => fo i && tq a L i) ∧ ∀ z ∈ zoneL r L fo k, z.frm ≤ z.to
  | 0, _ => ⟨by simp [zoneL, insideL], fun z hz => by cases hz⟩
  | k + 1, hk => by
    obtain ⟨ih, ih2⟩ := inside_zone hr hok hab k (by omega)
    have hlt := lt_step hr hok hk
    rw [any_range_succ, ← ih]
    rw [show zoneL r L fo (k + 1) = if fo k = true then zput (zoneL r L fo k) r ((lenTo L k : Nat) : Int) ((lenTo L (k + 1) : Nat) : Int) else zoneL r L fo k from rfl]
    have htq : tq a L k = (decide (a.frm < ((lenTo L (k + 1) : Nat) : Int)) && decide (((lenTo L k : Nat) : Int) < a.to)) := rfl
    cases hf : fo k with
    | false =>
      rw [if_neg (by simp)]
      exact ⟨by simp, ih2⟩
    | true =>
      rw [if_pos rfl, Bool.true_and, htq]
      generalize hz : zoneL r L fo k = zl at *
      obtain ⟨t0, ht0⟩ : ∃ z : Int, ((lenTo L k : Nat) : Int) = z := ⟨_, rfl⟩
      obtain ⟨t1, ht1⟩ : ∃ z : Int, ((lenTo L (k + 1) : Nat) : Int) = z := ⟨_, rfl⟩
      rw [ht0, ht1]
      have hl : t0 < t1 := by omega
      rcases List.eq_nil_or_concat zl with rfl | ⟨l, x, e⟩
      · rw [zput_nil]
        refine ⟨by simp [insideL], fun z hz => ?_⟩
        obtain rfl := List.mem_singleton.1 hz
        show t0 ≤ t1; omega
      · rw [List.concat_eq_append] at e
        subst e
        rw [zput_snoc]
        have hx := ih2 x (by simp)
        by_cases hxe : x.to = t0
        · rw [if_pos hxe]
          refine ⟨?_, fun z hz => ?_⟩
          · unfold insideL
            rw [List.any_append, List.any_append, Bool.or_assoc]
            congr 1
            simp only [List.any_cons, List.any_nil, Bool.or_false]
            rw [Bool.eq_iff_iff]
            simp only [Bool.or_eq_true, Bool.and_eq_true, decide_eq_true_iff]
            constructor
            · intro h
              by_cases h2 : a.frm < t0
              · exact .inl ⟨by rw [hxe]; exact h2, h.2⟩
              · exact .inr ⟨h.1, by omega⟩
            · rintro (h | h)
              · exact ⟨by rw [hxe] at h; omega, h.2⟩
              · exact ⟨h.1, by omega⟩
          · rcases List.mem_append.1 hz with h | h
            · exact ih2 z (by simp [h])
            · obtain rfl := List.mem_singleton.1 h
              show x.frm ≤ t1; omega
        · rw [if_neg hxe]
          refine ⟨?_, fun z hz => ?_⟩
          · unfold insideL
            rw [List.any_append]
            simp
          · rcases List.mem_append.1 hz with h | h
            · exact ih2 z h
            · obtain rfl := List.mem_singleton.1 h
              show t0 ≤ t1; omega
theorem any_filter_map {α β : Type} (l : List α) (q : α → Bool) (g : α → β) (f : β → Bool) : ((l.filter q).map g).any f = l.any fun x => q x && f (g x) := by
  induction l with
  | nil => rfl
  | cons x l ih =>
    rw [List.filter_cons, List.any_cons]
    cases h : q x with
    | false => rw [if_neg (by simp), ih]; simp
    | true => rw [if_pos rfl, List.map_cons, List.any_cons, ih]; simp
theorem met_one {p : Pl} {a b : C3} (ha : coverB p a = true) (hb : coverB p b = true) {r r2 m m2 : Nat} {L L2 : List S} (er : a.rail = (r : Int)) (er2 : b.rail = (r2 : Int)) (eL : lnR p a.rail = L) (eL2 : lnR p b.rail = L2) (hm : L.length = m + 1) (hm2 : L2.length = m2 + 1) (hx sx hy sy : Int) :
    metT p [a] [b] hx sx hy sy = (List.range m).any fun k => tq a L k && (List.range m2).any fun j => tq b L2 j && foulB (stripAt r L k) (stripAt r2 L2 j) hx sx hy sy := by
  rw [metQ_eq (by simp [ha]) (by simp [hb])]
  unfold metQ rtouched
  simp only [List.flatMap_cons, List.flatMap_nil, List.append_nil]
  unfold rpart rpartK
  rw [eL, eL2, hm, hm2, any_filter_map]
  simp only [Nat.add_sub_cancel]
  refine any_cg fun k _ => ?_
  congr 1
  rw [any_filter_map]
  refine any_cg fun j _ => ?_
  congr 1
  have e1 : stripOf p (a.rail, k) = stripAt r L k := by unfold stripOf; rw [eL, er]; rfl
  have e2 : stripOf p (b.rail, j) = stripAt r2 L2 j := by unfold stripOf; rw [eL2, er2]; rfl
  rw [e1, e2]
theorem met_all {p : Pl} {a b : C3} {r r2 m m2 : Nat} {L L2 : List S} (h : RlOk p r L) (h2 : RlOk p r2 L2) (er : a.rail = (r : Int)) (er2 : b.rail = (r2 : Int)) (eL : lnR p a.rail = L) (eL2 : lnR p b.rail = L2) (hm : L.length = m + 1) (hm2 : L2.length = m2 + 1) (ha : coverB p a = true) (hab : a.frm < a.to) (hx sx hy sy : Int)
    (hb : coverB p ⟨b.rail, 0, lastEn p b.rail⟩ = true) :
    metT p [a] [⟨b.rail, 0, lastEn p b.rail⟩] hx sx hy sy = insideL (zoneL r L (fun k => (List.range m2).any fun j => foulB (stripAt r L k) (stripAt r2 L2 j) hx sx hy sy) m) a := by
  rw [met_one ha hb er er2 eL eL2 hm hm2, (inside_zone h.hR h.hok hab m (by omega)).1]
  refine any_cg fun k _ => ?_
  rw [Bool.and_comm]
  congr 1
  refine any_cg fun j hj => ?_
  have hjm := List.mem_range.1 hj
  have ht : tq ⟨b.rail, 0, lastEn p b.rail⟩ L2 j = true := by
    unfold tq
    have h1 := lt_step h2.hR h2.hok (k := j) (by omega)
    have h3 := lt_mono h2.hR h2.hok m2 j hjm (by omega)
    have h4 : lastEn p b.rail = ((lenTo L2 m2 : Nat) : Int) := by unfold lastEn; rw [eL2, hm2]; rfl
    rw [Bool.and_eq_true]
    refine ⟨decide_eq_true ?_, decide_eq_true ?_⟩
    · show (0 : Int) < _; omega
    · show _ < lastEn p b.rail; rw [h4]; omega
  rw [ht, Bool.true_and]
theorem met_out {p : Pl} {a b : C3} {r r2 m m2 : Nat} {L L2 : List S} (h : RlOk p r L) (er : a.rail = (r : Int)) (er2 : b.rail = (r2 : Int)) (eL : lnR p a.rail = L) (eL2 : lnR p b.rail = L2) (hm : L.length = m + 1) (hm2 : L2.length = m2 + 1) (ha : coverB p a = true) (hb : coverB p b = true) (hab : a.frm < a.to) (hx sx hy sy : Int)
    (hi : insideL (zoneL r L (fun k => (List.range m2).any fun j => foulB (stripAt r L k) (stripAt r2 L2 j) hx sx hy sy) m) a = false) : metT p [a] [b] hx sx hy sy = false := by
  rw [met_one ha hb er er2 eL eL2 hm hm2]
  rw [(inside_zone h.hR h.hok hab m (by omega)).1] at hi
  rw [List.any_eq_false] at hi ⊢
  intro k hk hc
  rw [Bool.and_eq_true] at hc
  refine hi k hk ?_
  rw [Bool.and_eq_true]
  refine ⟨?_, hc.1⟩
  obtain ⟨j, hj, hjf⟩ := List.any_eq_true.1 hc.2
  rw [Bool.and_eq_true] at hjf
  exact List.any_eq_true.2 ⟨j, hj, hjf.2⟩
theorem cover_all {p : Pl} (hV : Vld p) {b : C3} (hb : coverB p b = true) : coverB p ⟨b.rail, 0, lastEn p b.rail⟩ = true := by
  obtain ⟨r2, L2, er, eL, hL⟩ := cover_rlo hV hb
  have h1 := hb
  unfold coverB at h1 ⊢
  rw [Bool.and_eq_true] at h1 ⊢
  refine ⟨h1.1, ?_⟩
  have h3 := lt_mono hL.hR hL.hok (L2.length - 1) 0 (by have := hL.le; omega) (by have := hL.le; omega)
  have h4 : lastEn p b.rail = ((lenTo L2 (L2.length - 1) : Nat) : Int) := by unfold lastEn; rw [eL]
  simp
  rw [h4]
  omega
theorem Sl.cov2 (w : World) (a b : C3) : Sl (w.alloc (.cells #[.int .i64 a.rail, .int .i64 a.frm, .int .i64 a.to, .int .i64 b.rail, .int .i64 b.frm, .int .i64 b.to] 79)) (w.heap.size + 1) 3 CC (some ⟨w.heap.size, 0, none⟩) [a, b] := by
  intro _
  refine ⟨w.heap.size, 0, rfl, by omega, fun i x hx => ?_⟩
  have hr := Rw.new w #[.int .i64 a.rail, .int .i64 a.frm, .int .i64 a.to, .int .i64 b.rail, .int .i64 b.frm, .int .i64 b.to] 79
  match i, hx with
  | 0, hx =>
    obtain rfl : a = x := by simpa using hx
    refine ⟨_, rfl, fun j u hu => ?_⟩
    match j, hu with
    | 0, hu => simp at hu; subst hu; exact hr.cell 0
    | 1, hu => simp at hu; subst hu; exact hr.cell 1
    | 2, hu => simp at hu; subst hu; exact hr.cell 2
    | j + 3, hu => simp at hu
  | 1, hx =>
    obtain rfl : b = x := by simpa using hx
    refine ⟨_, rfl, fun j u hu => ?_⟩
    match j, hu with
    | 0, hu => simp at hu; subst hu; exact hr.cell 3
    | 1, hu => simp at hu; subst hu; exact hr.cell 4
    | 2, hu => simp at hu; subst hu; exact hr.cell 5
    | j + 3, hu => simp at hu
  | i + 2, hx => simp at hx
theorem Sl.cov1 (w : World) (a : C3) : Sl (w.alloc (.cells #[.int .i64 a.rail, .int .i64 a.frm, .int .i64 a.to] 79)) (w.heap.size + 1) 3 CC (some ⟨w.heap.size, 0, none⟩) [a] := Sl.new (f := fC) w 79 a _ rfl
end Go.Proofs.YtekambdnmaompaaGreat.SW
