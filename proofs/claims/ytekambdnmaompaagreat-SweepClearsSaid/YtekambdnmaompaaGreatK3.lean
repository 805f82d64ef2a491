/- Contract of the specification: Clear. -/
import Derived.Test.YtekambdnmaompaaGreatJ8
import Derived.Test.YtekambdnmaompaaGreatK2
namespace Go.Proofs.YtekambdnmaompaaGreat.SW
set_option linter.unusedVariables false
set_option linter.unusedSimpArgs false
open Go.RowKit

/-- the strip that a pair names -/
def stripOf (p : Pl) (q : Int × Nat) : Swp := stripAt q.1.toNat (lnR p q.1) q.2
def metQ (p : Pl) (a b : List C3) (hx sx hy sy : Int) : Bool := (rtouched p a).any fun x => (rtouched p b).any fun y => foulB (stripOf p x) (stripOf p y) hx sx hy sy
structure GdS (p : Pl) (s : Swp) : Prop where
  h0 : 0 ≤ s.rail
  al : s ∈ alongP p s.rail
theorem alongP_iff {p : Pl} {r : Int} {s : Swp} : s ∈ alongP p r ↔ ∃ k, k < (lnR p r).length - 1 ∧ s = stripAt r.toNat (lnR p r) k := by
  unfold alongP alongL
  rw [List.mem_map]
  constructor
  · rintro ⟨k, hk, rfl⟩; exact ⟨k, List.mem_range.1 hk, rfl⟩
  · rintro ⟨k, hk, rfl⟩; exact ⟨k, List.mem_range.2 hk, rfl⟩
theorem alongP_gd {p : Pl} {r : Int} {s : Swp} (h0 : 0 ≤ r) (h : s ∈ alongP p r) : GdS p s := by
  obtain ⟨k, hk, e⟩ := alongP_iff.1 h
  have e1 : s.rail = r := by rw [e]; show ((r.toNat : Nat) : Int) = r; omega
  exact ⟨by rw [e1]; exact h0, by rw [e1]; exact h⟩
theorem GdS.eq {p : Pl} {s t : Swp} (hs : GdS p s) (ht : GdS p t) (h : ckey s = ckey t) : s = t := by
  have h1 : s.rail = t.rail := congrArg Prod.fst h
  have h2 : s.seg = t.seg := congrArg Prod.snd h
  obtain ⟨k, _, e⟩ := alongP_iff.1 hs.al
  obtain ⟨k2, _, e2⟩ := alongP_iff.1 ht.al
  have a1 : s.seg = (k : Int) := congrArg (·.seg) e
  have a2 : t.seg = (k2 : Int) := congrArg (·.seg) e2
  obtain rfl : k = k2 := by omega
  rw [h1] at e
  exact e.trans e2.symm
theorem tstep_iff {p : Pl} (part : C3) (acc : List Swp) (y : Swp) (hy : GdS p y) (ha : ∀ t ∈ acc, GdS p t) (s : Swp) : s ∈ tstep part acc y ↔ s ∈ acc ∨ (s = y ∧ part.frm < s.en ∧ s.bg < part.to) := by
  unfold tstep
  by_cases hc : part.frm < y.en ∧ y.bg < part.to
  · by_cases hk : ckey y ∈ acc.map ckey
    · obtain ⟨t, ht, e⟩ := List.mem_map.1 hk
      have hty : t = y := (ha t ht).eq hy e
      rw [if_neg (by rw [decide_eq_true hk]; simp)]
      constructor
      · exact fun h => .inl h
      · rintro (h | ⟨rfl, _⟩)
        · exact h
        · rw [← hty]; exact ht
    · rw [if_pos (by rw [decide_eq_true hc.1, decide_eq_true hc.2, decide_eq_false hk]; rfl), List.mem_append, List.mem_singleton]
      constructor
      · rintro (h | rfl)
        · exact .inl h
        · exact .inr ⟨rfl, hc⟩
      · rintro (h | ⟨h, _⟩)
        · exact .inl h
        · exact .inr h
  · rw [if_neg (fun h => by
      rw [Bool.and_eq_true, Bool.and_eq_true] at h
      exact hc ⟨of_decide_eq_true h.1.1, of_decide_eq_true h.1.2⟩)]
    constructor
    · exact fun h => .inl h
    · rintro (h | ⟨rfl, h⟩)
      · exact h
      · exact absurd h hc
theorem tfold_iff {p : Pl} (part : C3) : ∀ (xs acc : List Swp), (∀ s ∈ xs, GdS p s) → (∀ t ∈ acc, GdS p t) → ∀ s, s ∈ xs.foldl (tstep part) acc ↔ s ∈ acc ∨ (s ∈ xs ∧ part.frm < s.en ∧ s.bg < part.to)
  | [], acc, _, _, s => by simp
  | y :: ys, acc, hx, ha, s => by
    have hst := tstep_iff part acc y (hx y (by simp)) ha
    rw [List.foldl_cons, tfold_iff part ys _ (fun t ht => hx t (by simp [ht])) (fun t ht => by
      rcases (hst t).1 ht with h | ⟨rfl, _⟩
      · exact ha t h
      · exact hx _ (by simp)) s, hst s]
    simp only [List.mem_cons]
    constructor
    · rintro ((h | ⟨h, c⟩) | ⟨h, c⟩)
      · exact .inl h
      · exact .inr ⟨.inl h, c⟩
      · exact .inr ⟨.inr h, c⟩
    · rintro (h | ⟨h | h, c⟩)
      · exact .inl (.inl h)
      · exact .inl (.inr ⟨h, c⟩)
      · exact .inr ⟨h, c⟩
theorem touched_iff {p : Pl} : ∀ (parts : List C3) (acc : List Swp), (∀ x ∈ parts, 0 ≤ x.rail) → (∀ t ∈ acc, GdS p t) → ∀ s, s ∈ parts.foldl (tpart p) acc ↔ s ∈ acc ∨ ∃ x ∈ parts, s ∈ alongP p x.rail ∧ x.frm < s.en ∧ s.bg < x.to
  | [], acc, _, _, s => by simp
  | x :: l, acc, hx, ha, s => by
    have hg : ∀ t ∈ alongP p x.rail, GdS p t := fun t ht => alongP_gd (hx x (by simp)) ht
    have hst : ∀ t, t ∈ tpart p acc x ↔ _ := tfold_iff (p := p) x (alongP p x.rail) acc hg ha
    rw [List.foldl_cons, touched_iff l _ (fun y hy => hx y (by simp [hy])) (fun t ht => by
      rcases (hst t).1 ht with h | ⟨h, _⟩
      · exact ha t h
      · exact hg t h) s, hst s]
    constructor
    · rintro ((h | h) | ⟨y, hy, h⟩)
      · exact .inl h
      · exact .inr ⟨x, by simp, h⟩
      · exact .inr ⟨y, by simp [hy], h⟩
    · rintro (h | ⟨y, hy, h⟩)
      · exact .inl (.inl h)
      · rcases List.mem_cons.1 hy with rfl | hy
        · exact .inl (.inr h)
        · exact .inr ⟨y, hy, h⟩
theorem rpart_iff {p : Pl} {x : C3} {q : Int × Nat} : q ∈ rpart p x ↔ ∃ k, k < (lnR p x.rail).length - 1 ∧ tq x (lnR p x.rail) k = true ∧ q = (x.rail, k) := by
  unfold rpart rpartK
  rw [List.mem_map]
  constructor
  · rintro ⟨k, hk, rfl⟩
    have := List.mem_filter.1 hk
    exact ⟨k, List.mem_range.1 this.1, this.2, rfl⟩
  · rintro ⟨k, h1, h2, rfl⟩
    exact ⟨k, List.mem_filter.2 ⟨List.mem_range.2 h1, h2⟩, rfl⟩
theorem rail_nn {p : Pl} {l : List C3} (h : l.all (coverB p) = true) : ∀ x ∈ l, 0 ≤ x.rail := fun x hx => by
  rw [List.all_eq_true] at h
  have h2 := h x hx
  unfold coverB at h2
  rw [Bool.and_eq_true] at h2
  exact (of_decide_eq_true h2.1).1
theorem touch_same {p : Pl} {l : List C3} (h : l.all (coverB p) = true) (s : Swp) : s ∈ touchedT p l ↔ ∃ q ∈ rtouched p l, stripOf p q = s := by
  unfold touchedT
  rw [touched_iff l [] (rail_nn h) (fun t ht => by cases ht) s]
  unfold rtouched
  constructor
  · rintro (h | ⟨x, hx, hs, h1, h2⟩)
    · cases h
    · obtain ⟨k, hk, rfl⟩ := alongP_iff.1 hs
      refine ⟨(x.rail, k), List.mem_flatMap.2 ⟨x, hx, rpart_iff.2 ⟨k, hk, ?_, rfl⟩⟩, rfl⟩
      unfold tq
      rw [Bool.and_eq_true]
      exact ⟨decide_eq_true h1, decide_eq_true h2⟩
  · rintro ⟨q, hq, rfl⟩
    obtain ⟨x, hx, hq⟩ := List.mem_flatMap.1 hq
    obtain ⟨k, hk, ht, rfl⟩ := rpart_iff.1 hq
    unfold tq at ht
    rw [Bool.and_eq_true] at ht
    exact .inr ⟨x, hx, alongP_iff.2 ⟨k, hk, rfl⟩, of_decide_eq_true ht.1, of_decide_eq_true ht.2⟩
theorem any_image {α β : Type} {f : α → Bool} {l : List α} {m : List β} {g : β → α} (h : ∀ s, s ∈ l ↔ ∃ q ∈ m, g q = s) : l.any f = m.any fun q => f (g q) := by
  rw [Bool.eq_iff_iff, List.any_eq_true, List.any_eq_true]
  constructor
  · rintro ⟨s, hs, hf⟩
    obtain ⟨q, hq, rfl⟩ := (h s).1 hs
    exact ⟨q, hq, hf⟩
  · rintro ⟨q, hq, hf⟩
    exact ⟨g q, (h _).2 ⟨q, hq, rfl⟩, hf⟩
theorem metQ_eq {p : Pl} {a b : List C3} (ha : a.all (coverB p) = true) (hb : b.all (coverB p) = true) (hx sx hy sy : Int) : metT p a b hx sx hy sy = metQ p a b hx sx hy sy := by
  unfold metT metQ
  rw [any_image (touch_same ha)]
  exact any_congr fun q _ => any_image (touch_same hb)
theorem rtouched_ok {p : Pl} (hV : Vld p) {l : List C3} (h : l.all (coverB p) = true) {q : Int × Nat} (hq : q ∈ rtouched p l) : ∃ (r : Nat) (L : List S), q.1 = (r : Int) ∧ lnR p q.1 = L ∧ RlOk p r L ∧ q.2 + 1 < L.length := by
  unfold rtouched at hq
  obtain ⟨x, hx, hq⟩ := List.mem_flatMap.1 hq
  obtain ⟨k, hk, ht, rfl⟩ := rpart_iff.1 hq
  rw [List.all_eq_true] at h
  obtain ⟨r, L, hr, hL, ho⟩ := cover_rlo hV (h x hx)
  refine ⟨r, L, hr, hL, ho, ?_⟩
  rw [hL] at hk
  show k + 1 < L.length
  omega
set_option maxRecDepth 100000 in
set_option maxHeartbeats 4000000 in
theorem rFoul_q (A A2 : Option Addr) (c c2 : Nat) (p : Pl) (hV : Vld p) {a b : List C3} (ha : a.all (coverB p) = true) (hb : b.all (coverB p) = true) (q q2 : Int × Nat) (hq : q ∈ rtouched p a) (hq2 : q2 ∈ rtouched p b) (hx sx hy sy : Int) (hX : Pr hx sx) (hY : Pr hy sy) (w : World) (hP : PlAt w w.heap.size A c A2 c2 p) :
    Calls Tryz.prog 30 #[.agg #[.slice A p.nodes.length c, .slice A2 p.rails.length c2], .agg #[.int .i64 q.1, .int .i64 (q.2 : Int)], .agg #[.int .i64 hx, .int .i64 sx], .agg #[.int .i64 q2.1, .int .i64 (q2.2 : Int)], .agg #[.int .i64 hy, .int .i64 sy]] w fun e w' =>
      e = .returned (.bool (foulB (stripOf p q) (stripOf p q2) hx sx hy sy)) ∧ Below w.heap.size w w' := by
  obtain ⟨r, L, er, eL, hL, hk⟩ := rtouched_ok hV ha hq
  obtain ⟨r2, L2, er2, eL2, hL2, hk2⟩ := rtouched_ok hV hb hq2
  have e1 : stripOf p q = stripAt r L q.2 := by unfold stripOf; rw [eL, er]; rfl
  have e2 : stripOf p q2 = stripAt r2 L2 q2.2 := by unfold stripOf; rw [eL2, er2]; rfl
  rw [e1, e2, er, er2]
  clear e1 e2 er er2 eL eL2 hq hq2 ha hb hV
  generalize q.2 = k at *
  generalize q2.2 = k2 at *
  have o1 := stripAt_ok (r := r) hL.hR hL.hok hk
  have o2 := stripAt_ok (r := r2) hL2.hR hL2.hok hk2
  have h := rFoul_any A A2 c c2 p r k r2 k2 L L2 hx sx hy sy w hP hL hk hL2 hk2 hX hY
  have e := foul_q o1 o2 hX hY
  have e' : foulQ (sAt L k) (sAt L (k + 1)) (sAt L2 k2) (sAt L2 (k2 + 1)) (bendAt L k ++ bendAt L (k + 1)) (bendAt L2 k2 ++ bendAt L2 (k2 + 1)) hx sx hy sy = foulB (stripAt r L k) (stripAt r2 L2 k2) hx sx hy sy := e
  rw [e'] at h
  exact h
theorem sl_q {w : World} {B : Nat} {A : Option Addr} {l : List (Int × Nat)} (h : Sl w B 2 (fun x cs => cs = fQ x) A l) {i : Nat} {q : Int × Nat} (hi : l[i]? = some q) : ∃ b o, A = some ⟨b, o, none⟩ ∧ b < B ∧ w.cell? ⟨b, o + i * 2, none⟩ = some (.int .i64 q.1) ∧ w.cell? ⟨b, o + i * 2 + 1, none⟩ = some (.int .i64 (q.2 : Int)) := by
  obtain ⟨hl, e⟩ := List.getElem?_eq_some_iff.1 hi
  obtain ⟨b, o, cs, eA, hb, hcc, hc⟩ := h.at_ hl
  subst hcc
  rw [e] at hc
  exact ⟨b, o, eA, hb, hc 0 _ rfl, hc 1 _ rfl⟩
set_option maxRecDepth 100000 in
set_option maxHeartbeats 8000000 in
theorem rClear_any (A A2 AP AQ : Option Addr) (c c2 ca cb na nb : Nat) (p : Pl) (a b : List C3) (hx sx hy sy : Int) (w : World) (hP : PlAt w w.heap.size A c A2 c2 p) (hV : Vld p) (hX : Pr hx sx) (hY : Pr hy sy)
    (hSa : Sl w w.heap.size 3 CC AP a) (hSb : Sl w w.heap.size 3 CC AQ b) (hna : a.length = na) (hnb : b.length = nb) (ha : a.all (coverB p) = true) (hb : b.all (coverB p) = true) (hna3 : na ≤ 300) (hnb3 : nb ≤ 300) :
    Calls Tryz.prog 43 #[.agg #[.slice A p.nodes.length c, .slice A2 p.rails.length c2], .slice AP na ca, .agg #[.int .i64 hx, .int .i64 sx], .slice AQ nb cb, .agg #[.int .i64 hy, .int .i64 sy]] w fun e w' => e = .returned (.bool (!metT p a b hx sx hy sy)) ∧ Below w.heap.size w w' := by
  have HV := Lib.hid (metQ_eq ha hb hx sx hy sy)
  have hb3 := (((Below.refl _ w).alloc (Nat.le_refl _) (.cells #[.slice A p.nodes.length c, .slice A2 p.rails.length c2] 25)).alloc (by simp) (.cells #[.int .i64 hx, .int .i64 sx] 46)).alloc (by simp; omega) (.cells #[.int .i64 hy, .int .i64 sy] 46)
  obtain ⟨q1, q2, q3⟩ := rows3 w #[.slice A p.nodes.length c, .slice A2 p.rails.length c2] #[.int .i64 hx, .int .i64 sx] #[.int .i64 hy, .int .i64 sy] 25 46 46
  have hz1 : (((w.alloc (.cells #[.slice A p.nodes.length c, .slice A2 p.rails.length c2] 25)).alloc (.cells #[.int .i64 hx, .int .i64 sx] 46)).alloc (.cells #[.int .i64 hy, .int .i64 sy] 46)).heap.size = w.heap.size + 3 := by simp
  obtain ⟨W1, hW1⟩ : ∃ z, (((w.alloc (.cells #[.slice A p.nodes.length c, .slice A2 p.rails.length c2] 25)).alloc (.cells #[.int .i64 hx, .int .i64 sx] 46)).alloc (.cells #[.int .i64 hy, .int .i64 sy] 46)) = z := ⟨_, rfl⟩
  rw [hW1] at hb3 q1 q2 q3 hz1
  have HB1 := Lib.hid hb3
  have HR := Lib.hid (show ∀ wx, Below W1.heap.size W1 wx → Rw wx w.heap.size 25 #[.slice A p.nodes.length c, .slice A2 p.rails.length c2] ∧ Rw wx (w.heap.size + 1) 46 #[.int .i64 hx, .int .i64 sx] ∧ Rw wx (w.heap.size + 1 + 1) 46 #[.int .i64 hy, .int .i64 sy] from fun wx h => ⟨q1.below h (by omega), q2.below h (by omega), q3.below h (by omega)⟩)
  have HPB := Lib.hid (show ∀ wx, Below W1.heap.size W1 wx → PlAt wx wx.heap.size A c A2 c2 p from fun wx h => ((hP.below hb3).below (h.mono hb3.size)).more (Nat.le_trans hb3.size h.size))
  have HTA := Lib.hid (show ∀ wx, Below W1.heap.size W1 wx → Calls Tryz.prog 76 #[.agg #[.slice A p.nodes.length c, .slice A2 p.rails.length c2], .slice AP na ca] wx _ from fun wx h => rtouched_any A A2 AP c c2 ca na p a wx (HPB.out wx h) hV ((hSa.below (hb3.trans (h.mono hb3.size))).more (fun _ _ h => h) (Nat.le_trans hb3.size h.size)) hna ha hna3)
  have HTB := Lib.hid (show ∀ wx, Below W1.heap.size W1 wx → Calls Tryz.prog 76 #[.agg #[.slice A p.nodes.length c, .slice A2 p.rails.length c2], .slice AQ nb cb] wx _ from fun wx h => rtouched_any A A2 AQ c c2 cb nb p b wx (HPB.out wx h) hV ((hSb.below (hb3.trans (h.mono hb3.size))).more (fun _ _ h => h) (Nat.le_trans hb3.size h.size)) hnb hb hnb3)
  have HFO := Lib.hid (show ∀ q q2, q ∈ rtouched p a → q2 ∈ rtouched p b → ∀ wx, Below W1.heap.size W1 wx → Calls Tryz.prog 30 #[.agg #[.slice A p.nodes.length c, .slice A2 p.rails.length c2], .agg #[.int .i64 q.1, .int .i64 (q.2 : Int)], .agg #[.int .i64 hx, .int .i64 sx], .agg #[.int .i64 q2.1, .int .i64 (q2.2 : Int)], .agg #[.int .i64 hy, .int .i64 sy]] wx _ from fun q q2 hq hq2 wx h => rFoul_q A A2 c c2 p hV ha hb q q2 hq hq2 hx sx hy sy hX hY wx (HPB.out wx h))
  have HKL := Lib.hid (show (rtouched p a).length ≤ 12300 from by have := rtouched_len hV a ha; omega)
  have HML := Lib.hid (show (rtouched p b).length ≤ 12300 from by have := rtouched_len hV b hb; omega)
  rw [HV.out]
  unfold metQ
  obtain ⟨F, hF⟩ : ∃ F : Int × Nat → Int × Nat → Bool, F = (fun x y => foulB (stripOf p x) (stripOf p y) hx sx hy sy) := ⟨_, rfl⟩
  have HFD := Lib.hid (show ∀ q q2, foulB (stripOf p q) (stripOf p q2) hx sx hy sy = F q q2 from fun q q2 => by rw [hF])
  obtain ⟨res, hres⟩ : ∃ z, ((rtouched p a).any fun x => (rtouched p b).any fun y => foulB (stripOf p x) (stripOf p y) hx sx hy sy) = z := ⟨_, rfl⟩
  rw [hres]
  have HRES := Lib.hid (show ((rtouched p a).any fun x => (rtouched p b).any (F x)) = res from by rw [← hres, hF])
  obtain ⟨K, hK⟩ : ∃ z, rtouched p a = z := ⟨_, rfl⟩
  obtain ⟨M, hM⟩ : ∃ z, rtouched p b = z := ⟨_, rfl⟩
  rw [hK] at HTA HFO HKL HRES
  rw [hM] at HTB HFO HML HRES
  clear hb3 q1 q2 q3 hP hSa hSb hna hnb hz1 hF hres hK hM HV ha hb hX hY
  go_enter Tryz.func43, Tryz.ntmps43
  go_upto_region 1 with (fail)
  clear hW1
  have hbq : Below W1.heap.size W1 W1.drew := (Below.refl _ _).drew
  have HSR := Lib.hid (show ∀ wx, Below W1.heap.size W1 wx → (wx.cell? ⟨w.heap.size, 0, none⟩ = some (.slice A p.nodes.length c) ∧ wx.cell? ⟨w.heap.size, 1, none⟩ = some (.slice A2 p.rails.length c2)) from fun wx hwx => by
    obtain ⟨a1, a2, a3⟩ := HR.out wx hwx
    exact ⟨a1.cell 0, a1.cell 1⟩)
  have HS := Lib.hid (HSR.out _ hbq)
  refine wp_region_held_drew (S := fun wx => wx.cell? ⟨w.heap.size, 0, none⟩ = some (.slice A p.nodes.length c) ∧ wx.cell? ⟨w.heap.size, 1, none⟩ = some (.slice A2 p.rails.length c2)) (by kernel_rfl) HS.out (fun _ => ?_)
  refine hTake (i := 0) (d := 15) (v := .agg #[.slice A p.nodes.length c, .slice A2 p.rails.length c2]) rfl rfl (by kernel_rfl) (by kernel_rfl) (by kernel_rfl) (fun _ _ _ h => h) (Or.inl ⟨rfl, ?gr⟩) HS.out ?_
  case gr =>
    rintro W' ⟨s0, s1⟩
    go_simp
  simp only [Act.put, List.setIfInBounds_toArray, List.set_cons_zero, List.set_cons_succ]
  refine hTake (i := 1) (d := 16) (v := .slice AP na ca) rfl rfl (by kernel_rfl) (by kernel_rfl) (by kernel_rfl) (fun _ _ _ h => h) (Or.inl ⟨rfl, ?gr⟩) HS.out ?_
  case gr =>
    rintro W' ⟨s0, s1⟩
    go_simp
  simp only [Act.put, List.setIfInBounds_toArray, List.set_cons_zero, List.set_cons_succ]
  refine hTake (i := 3) (d := 18) (v := .agg #[.slice A p.nodes.length c, .slice A2 p.rails.length c2]) rfl rfl (by kernel_rfl) (by kernel_rfl) (by kernel_rfl) (fun _ _ _ h => h) (Or.inl ⟨rfl, ?gr⟩) HS.out ?_
  case gr =>
    rintro W' ⟨s0, s1⟩
    go_simp
  simp only [Act.put, List.setIfInBounds_toArray, List.set_cons_zero, List.set_cons_succ]
  refine hTake (i := 4) (d := 19) (v := .slice AQ nb cb) rfl rfl (by kernel_rfl) (by kernel_rfl) (by kernel_rfl) (fun _ _ _ h => h) (Or.inl ⟨rfl, ?gr⟩) HS.out ?_
  case gr =>
    rintro W' ⟨s0, s1⟩
    go_simp
  simp only [Act.put, List.setIfInBounds_toArray, List.set_cons_zero, List.set_cons_succ]
  refine wpAnyH_ready (rs := [2]) (by kernel_rfl) (by simp) ?_
  refine AllReadyH.cons rfl (fun K hK => ?_) AllReadyH.nil
  rw [if_pos (by rfl)]
  go_simp
  go_at_call 76
  (with_reducible refine (HTA.out _ hbq).mono ?_)
  rintro e w4 ⟨v4, rfl, ho4, hbc⟩
  replace hbq := hbq.trans (hbc.mono hbq.size)
  have HS := Lib.hid (HSR.out _ hbq)
  have HO4 := Lib.hid ho4
  clear hbc ho4
  refine hK.out _ _ HS.out (fun _ => ?_)
  clear hK K
  try simp only [Act.put, List.setIfInBounds_toArray, List.set_cons_zero, List.set_cons_succ]
  refine wpAnyH_ready (rs := [5]) (by kernel_rfl) (by simp) ?_
  refine AllReadyH.cons rfl (fun K hK => ?_) AllReadyH.nil
  rw [if_pos (by rfl)]
  go_simp
  go_at_call 76
  (with_reducible refine (HTB.out _ hbq).mono ?_)
  rintro e w5 ⟨v5, rfl, ho5, hbc⟩
  have HO4 := Lib.hid ((HO4.out.below (hbc) (Nat.le_refl _)))
  replace hbq := hbq.trans (hbc.mono hbq.size)
  have HS := Lib.hid (HSR.out _ hbq)
  have HO5 := Lib.hid ho5
  clear hbc ho5
  refine hK.out _ _ HS.out (fun _ => ?_)
  clear hK K
  try simp only [Act.put, List.setIfInBounds_toArray, List.set_cons_zero, List.set_cons_succ]
  refine hTake (i := 6) (d := 11) (v := v4) rfl rfl (by kernel_rfl) (by kernel_rfl) (by kernel_rfl) (fun _ _ _ h => h) (Or.inl ⟨rfl, ?gr⟩) HS.out ?_
  case gr =>
    rintro W' ⟨s0, s1⟩
    go_simp
  simp only [Act.put, List.setIfInBounds_toArray, List.set_cons_zero, List.set_cons_succ]
  refine hTake (i := 7) (d := 12) (v := v5) rfl rfl (by kernel_rfl) (by kernel_rfl) (by kernel_rfl) (fun _ _ _ h => h) (Or.inl ⟨rfl, ?gr⟩) HS.out ?_
  case gr =>
    rintro W' ⟨s0, s1⟩
    go_simp
  simp only [Act.put, List.setIfInBounds_toArray, List.set_cons_zero, List.set_cons_succ]
  refine wpAnyH_done (by kernel_rfl) ?_ _

  obtain ⟨KA, kc, rfl, hk1, hk2, _⟩ := HO4.out.form
  obtain ⟨MA, mc, rfl, hm1, hm2, _⟩ := HO5.out.form
  have HB5 := Lib.hid hbq
  have HKS := Lib.hid (show ∀ wx, Below w5.heap.size w5 wx → ∀ i q, K[i]? = some q → ∃ b o, KA = some ⟨b, o, none⟩ ∧ b < w5.heap.size ∧ wx.cell? ⟨b, o + i * 2, none⟩ = some (.int .i64 q.1) ∧ wx.cell? ⟨b, o + i * 2 + 1, none⟩ = some (.int .i64 (q.2 : Int)) from fun wx hwx i q hq => by
    obtain ⟨b, o, e, hb, c0, c1⟩ := sl_q (HO4.out.sl fQ_len rfl) hq
    exact ⟨b, o, e, hb, (hwx.cell (p := ⟨b, o + i * 2, none⟩) hb).trans c0, (hwx.cell (p := ⟨b, o + i * 2 + 1, none⟩) hb).trans c1⟩)
  have HMS := Lib.hid (show ∀ wx, Below w5.heap.size w5 wx → ∀ i q, M[i]? = some q → ∃ b o, MA = some ⟨b, o, none⟩ ∧ b < w5.heap.size ∧ wx.cell? ⟨b, o + i * 2, none⟩ = some (.int .i64 q.1) ∧ wx.cell? ⟨b, o + i * 2 + 1, none⟩ = some (.int .i64 (q.2 : Int)) from fun wx hwx i q hq => by
    obtain ⟨b, o, e, hb, c0, c1⟩ := sl_q (HO5.out.sl fQ_len rfl) hq
    exact ⟨b, o, e, hb, (hwx.cell (p := ⟨b, o + i * 2, none⟩) hb).trans c0, (hwx.cell (p := ⟨b, o + i * 2 + 1, none⟩) hb).trans c1⟩)
  obtain ⟨n, hn⟩ : ∃ z, K.length = z := ⟨_, rfl⟩
  obtain ⟨m, hm⟩ : ∃ z, M.length = z := ⟨_, rfl⟩
  have HN := Lib.hid hn
  have HM := Lib.hid hm
  have hn2 : n ≤ 12300 := by rw [← hn]; exact HKL.out
  have hm2' : m ≤ 12300 := by rw [← hm]; exact HML.out
  rw [hn] at hk1 ⊢
  rw [hm] at hm1 ⊢
  clear hn hm hbq HS
  go_wp2
  go_loopw [13] (fun s13 wr => ∃ i : Nat, i ≤ n ∧ s13 = .int .i64 (i : Int) ∧ ((K.take i).any fun x => M.any (F x)) = false ∧ Below w5.heap.size w5 wr) (fun s13 _ => n - (intOf s13).toNat)
  case atStart => exact ⟨0, Nat.zero_le _, rfl, by simp, Below.refl _ _⟩
  case round =>
    obtain ⟨i, hi, rfl, hno, hb⟩ := hrel
    have HNO := Lib.hid hno; have HB := Lib.hid hb
    clear hno
    by_cases hin : i < n
    · obtain ⟨q, hq⟩ : ∃ z, K[i]? = some z := ⟨_, List.getElem?_eq_getElem (by have := HN.out; omega)⟩
      have HQ := Lib.hid hq
      have hii : (i : Int) < (n : Int) := by omega
      have hi0 : (0 : Int) ≤ (i : Int) := by omega
      obtain ⟨bk, ok, eA, -, -, -⟩ := HKS.out _ hb i q hq
      subst eA
      clear hb hq
      go_wp2
      go_loopw [14] (fun s14 wr => ∃ j : Nat, j ≤ m ∧ s14 = .int .i64 (j : Int) ∧ (M.take j).any (F q) = false ∧ Below w5.heap.size w5 wr) (fun s14 _ => m - (intOf s14).toNat)
      case atStart => exact ⟨0, Nat.zero_le _, rfl, by simp, HB.out⟩
      case round =>
        obtain ⟨j, hj, rfl, hno2, hb2⟩ := hrel
        obtain ⟨wb, rfl⟩ : ∃ z, z = wr := ⟨_, rfl⟩
        have HNO2 := Lib.hid hno2; have HB2 := Lib.hid hb2
        clear hno2
        by_cases hjm : j < m
        · obtain ⟨q2, hq2⟩ : ∃ z, M[j]? = some z := ⟨_, List.getElem?_eq_getElem (by have := HM.out; omega)⟩
          have HQ2 := Lib.hid hq2
          have hjj : (j : Int) < (m : Int) := by omega
          have hj0 : (0 : Int) ≤ (j : Int) := by omega
          obtain ⟨bm, om, eM, -, -, -⟩ := HMS.out _ hb2 j q2 hq2
          subst eM
          have HFQ := Lib.hid (show ∀ wx, Below W1.heap.size W1 wx → Calls Tryz.prog 30 #[.agg #[.slice A p.nodes.length c, .slice A2 p.rails.length c2], .agg #[.int .i64 q.1, .int .i64 (q.2 : Int)], .agg #[.int .i64 hx, .int .i64 sx], .agg #[.int .i64 q2.1, .int .i64 (q2.2 : Int)], .agg #[.int .i64 hy, .int .i64 sy]] wx fun e w' => e = .returned (.bool (F q q2)) ∧ Below wx.heap.size wx w' from fun wx h => by
            have := HFO.out q q2 (List.mem_of_getElem? HQ.out) (List.mem_of_getElem? hq2) wx h
            rwa [HFD.out] at this)
          have HCELL := Lib.hid (show ∀ wx, Below w5.heap.size w5 wx → wx.cell? ⟨w.heap.size, 0, none⟩ = some (.slice A p.nodes.length c) ∧ wx.cell? ⟨w.heap.size, 1, none⟩ = some (.slice A2 p.rails.length c2) ∧ wx.cell? ⟨w.heap.size + 1, 0, none⟩ = some (.int .i64 hx) ∧ wx.cell? ⟨w.heap.size + 1, 1, none⟩ = some (.int .i64 sx) ∧ wx.cell? ⟨w.heap.size + 1 + 1, 0, none⟩ = some (.int .i64 hy) ∧ wx.cell? ⟨w.heap.size + 1 + 1, 1, none⟩ = some (.int .i64 sy) ∧ wx.cell? ⟨bk, ok + i * 2, none⟩ = some (.int .i64 q.1) ∧ wx.cell? ⟨bk, ok + i * 2 + 1, none⟩ = some (.int .i64 (q.2 : Int)) ∧ wx.cell? ⟨bm, om + j * 2, none⟩ = some (.int .i64 q2.1) ∧ wx.cell? ⟨bm, om + j * 2 + 1, none⟩ = some (.int .i64 (q2.2 : Int)) from fun wx hwx => by
            obtain ⟨a1, a2, a3⟩ := HR.out _ (HB5.out.trans (hwx.mono HB5.out.size))
            obtain ⟨bk', ok', eA, -, c0, c1⟩ := HKS.out _ hwx i q HQ.out
            obtain ⟨rfl, rfl⟩ : bk = bk' ∧ ok = ok' := by simpa using eA
            obtain ⟨bm', om', eM, -, c2', c3⟩ := HMS.out _ hwx j q2 hq2
            obtain ⟨rfl, rfl⟩ : bm = bm' ∧ om = om' := by simpa using eM
            exact ⟨a1.cell 0, a1.cell 1, a2.cell 0, a2.cell 1, a3.cell 0, a3.cell 1, c0, c1, c2', c3⟩)
          obtain ⟨f, hf⟩ : ∃ z, F q q2 = z := ⟨_, rfl⟩
          rw [hf] at HFQ
          have HF := Lib.hid hf
          clear hb2 hq2 hf
          go_upto_region 8 with (fail)
          have hbq : Below wb.heap.size wb wb.drew := (Below.refl _ _).drew
          have HS := Lib.hid (HCELL.out _ (HB2.out.trans (hbq.mono HB2.out.size)))
          refine wp_region_held_drew (S := fun wx => wx.cell? ⟨w.heap.size, 0, none⟩ = some (.slice A p.nodes.length c) ∧ wx.cell? ⟨w.heap.size, 1, none⟩ = some (.slice A2 p.rails.length c2) ∧ wx.cell? ⟨w.heap.size + 1, 0, none⟩ = some (.int .i64 hx) ∧ wx.cell? ⟨w.heap.size + 1, 1, none⟩ = some (.int .i64 sx) ∧ wx.cell? ⟨w.heap.size + 1 + 1, 0, none⟩ = some (.int .i64 hy) ∧ wx.cell? ⟨w.heap.size + 1 + 1, 1, none⟩ = some (.int .i64 sy) ∧ wx.cell? ⟨bk, ok + i * 2, none⟩ = some (.int .i64 q.1) ∧ wx.cell? ⟨bk, ok + i * 2 + 1, none⟩ = some (.int .i64 (q.2 : Int)) ∧ wx.cell? ⟨bm, om + j * 2, none⟩ = some (.int .i64 q2.1) ∧ wx.cell? ⟨bm, om + j * 2 + 1, none⟩ = some (.int .i64 (q2.2 : Int))) (by kernel_rfl) HS.out (fun _ => ?_)
          refine hTake (i := 0) (d := 33) (v := .agg #[.slice A p.nodes.length c, .slice A2 p.rails.length c2]) rfl rfl (by kernel_rfl) (by kernel_rfl) (by kernel_rfl) (fun _ _ _ h => h) (Or.inl ⟨rfl, ?gr⟩) HS.out ?_
          case gr =>
            rintro W' ⟨s0, s1, s2, s3, s4, s5, s6, s7, s8, s9⟩
            go_simp
          simp only [Act.put, List.setIfInBounds_toArray, List.set_cons_zero, List.set_cons_succ]
          refine hTake (i := 1) (d := 34) (v := .slice (some ⟨bk, ok, none⟩) n kc) rfl rfl (by kernel_rfl) (by kernel_rfl) (by kernel_rfl) (fun _ _ _ h => h) (Or.inl ⟨rfl, ?gr⟩) HS.out ?_
          case gr =>
            rintro W' ⟨s0, s1, s2, s3, s4, s5, s6, s7, s8, s9⟩
            go_simp
          simp only [Act.put, List.setIfInBounds_toArray, List.set_cons_zero, List.set_cons_succ]
          refine hTake (i := 2) (d := 35) (v := .int .i64 (i : Int)) rfl rfl (by kernel_rfl) (by kernel_rfl) (by kernel_rfl) (fun _ _ _ h => h) (Or.inl ⟨rfl, ?gr⟩) HS.out ?_
          case gr =>
            rintro W' ⟨s0, s1, s2, s3, s4, s5, s6, s7, s8, s9⟩
            go_simp
          simp only [Act.put, List.setIfInBounds_toArray, List.set_cons_zero, List.set_cons_succ]
          refine hTake (i := 3) (d := 36) (v := .pointer (some ⟨bk, ok + i * 2, none⟩)) rfl rfl (by kernel_rfl) (by kernel_rfl) (by kernel_rfl) (fun _ _ _ h => h) (Or.inl ⟨rfl, ?gr⟩) HS.out ?_
          case gr =>
            rintro W' ⟨s0, s1, s2, s3, s4, s5, s6, s7, s8, s9⟩
            go_simp
          simp only [Act.put, List.setIfInBounds_toArray, List.set_cons_zero, List.set_cons_succ]
          refine hTake (i := 4) (d := 37) (v := .agg #[.int .i64 q.1, .int .i64 (q.2 : Int)]) rfl rfl (by kernel_rfl) (by kernel_rfl) (by kernel_rfl) (fun _ _ _ h => h) (Or.inl ⟨rfl, ?gr⟩) HS.out ?_
          case gr =>
            rintro W' ⟨s0, s1, s2, s3, s4, s5, s6, s7, s8, s9⟩
            go_simp
          simp only [Act.put, List.setIfInBounds_toArray, List.set_cons_zero, List.set_cons_succ]
          refine hTake (i := 5) (d := 38) (v := .agg #[.int .i64 hx, .int .i64 sx]) rfl rfl (by kernel_rfl) (by kernel_rfl) (by kernel_rfl) (fun _ _ _ h => h) (Or.inl ⟨rfl, ?gr⟩) HS.out ?_
          case gr =>
            rintro W' ⟨s0, s1, s2, s3, s4, s5, s6, s7, s8, s9⟩
            go_simp
          simp only [Act.put, List.setIfInBounds_toArray, List.set_cons_zero, List.set_cons_succ]
          refine hTake (i := 6) (d := 39) (v := .slice (some ⟨bm, om, none⟩) m mc) rfl rfl (by kernel_rfl) (by kernel_rfl) (by kernel_rfl) (fun _ _ _ h => h) (Or.inl ⟨rfl, ?gr⟩) HS.out ?_
          case gr =>
            rintro W' ⟨s0, s1, s2, s3, s4, s5, s6, s7, s8, s9⟩
            go_simp
          simp only [Act.put, List.setIfInBounds_toArray, List.set_cons_zero, List.set_cons_succ]
          refine hTake (i := 7) (d := 40) (v := .int .i64 (j : Int)) rfl rfl (by kernel_rfl) (by kernel_rfl) (by kernel_rfl) (fun _ _ _ h => h) (Or.inl ⟨rfl, ?gr⟩) HS.out ?_
          case gr =>
            rintro W' ⟨s0, s1, s2, s3, s4, s5, s6, s7, s8, s9⟩
            go_simp
          simp only [Act.put, List.setIfInBounds_toArray, List.set_cons_zero, List.set_cons_succ]
          refine hTake (i := 8) (d := 41) (v := .pointer (some ⟨bm, om + j * 2, none⟩)) rfl rfl (by kernel_rfl) (by kernel_rfl) (by kernel_rfl) (fun _ _ _ h => h) (Or.inl ⟨rfl, ?gr⟩) HS.out ?_
          case gr =>
            rintro W' ⟨s0, s1, s2, s3, s4, s5, s6, s7, s8, s9⟩
            go_simp
          simp only [Act.put, List.setIfInBounds_toArray, List.set_cons_zero, List.set_cons_succ]
          refine hTake (i := 9) (d := 42) (v := .agg #[.int .i64 q2.1, .int .i64 (q2.2 : Int)]) rfl rfl (by kernel_rfl) (by kernel_rfl) (by kernel_rfl) (fun _ _ _ h => h) (Or.inl ⟨rfl, ?gr⟩) HS.out ?_
          case gr =>
            rintro W' ⟨s0, s1, s2, s3, s4, s5, s6, s7, s8, s9⟩
            go_simp
          simp only [Act.put, List.setIfInBounds_toArray, List.set_cons_zero, List.set_cons_succ]
          refine hTake (i := 10) (d := 43) (v := .agg #[.int .i64 hy, .int .i64 sy]) rfl rfl (by kernel_rfl) (by kernel_rfl) (by kernel_rfl) (fun _ _ _ h => h) (Or.inl ⟨rfl, ?gr⟩) HS.out ?_
          case gr =>
            rintro W' ⟨s0, s1, s2, s3, s4, s5, s6, s7, s8, s9⟩
            go_simp
          simp only [Act.put, List.setIfInBounds_toArray, List.set_cons_zero, List.set_cons_succ]
          refine wpAnyH_ready (rs := [11]) (by kernel_rfl) (by simp) ?_
          refine AllReadyH.cons rfl (fun K hK => ?_) AllReadyH.nil
          rw [if_pos (by rfl)]
          go_simp
          go_at_call 30
          (with_reducible refine (HFQ.out _ (HB5.out.trans ((HB2.out.trans (hbq.mono HB2.out.size)).mono HB5.out.size))).mono ?_)
          rintro e wc ⟨rfl, hbc⟩
          replace hbq := hbq.trans (hbc.mono hbq.size)
          have HS := Lib.hid (HCELL.out _ (HB2.out.trans (hbq.mono HB2.out.size)))
          clear hbc
          refine hK.out _ _ HS.out (fun _ => ?_)
          clear hK K
          try simp only [Act.put, List.setIfInBounds_toArray, List.set_cons_zero, List.set_cons_succ]
          refine wpAnyH_done (by kernel_rfl) ?_ _

          have HBA := Lib.hid (HB2.out.trans (hbq.mono HB2.out.size))
          clear hbq HS
          cases f with
          | true =>
            have HR1 := Lib.hid (show res = true from by rw [← HRES.out]; exact any_of_q HQ.out (any_of_q HQ2.out HF.out))
            go_wp2
            go_ret
            exact ⟨by rw [HR1.out]; rfl, HB1.out.trans ((HB5.out.trans (HBA.out.mono HB5.out.size)).mono HB1.out.size)⟩
          | false =>
            go_wp2
            go_roundw
            case rel => exact ⟨j + 1, by omega, vi (by omega), by rw [any_snoc_q HQ2.out, HNO2.out, HF.out]; rfl, HBA.out⟩
            case measure => simp [intOf] <;> omega
        · obtain rfl : j = m := by omega
          have HRM := Lib.hid (show M.any (F q) = false from by have := HNO2.out; rwa [List.take_of_length_le (by rw [HM.out]; omega)] at this)
          clear hb2
          go_wp2
          go_roundw
          case rel => exact ⟨i + 1, by omega, vi (by omega), by rw [any_snoc_q HQ.out, HNO.out, HRM.out]; rfl, HB2.out⟩
          case measure => simp [intOf] <;> omega
    · obtain rfl : i = n := by omega
      have HRF := Lib.hid (show res = false from by have := HNO.out; rw [List.take_of_length_le (by rw [HN.out]; omega)] at this; rw [← HRES.out]; exact this)
      clear hb
      go_wp2
      go_ret
      exact ⟨by rw [HRF.out]; rfl, HB1.out.trans ((HB5.out.trans (HB.out.mono HB5.out.size)).mono HB1.out.size)⟩
end Go.Proofs.YtekambdnmaompaaGreat.SW
