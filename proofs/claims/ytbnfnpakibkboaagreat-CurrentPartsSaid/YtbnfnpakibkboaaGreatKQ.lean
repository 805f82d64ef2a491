/- Texts C52 C53. -/
import Derived.Test.YtbnfnpakibkboaaGreatKP
namespace Go.Proofs.YtbnfnpakibkboaaGreat
set_option linter.unusedVariables false
set_option linter.unusedSimpArgs false
open Go.RowKit

section
variable {w w' : World} {B sb : Nat} {x : SL} {C : Nat → Ci} {V : Nat → Vi} {K : Nat → Bool} {z : Zs} {fon run : List Bool} {xs : List Pm} {dn : Nat → Prop}
/-- a block of a type that a settling has not, from B on, may change -/
theorem StA.gr92 (h : StA w B sb x C V K z fon run xs dn) {g : Nat} {cs : Array Value} {t : TypeId} (hg : Gr g w w') (hp : w.heap[g]? = some (Obj.cells cs t (0, 0))) (hB : B ≤ g) (ht : t = 92 ∨ t = 55 ∨ t = 68) : StA w' B sb x C V K z fon run xs dn := by
  have hty : ∀ (k : Nat) (cs2 : Array Value) (e : TypeId), (e = 3 ∨ e = 4 ∨ e = 58 ∨ e = 60 ∨ e = 110 ∨ e = 132 ∨ e = 134 ∨ e = 136) → w.heap[k]? = some (Obj.cells cs2 e (0, 0)) → w'.heap[k]? = w.heap[k]? := fun k cs2 e he hh => hg.blk (Array.getElem?_eq_some_iff.1 hh).1 (ne_ty hp hh (by
    intro e2; subst e2
    rcases ht with e | e | e <;> subst e <;> revert he <;> decide))
  have ho : ∀ {α : Type} {f : α → List Value} {base size : Nat} {e : TypeId} {v : Value} {l : List α}, (e = 3 ∨ e = 4 ∨ e = 58 ∨ e = 60 ∨ e = 110 ∨ e = 132 ∨ e = 134 ∨ e = 136) → Own w base e size f v l → Own w' base e size f v l := fun he hh => hh.of_blocks (fun b hb => by obtain ⟨cs2, hc⟩ := own_type hh hb; exact hty b cs2 _ he hc)
  have hbl : Below B w w' := ⟨hg.os, hg.tape, hg.output, hg.size, fun k hk => hg.blk (Nat.lt_of_lt_of_le hk h.bw) (by omega)⟩
  obtain ⟨pb, p1, p2, p3⟩ := h.P
  refine ⟨Nat.le_trans h.bw hg.size, h.ne, ⟨(hty _ _ _ (by decide) h.st.r).trans h.st.r, (hty _ _ _ (by decide) h.st.c).trans h.st.c, (hty _ _ _ (by decide) h.st.v).trans h.st.v, (hty _ _ _ (by decide) h.st.k).trans h.st.k⟩, h.lo, h.N, h.np, h.le, h.g.below hbl, h.l.below hbl, h.ll, ho (by decide) h.F, h.fn, ho (by decide) h.R, h.rn, ho (by decide) h.W,
    ⟨pb, p1, p2, (hty _ _ _ (by decide) p3).trans p3⟩, ho (by decide) h.X, fun y hy => ⟨ho (by decide) (h.xi y hy).o1, ho (by decide) (h.xi y hy).o2, ho (by decide) (h.xi y hy).o3⟩, h.xp, h.dF, h.dR, h.dW, fun i hi hd => ?_⟩
  obtain ⟨⟨a1, a2, a3, a4, a5, tb, t1, t2, t3⟩, a7⟩ := h.pa i hi hd
  refine ⟨⟨a1, a2, a3, ho (by decide) a4, a5, tb, t1, t2, (hty _ _ _ (by decide) t3).trans t3⟩, ?_⟩
  cases hs : z.sol fon run i with
  | none => rw [hs] at a7; exact a7
  | some p =>
    obtain ⟨v, d⟩ := p
    rw [hs] at a7
    obtain ⟨b1, b2, b3, b4, b5, b6⟩ := a7
    exact ⟨b1, b2, b3, ho (by decide) b4, b5, ho (by decide) b6⟩
theorem StA.grown (h : StA w B sb x C V K z fon run xs dn) {base : Nat} {v : Value} {l : List (Int × Nat × (Int × Int))} {f : Int × Nat × (Int × Int) → List Value} (ho : Own w base 92 4 f v l) (hB : B ≤ base) (hg : w.grownBy w' v.ownBlock) : StA w' B sb x C V K z fon run xs dn := by
  cases hv : v.ownBlock with
  | none => rw [hv] at hg; exact h.below ⟨hg.os, hg.tape, hg.output, hg.size, fun k hk => hg.block k hk (by simp)⟩
  | some g => rw [hv] at hg; obtain ⟨cs, hc⟩ := own_type ho hv; exact h.gr92 hg hc (by have := ho.lt g hv; omega) (.inl rfl)
end
def slLen : Value → Nat
  | .slice _ n _ => n
  | _ => 0
theorem cutA_ints (o : Cu) : ∃ a b c d : Int, cutA o = #[.int .i64 a, .int .i64 b, .int .i64 c, .int .i64 d] := by
  cases o with
  | none => exact ⟨_, _, _, _, rfl⟩
  | some c => exact ⟨_, _, _, _, rfl⟩
theorem cutA_some (c : C1c) : cutA (some c) = #[.int .i64 c.1, .int .i64 (c.2.1 : Int), .int .i64 c.2.2.1, .int .i64 c.2.2.2] := rfl
/-- what stands at the head of settle's loop -/
structure SeI (w : World) (B sb : Nat) (x : SL) (z : Zs) (fon run : List Bool) (xs : List Pm) (s3 : Value) (g : Nat) (C : Nat → Ci) (V : Nat → Vi) (K : Nat → Bool) (f r : List Bool) (l : List C1c) (wr : World) : Prop where
  a : StA wr B sb x C V K z f r xs (fun j => j < z.np)
  b : Rw wr g 92 (cutA (z.next f r))
  o : Own wr w.heap.size 92 4 fCu s3 l
  s : z.Steps fon run l f r
  bl : Below B w wr
  sz : w.heap.size ≤ wr.heap.size
  ne : ∀ k, s3.ownBlock = some k → k ≠ g
  gl : w.heap.size ≤ g
/-- what settle answers -/
def SePost (B sb : Nat) (x : SL) (z : Zs) (fon run : List Bool) (xs : List Pm) (w : World) (e : Ending) (w' : World) : Prop :=
  ∃ (A : Option Addr) (c : Nat) (l : List C1c) (f r : List Bool) (C : Nat → Ci) (V : Nat → Vi) (K : Nat → Bool), e = .returned (.slice A l.length c) ∧ z.Steps fon run l f r ∧ z.next f r = none ∧ Own w' w.heap.size 92 4 fCu (.slice A l.length c) l ∧ StA w' B sb x C V K z f r xs (fun j => j < z.np) ∧ Below B w w' ∧ w.heap.size ≤ w'.heap.size
set_option maxRecDepth 100000 in
set_option maxHeartbeats 8000000 in
theorem StA.settleC {w : World} {B sb : Nat} {x : SL} {C : Nat → Ci} {V : Nat → Vi} {K' : Nat → Bool} {z : Zs} {fon run : List Bool} {xs : List Pm} (h : StA w B sb x C V K' z fon run xs (fun j => j < z.np)) (hz : z.Ok) :
    Calls Tryz.prog 61 #[.pointer (some ⟨sb, 0, none⟩)] w fun e w' => SePost B sb x z fon run xs w e w' := by
  have HN := Lib.hid (h.nextC hz)
  have HH := Lib.hid h; have HZ := Lib.hid hz
  obtain ⟨o0, ho0⟩ : ∃ o, z.next fon run = o := ⟨_, rfl⟩
  rw [ho0] at HN
  have HO0 := Lib.hid ho0
  have hcb : cntB fon + cntB run ≤ 1000 := by
    have h1 : cntB fon ≤ fon.length := List.length_filter_le _ _
    have h2 : cntB run ≤ run.length := List.length_filter_le _ _
    have := h.fn; have := (feedsB_nd hz.fb).2; have := h.rn; have := loadsB_len hz.lb; have := hz.n40; omega
  have HCB := Lib.hid hcb
  clear h hz ho0 hcb
  obtain ⟨i6, hi6, hz6, hs6, hy6⟩ := info_parts info92
  go_enter Tryz.func61, Tryz.ntmps61
  go_wp2_with fail
  (with_reducible refine (HN.out).mono ?_)
  rintro e w2 ⟨rfl, hb2⟩
  obtain ⟨v0, v1, v2, v3, hca⟩ := cutA_ints o0
  have qb := Rw.new w2 #[.int .i64 v0, .int .i64 v1, .int .i64 v2, .int .i64 v3] 92
  have q0 := Rw.new w2 #[.int .i64 0, .int .i64 0, .int .i64 0, .int .i64 0] 92
  have hb3 := (Below.refl w2.heap.size w2).alloc (Nat.le_refl _) (.cells #[.int .i64 v0, .int .i64 v1, .int .i64 v2, .int .i64 v3] 92)
  have m0 := q0.cell; have f0 := q0.frozen
  have hA3 := (HH.out.below hb2).below hb3
  have HSE := Lib.hid (show SeI w B sb x z fon run xs (.slice none 0 0) w2.heap.size C V K' fon run [] (w2.alloc (.cells #[.int .i64 v0, .int .i64 v1, .int .i64 v2, .int .i64 v3] 92)) from
    ⟨hA3, by rw [HO0.out, hca]; exact qb, Own.nil _ _ _ _ _, .nil, (hb2.trans (hb3.mono hb2.size)).mono HH.out.bw, Nat.le_trans hb2.size hb3.size, fun k hk => (by cases hk), hb2.size⟩)
  have HOS := Lib.hid (show o0.isSome = (z.next fon run).isSome from by rw [HO0.out])
  clear hb2 q0 qb hb3 hA3
  rw [hca]
  clear hca
  go_wp2
  clear m0 f0
  obtain ⟨W3, hW3⟩ : ∃ y, w2.alloc (.cells #[.int .i64 v0, .int .i64 v1, .int .i64 v2, .int .i64 v3] 92) = y := ⟨_, rfl⟩
  rw [hW3] at HSE ⊢
  clear hW3
  go_loopw [3, 4, 5] (fun s3 s4 s5 wr => ∃ (g : Nat) (C : Nat → Ci) (V : Nat → Vi) (K : Nat → Bool) (f r : List Bool) (l : List C1c), s4 = .pointer (some ⟨g, 0, none⟩) ∧ s5 = .bool (z.next f r).isSome ∧ SeI w B sb x z fon run xs s3 g C V K f r l wr) (fun s3 _ _ _ => 1001 - slLen s3)
  case atStart => exact ⟨_, C, V, K', fon, run, [], rfl, by rw [HOS.out], HSE.out⟩
  case round =>
    obtain ⟨g, C1, V1, K1, f, r, l, rfl, hs5, hI⟩ := hrel
    obtain ⟨hA, hB, hO, hS, hBL, hSZ, hNE, hGL⟩ := hI
    obtain ⟨A5, c5, rfl, hl5, hm5, -⟩ := hO.form
    have hcn := HZ.out.steps_cnt hS
    obtain ⟨o, ho⟩ : ∃ o, z.next f r = o := ⟨_, rfl⟩
    rw [ho] at hB hs5
    cases o with
    | none =>
      subst hs5
      have HF := Lib.hid (show SePost B sb x z fon run xs w (.returned (.slice A5 l.length c5)) wr from ⟨A5, c5, l, f, r, C1, V1, K1, rfl, hS, ho, hO, hA, hBL, hSZ⟩)
      clear hA hB hO hS hBL hSZ hNE hGL hl5 hm5 hcn ho
      generalize l.length = ln at *
      go_wp2
      go_ret
      exact HF.out
    | some c =>
      subst hs5
      have hva := HZ.out.next_at ho
      have HCC := Lib.hid (HZ.out.cut_cnt ho)
      have HST := Lib.hid (Zs.Steps.snoc hS ho)
      have HCT := Lib.hid (show Calls Tryz.prog 84 #[.pointer (some ⟨sb, 0, none⟩), .agg #[.int .i64 c.1, .int .i64 (c.2.1 : Int), .int .i64 c.2.2.1, .int .i64 c.2.2.2]] wr fun e w' => e = .returned (.tuple #[]) ∧ ∃ (C' : Nat → Ci) (V' : Nat → Vi) (K1 : Nat → Bool), StA w' B sb x C' V' K1 z (cutF c f) (cutR c r) xs (fun j => j < z.np) ∧ Kw B wr w' from by
        unfold cutF cutR
        rcases hva with ⟨e, h1, h2⟩ | ⟨e, h1, h2⟩
        · rw [if_pos e, if_pos e, e]; exact hA.cutTC HZ.out c.2.1 _ _ h1
        · rw [if_neg e, if_neg e]; exact hA.cutLC HZ.out c.1 c.2.1 _ _ e h1)
      rw [cutA_some] at hB
      obtain ⟨kd, ix, a1, a2⟩ := c
      simp only at hB HCT HCC HST
      have hbc := hB.cell
      have HB := Lib.hid hB; have HO := Lib.hid hO; have HBL := Lib.hid hBL; have HSZ := Lib.hid hSZ; have HNE := Lib.hid hNE; have HGL := Lib.hid hGL; have HAB := Lib.hid HH.out.bw
      have hlc : l.length ≤ 1000 := by have := HCB.out; omega
      have HLC := Lib.hid hlc
      have HLT := Lib.hid (show l.length < cntB fon + cntB run from by have := HCC.out; omega)
      generalize hn5 : l.length = n5 at *
      have HN5 := Lib.hid hn5
      clear hA hB hO hS hBL hSZ hNE hGL hl5 hm5 hcn ho hva hn5
      go_wp2_with fail
      (with_reducible refine (HCT.out).mono ?_)
      rintro e w4 ⟨rfl, C4, V4, K4, hA4, hk4⟩
      have hB4 := HB.out.ky hk4.ky (by decide) (by decide) (by decide)
      have hO4 := HO.out.ky hk4.ky (by decide) (by decide) (by decide)
      have HO4 := Lib.hid hO4; have HB4 := Lib.hid hB4; have HA4 := Lib.hid hA4; have HK4 := Lib.hid hk4
      have HZ4 := Lib.hid (show w.heap.size ≤ w4.heap.size from Nat.le_trans HSZ.out hk4.size)
      have m4 := hB4.cell
      clear hbc hA4 hk4 hB4 hO4
      go_wp2_with (at_builtin; go_must (refine wpList_app _ rfl (.tmp 20) (.tmp 22) _ rfl w.heap.size 92 i6 _ 4 32 Tryz.underlying69 hi6 hz6 hs6 hy6 rfl (by omega) fCu_len fCu_one (.slice A5 n5 c5) l rfl (HO4.out.alloc _) _ _ [(kd, ix, a1, a2)] 1 rfl (Sl.new _ _ ((kd, ix, a1, a2) : C1c) _ rfl) (by have := HLC.out; have := HN5.out; unfold maxLen; simp only [List.length_cons, List.length_nil]; omega) (by have := HLC.out; have := HN5.out; simp only [List.length_cons, List.length_nil]; omega) (by have := HZ4.out; simp; omega) (fun _ => .inr ⟨_, rfl⟩) ?_)
                   intro v5 w7 ow2 gr2 at2 ne2
                   go_must (have HO7 := Lib.hid ow2)
                   go_must (have HG7 := Lib.hid gr2)
                   go_must (have HB7 := (HB4.out.alloc (.cells #[.int .i64 kd, .int .i64 (ix : Int), .int .i64 a1, .int .i64 a2] 92)).grown gr2 (fun j e => HNE.out j e))
                   have m7 := HB7.cell
                   have f8 := (Rw.new w7 #[.int .i64 0, .int .i64 0, .int .i64 0, .int .i64 0] 92).frozen
                   have m8 := (Rw.new w7 #[.int .i64 0, .int .i64 0, .int .i64 0, .int .i64 0] 92).cell
                   clear ow2 gr2 at2 ne2 HB7)
      have hb8 := (Below.refl w7.heap.size w7).alloc (Nat.le_refl _) (.cells #[.int .i64 kd, .int .i64 (ix : Int), .int .i64 a1, .int .i64 a2] 92)
      have hba := (Below.refl w4.heap.size w4).alloc (Nat.le_refl _) (.cells #[.int .i64 kd, .int .i64 (ix : Int), .int .i64 a1, .int .i64 a2] 92)
      have q8 := Rw.new w7 #[.int .i64 kd, .int .i64 (ix : Int), .int .i64 a1, .int .i64 a2] 92
      have hAa := HA4.out.below hba
      have hOa := HO4.out.below hba (Nat.le_refl _)
      have hA7 := hAa.grown hOa HAB.out HG7.out
      have hA8 := hA7.below hb8
      have hbl7 : Below B w w7 := bGrown ((HBL.out.trans HK4.out.below).trans (hba.mono HA4.out.bw)) HG7.out (fun j e => by have := (hOa.lt j e).1; have := HAB.out; omega) (hAa.bw)
      have hO8 := HO7.out.below hb8 (Nat.le_refl _)
      have HN8 := Lib.hid (hA8.nextC HZ.out)
      have HSZ7 := Lib.hid (show w.heap.size ≤ w7.heap.size from Nat.le_trans (Nat.le_trans HZ4.out hba.size) HG7.out.size)
      have HNE7 := Lib.hid (show ∀ k, v5.ownBlock = some k → k ≠ w7.heap.size from fun k e => by have := (HO7.out.lt k e).2; omega)
      obtain ⟨o2, ho2⟩ : ∃ o, z.next (cutF (kd, ix, a1, a2) f) (cutR (kd, ix, a1, a2) r) = o := ⟨_, rfl⟩
      rw [ho2] at HN8
      obtain ⟨u0, u1, u2, u3, hcu⟩ := cutA_ints o2
      obtain ⟨w8, hw8⟩ : ∃ y, w7.alloc (.cells #[.int .i64 kd, .int .i64 (ix : Int), .int .i64 a1, .int .i64 a2] 92) = y := ⟨_, rfl⟩
      rw [hw8] at hb8 q8 hA8 hO8 HN8 ⊢
      have HA8 := Lib.hid hA8; have HQ8 := Lib.hid q8; have HO8 := Lib.hid hO8; have HBL8 := Lib.hid (hbl7.trans (hb8.mono hA7.bw)); have HSZ8 := Lib.hid (Nat.le_trans HSZ7.out hb8.size)
      have HO2 := Lib.hid ho2; have HCU := Lib.hid hcu
      clear hb8 hba q8 hAa hOa hA7 hA8 hbl7 hO8 ho2 hcu hw8 m4 m7 f8 m8
      (with_reducible refine (HN8.out).mono ?_)
      rintro e w9 ⟨rfl, hb9⟩
      rw [HCU.out]
      obtain ⟨g2, hg2⟩ : ∃ g, w7.heap.size = g := ⟨_, rfl⟩
      have q9 := HQ8.out.below hb9 HQ8.out.lt
      rw [hg2] at q9 HNE7 HSZ7 ⊢
      have m9 := q9.cell; have f9 := q9.frozen
      have q10 := (((q9.set 0 (.int .i64 u0)).set 1 (.int .i64 u1)).set 2 (.int .i64 u2)).set 3 (.int .i64 u3)
      have hgr : Gr g2 w9 ((((w9.setCell ⟨g2, 0, none⟩ (.int .i64 u0)).setCell ⟨g2, 1, none⟩ (.int .i64 u1)).setCell ⟨g2, 2, none⟩ (.int .i64 u2)).setCell ⟨g2, 3, none⟩ (.int .i64 u3)) := ((((Gr.refl g2 w9).set (p := ⟨g2, 0, none⟩) (.int .i64 u0) (.inl rfl)).set (p := ⟨g2, 1, none⟩) (.int .i64 u1) (.inl rfl)).set (p := ⟨g2, 2, none⟩) (.int .i64 u2) (.inl rfl)).set (p := ⟨g2, 3, none⟩) (.int .i64 u3) (.inl rfl)
      have hA9 := HA8.out.below hb9
      have HEND := Lib.hid (show SeI w B sb x z fon run xs v5 g2 C4 V4 K4 (cutF (kd, ix, a1, a2) f) (cutR (kd, ix, a1, a2) r) (l ++ [(kd, ix, a1, a2)]) ((((w9.setCell ⟨g2, 0, none⟩ (.int .i64 u0)).setCell ⟨g2, 1, none⟩ (.int .i64 u1)).setCell ⟨g2, 2, none⟩ (.int .i64 u2)).setCell ⟨g2, 3, none⟩ (.int .i64 u3)) from
        ⟨hA9.gr92 hgr q9 (Nat.le_trans HAB.out HSZ7.out) (.inl rfl), by rw [HO2.out, HCU.out]; exact q10, hgr.own (HO8.out.below hb9 (Nat.le_refl _)) HNE7.out, HST.out, (HBL8.out.trans (hb9.mono HA8.out.bw)).trans ⟨hgr.os, hgr.tape, hgr.output, hgr.size, fun k hk => hgr.blk (Nat.lt_of_lt_of_le hk hA9.bw) (by have := HAB.out; have := HSZ7.out; omega)⟩, Nat.le_trans (Nat.le_trans HSZ8.out hb9.size) hgr.size, HNE7.out, HSZ7.out⟩)
      have HLN := Lib.hid (show slLen v5 = n5 + 1 from by
        obtain ⟨A, c, hv, _⟩ := HO7.out.form
        rw [hv]; show (l ++ [(kd, ix, a1, a2)]).length = n5 + 1
        rw [List.length_append, HN5.out]; rfl)
      have HOS2 := Lib.hid (show o2.isSome = (z.next (cutF (kd, ix, a1, a2) f) (cutR (kd, ix, a1, a2) r)).isSome from by rw [HO2.out])
      clear hb9 q9 q10 hgr hA9 hg2
      go_wp2
      refine ⟨⟨g2, C4, V4, K4, _, _, _, rfl, by rw [HOS2.out], HEND.out⟩, ?_⟩
      rw [HLN.out]
      show 1001 - (n5 + 1) < 1001 - n5
      have := HLC.out; omega
end Go.Proofs.YtbnfnpakibkboaaGreat

namespace Go.Proofs.YtbnfnpakibkboaaGreat
set_option linter.unusedVariables false
set_option linter.unusedSimpArgs false
open Go.RowKit

theorem six_far {w : World} {g sb : Nat} {t : TypeId} {cs : Array Value} {v0 v1 v2 v3 v4 v5 : Value} (hne : sb ≠ g) (h : Rw w sb t cs) : Rw ((((((w.setCell ⟨g, 0, none⟩ v0).setCell ⟨g, 1, none⟩ v1).setCell ⟨g, 2, none⟩ v2).setCell ⟨g, 3, none⟩ v3).setCell ⟨g, 4, none⟩ v4).setCell ⟨g, 5, none⟩ v5) sb t cs :=
  (((((h.far 0 v0 hne).far 1 v1 hne).far 2 v2 hne).far 3 v3 hne).far 4 v4 hne).far 5 v5 hne
theorem six_gr {w : World} {g : Nat} {v0 v1 v2 v3 v4 v5 : Value} : Gr g w ((((((w.setCell ⟨g, 0, none⟩ v0).setCell ⟨g, 1, none⟩ v1).setCell ⟨g, 2, none⟩ v2).setCell ⟨g, 3, none⟩ v3).setCell ⟨g, 4, none⟩ v4).setCell ⟨g, 5, none⟩ v5) :=
  ((((((Gr.refl g w).set (p := ⟨g, 0, none⟩) v0 (.inl rfl)).set (p := ⟨g, 1, none⟩) v1 (.inl rfl)).set (p := ⟨g, 2, none⟩) v2 (.inl rfl)).set (p := ⟨g, 3, none⟩) v3 (.inl rfl)).set (p := ⟨g, 4, none⟩) v4 (.inl rfl)).set (p := ⟨g, 5, none⟩) v5 (.inl rfl)
/-- what a grid has come to, in memory -/
structure StlM (w' : World) (lo : Nat) (z : Zs) (fon run : List Bool) (sV sF sN sW sR sC : Sc) (l : List C1c) (f r : List Bool) : Prop where
  st : z.Steps fon run l f r
  en : z.next f r = none
  V : ∃ b, sV = ⟨some ⟨b, 0, none⟩, z.N, z.N⟩ ∧ lo ≤ b ∧ Rf w' b 55 (z.N * 2) (cellQ (fun c => redQ (z.volt f r c)))
  F : ∃ b, sF = ⟨some ⟨b, 0, none⟩, z.g.feeds.length, z.g.feeds.length⟩ ∧ lo ≤ b ∧ Rf w' b 55 (z.g.feeds.length * 2) (cellQ (fun k => redQ (z.amp f r k)))
  N : Own w' lo 4 1 fB sN.v f
  W : Own w' lo 4 1 fB sW.v z.sw
  R : Own w' lo 4 1 fB sR.v r
  C : Own w' lo 92 4 fCu sC.v l
  fl : f.length = z.g.feeds.length
  rl : r.length = z.ls.length
def StlPost (g : Gv) (s : Sv) (ls : List Lv) (w : World) (e : Ending) (w' : World) : Prop :=
  Below w.heap.size w w' ∧ ((okB g s ls = false ∧ e = .returned (.tuple #[.agg #[.slice none 0 0, .slice none 0 0, .slice none 0 0, .slice none 0 0, .slice none 0 0, .slice none 0 0], .int .i64 2])) ∨ (okB g s ls = true ∧ smallP (zOf g s ls).ps = false ∧ e = .returned (.tuple #[.agg #[.slice none 0 0, .slice none 0 0, .slice none 0 0, .slice none 0 0, .slice none 0 0, .slice none 0 0], .int .i64 3])) ∨
    (okB g s ls = true ∧ smallP (zOf g s ls).ps = true ∧ ∃ (sV sF sN sW sR sC : Sc) (l : List C1c) (f r : List Bool), e = .returned (.tuple #[.agg #[.slice sV.A sV.n sV.c, .slice sF.A sF.n sF.c, .slice sN.A sN.n sN.c, .slice sW.A sW.n sW.c, .slice sR.A sR.n sR.c, .slice sC.A sC.n sC.c], .int .i64 0]) ∧ StlM w' w.heap.size (zOf g s ls) s.feeds (List.replicate ls.length true) sV sF sN sW sR sC l f r))
set_option maxRecDepth 100000 in
set_option maxHeartbeats 8000000 in
theorem Settle_any (Aw Af As At Al : Option Addr) (nw nf ns nt nl cw cf cs ct cl : Nat) (g : Gv) (s : Sv) (ls : List Lv) (w : World) (hG : GAt w w.heap.size Aw nw Af nf g) (hS : SAt w w.heap.size As ns At nt s) (hll : ls.length = nl) (hlm : nl ≤ 100000) (hL : Sl w w.heap.size 3 CL Al ls) :
    Calls Tryz.prog 35 #[.agg #[.int .i64 g.nodes, .slice Aw nw cw, .slice Af nf cf, .int .i64 g.least], .agg #[.slice As ns cs, .slice At nt ct], .slice Al nl cl] w fun e w' => StlPost g s ls w e w' := by
  have hb1 := (((Below.refl w.heap.size w).alloc (Nat.le_refl _) (.cells #[.int .i64 g.nodes, .slice Aw nw cw, .slice Af nf cf, .int .i64 g.least] 25)).alloc (by simp) (.cells #[.slice As ns cs, .slice At nt ct] 28)).alloc (by simp; omega) (.cells #[.slice none 0 0, .slice none 0 0, .slice none 0 0, .slice none 0 0, .slice none 0 0, .slice none 0 0] 71)
  obtain ⟨q1, q2, q3⟩ := rows3 w #[.int .i64 g.nodes, .slice Aw nw cw, .slice Af nf cf, .int .i64 g.least] #[.slice As ns cs, .slice At nt ct] #[.slice none 0 0, .slice none 0 0, .slice none 0 0, .slice none 0 0, .slice none 0 0, .slice none 0 0] 25 28 71
  have e0 := q1.cell; have e1 := q2.cell
  have hz1 : (((w.alloc (.cells #[.int .i64 g.nodes, .slice Aw nw cw, .slice Af nf cf, .int .i64 g.least] 25)).alloc (.cells #[.slice As ns cs, .slice At nt ct] 28)).alloc (.cells #[.slice none 0 0, .slice none 0 0, .slice none 0 0, .slice none 0 0, .slice none 0 0, .slice none 0 0] 71)).heap.size = w.heap.size + 3 := by simp
  obtain ⟨W1, hW1⟩ : ∃ y, ((w.alloc (.cells #[.int .i64 g.nodes, .slice Aw nw cw, .slice Af nf cf, .int .i64 g.least] 25)).alloc (.cells #[.slice As ns cs, .slice At nt ct] 28)).alloc (.cells #[.slice none 0 0, .slice none 0 0, .slice none 0 0, .slice none 0 0, .slice none 0 0, .slice none 0 0] 71) = y := ⟨_, rfl⟩
  rw [hW1] at hb1 e0 e1 q3 hz1
  have HB1 := Lib.hid hb1
  have HOP := Lib.hid (open_any Aw Af As At Al nw nf ns nt nl cw cf cs ct cl g s ls W1 ((hG.below hb1).more hb1.size) ((hS.below hb1).more hb1.size) hll hlm ((hL.below hb1).more (fun _ _ h => h) hb1.size))
  obtain ⟨g6, hg6⟩ : ∃ g6, g6 = w.heap.size + 2 := ⟨_, rfl⟩
  have hg6' : w.heap.size + 2 = g6 := hg6.symm
  rw [show w.heap.size + 1 + 1 = w.heap.size + 2 from rfl] at q3
  have q3' : Rw W1 g6 71 #[.slice none 0 0, .slice none 0 0, .slice none 0 0, .slice none 0 0, .slice none 0 0, .slice none 0 0] := by rw [hg6]; exact q3
  have HQ3 := Lib.hid q3'; have HG6N := Lib.hid (show w.heap.size ≤ g6 ∧ g6 < W1.heap.size from by omega)
  have HG6E := Lib.hid hg6'
  clear q1 q2 q3 q3' hG hS hL hll hlm hb1 hg6 hg6' hz1
  go_enter Tryz.func35, Tryz.ntmps35
  go_wp2_with fail
  (with_reducible refine (HOP.out).mono ?_)
  rintro e w2 ⟨hb2, hp⟩
  clear e0 e1
  rw [show w.heap.size + 1 + 1 = g6 from HG6E.out]
  have HB2 := Lib.hid (HB1.out.trans (hb2.mono HB1.out.size)); have HB2' := Lib.hid hb2
  have r6 := HQ3.out.below hb2 HQ3.out.lt
  have m6 := r6.cell; have f6 := r6.frozen
  have HR5 := Lib.hid (show Rw ((((((w2.setCell ⟨g6, 0, none⟩ (.slice none 0 0)).setCell ⟨g6, 1, none⟩ (.slice none 0 0)).setCell ⟨g6, 2, none⟩ (.slice none 0 0)).setCell ⟨g6, 3, none⟩ (.slice none 0 0)).setCell ⟨g6, 4, none⟩ (.slice none 0 0)).setCell ⟨g6, 5, none⟩ (.slice none 0 0)) g6 71 #[.slice none 0 0, .slice none 0 0, .slice none 0 0, .slice none 0 0, .slice none 0 0, .slice none 0 0] from (((((r6.set 0 _).set 1 _).set 2 _).set 3 _).set 4 _).set 5 _)
  have HBE := Lib.hid (show Below w.heap.size w ((((((w2.setCell ⟨g6, 0, none⟩ (.slice none 0 0)).setCell ⟨g6, 1, none⟩ (.slice none 0 0)).setCell ⟨g6, 2, none⟩ (.slice none 0 0)).setCell ⟨g6, 3, none⟩ (.slice none 0 0)).setCell ⟨g6, 4, none⟩ (.slice none 0 0)).setCell ⟨g6, 5, none⟩ (.slice none 0 0)) from
    (((((HB2.out.setCell (p := ⟨g6, 0, none⟩) HG6N.out.1 _).setCell (p := ⟨g6, 1, none⟩) HG6N.out.1 _).setCell (p := ⟨g6, 2, none⟩) HG6N.out.1 _).setCell (p := ⟨g6, 3, none⟩) HG6N.out.1 _).setCell (p := ⟨g6, 4, none⟩) HG6N.out.1 _).setCell (p := ⟨g6, 5, none⟩) HG6N.out.1 _)
  rcases hp with ⟨ho, rfl⟩ | ⟨ho, hs, rfl⟩ | ⟨ho, hs, sb, x, C, V, Km, xs, rfl, hA⟩
  · have HO := Lib.hid ho
    clear hb2 ho r6
    go_wp2
    (try simp only [Exit.inBlock, Exit.then])
    refine bodyPost_ret (res_ct rfl _ _ _ _ _ _ _ rfl rfl HR5.out Tryz.underlying71 rfl (by kernel_rfl)) rfl ?_
    exact ⟨HBE.out, .inl ⟨HO.out, rfl⟩⟩
  · have HO := Lib.hid ho; have HS := Lib.hid hs
    clear hb2 ho hs r6
    go_wp2
    (try simp only [Exit.inBlock, Exit.then])
    refine bodyPost_ret (res_ct rfl _ _ _ _ _ _ _ rfl rfl HR5.out Tryz.underlying71 rfl (by kernel_rfl)) rfl ?_
    exact ⟨HBE.out, .inr (.inl ⟨HO.out, HS.out, rfl⟩)⟩
  · have hok := (okB_pre ho).ok hs
    have HOK := Lib.hid hok; have HO := Lib.hid ho; have HSM := Lib.hid hs; have HA := Lib.hid hA
    have HSE := Lib.hid (hA.settleC hok)
    have HR6 := Lib.hid r6
    have hsbl : W1.heap.size ≤ sb := hA.lo.1
    have HSB := Lib.hid hsbl
    clear hb2 ho hs hA hok r6 m6 f6 HR5 HBE hsbl
    go_wp2_with fail
    (with_reducible refine (HSE.out).mono ?_)
    rintro e w4 ⟨A5, c5, l, f, r, C4, V4, K4, rfl, hst, hnx, hown, hA4, hb4, hsz4⟩
    obtain ⟨ln, hln⟩ : ∃ n, l.length = n := ⟨_, rfl⟩
    rw [hln] at hown ⊢
    have hsv := HOK.out.solved_of (Zs.next_none hnx).1 (Zs.next_none hnx).2.1
    obtain ⟨zN, hzN⟩ : ∃ n, (zOf g s ls).N = n := ⟨_, rfl⟩
    obtain ⟨zF, hzF⟩ : ∃ n, g.feeds.length = n := ⟨_, rfl⟩
    have HV := Lib.hid (show ∀ wx, Below w4.heap.size w4 wx → Calls Tryz.prog 53 #[.pointer (some ⟨sb, 0, none⟩)] wx fun e w' => ∃ b1 : Nat, e = .returned (.slice (some ⟨b1, 0, none⟩) zN zN) ∧ (Rf w' b1 55 (zN * 2) (cellQ (fun c => redQ ((zOf g s ls).volt f r c))) ∧ w4.heap.size ≤ b1) ∧ Below wx.heap.size wx w' from fun wx hb => by
      refine ((hA4.below hb).voltsC HOK.out hsv).mono ?_
      rintro e w' ⟨rfl, h1, h2⟩
      exact ⟨_, by rw [hzN], ⟨by rw [← hzN]; exact h1, hb.size⟩, h2⟩)
    have HM := Lib.hid (show ∀ wx, Below w4.heap.size w4 wx → Calls Tryz.prog 54 #[.pointer (some ⟨sb, 0, none⟩)] wx fun e w' => ∃ b2 : Nat, e = .returned (.slice (some ⟨b2, 0, none⟩) zF zF) ∧ (Rf w' b2 55 (zF * 2) (cellQ (fun c => redQ ((zOf g s ls).amp f r c))) ∧ w4.heap.size ≤ b2) ∧ Below wx.heap.size wx w' from fun wx hb => by
      refine ((hA4.below hb).ampsC HOK.out hsv).mono ?_
      rintro e w' ⟨rfl, h1, h2⟩
      exact ⟨_, by rw [← hzF]; rfl, ⟨by rw [← hzF]; exact h1, hb.size⟩, h2⟩)
    have HRS := Lib.hid (show ∀ wx, Below w4.heap.size w4 wx → Rw wx sb 110 #[.int .i64 (x.N : Int), .slice x.wires.A x.wires.n x.wires.c, .slice x.feeds.A x.feeds.n x.feeds.c, .int .i64 x.least, .slice x.fon.A x.fon.n x.fon.c, .slice x.sw.A x.sw.n x.sw.c, .slice x.loads.A x.loads.n x.loads.c, .slice x.run.A x.run.n x.run.c, .slice x.parts.A x.parts.n x.parts.c, .slice x.pof.A x.pof.n x.pof.c, .slice (some ⟨x.cb, 0, none⟩) x.np x.np, .slice (some ⟨x.vb, 0, none⟩) x.np x.np, .slice (some ⟨x.kb, 0, none⟩) x.np x.np] from fun wx hb => (hA4.below hb).row)
    have hr6 : Rw w4 g6 71 #[.slice none 0 0, .slice none 0 0, .slice none 0 0, .slice none 0 0, .slice none 0 0, .slice none 0 0] := (hb4.block g6 (by have := HG6N.out; omega)).trans HR6.out
    have HG6 := Lib.hid (show ∀ wx, Below w4.heap.size w4 wx → Rw wx g6 71 #[.slice none 0 0, .slice none 0 0, .slice none 0 0, .slice none 0 0, .slice none 0 0, .slice none 0 0] from fun wx hb => hr6.below hb hr6.lt)
    have HSG := Lib.hid (show sb ≠ g6 from by have := HSB.out; have := HG6N.out; omega)
    have HEN := Lib.hid (show ∀ (wx : World) (b1 b2 : Nat), Below w4.heap.size w4 wx → Rf wx b1 55 (zN * 2) (cellQ (fun c => redQ ((zOf g s ls).volt f r c))) → w4.heap.size ≤ b1 → (Rf wx b2 55 (zF * 2) (cellQ (fun c => redQ ((zOf g s ls).amp f r c))) ∧ w4.heap.size ≤ b2) →
        StlPost g s ls w (.returned (.tuple #[.agg #[.slice (some ⟨b1, 0, none⟩) zN zN, .slice (some ⟨b2, 0, none⟩) zF zF, .slice x.fon.A x.fon.n x.fon.c, .slice x.sw.A x.sw.n x.sw.c, .slice x.run.A x.run.n x.run.c, .slice A5 ln c5], .int .i64 0])) ((((((wx.setCell ⟨g6, 0, none⟩ (.slice (some ⟨b1, 0, none⟩) zN zN)).setCell ⟨g6, 1, none⟩ (.slice (some ⟨b2, 0, none⟩) zF zF)).setCell ⟨g6, 2, none⟩ (.slice x.fon.A x.fon.n x.fon.c)).setCell ⟨g6, 3, none⟩ (.slice x.sw.A x.sw.n x.sw.c)).setCell ⟨g6, 4, none⟩ (.slice x.run.A x.run.n x.run.c)).setCell ⟨g6, 5, none⟩ (.slice A5 ln c5)) from fun wx b1 b2 hb hv hvl hm => by
      have hg := six_gr (w := wx) (g := g6) (v0 := .slice (some ⟨b1, 0, none⟩) zN zN) (v1 := .slice (some ⟨b2, 0, none⟩) zF zF) (v2 := .slice x.fon.A x.fon.n x.fon.c) (v3 := .slice x.sw.A x.sw.n x.sw.c) (v4 := .slice x.run.A x.run.n x.run.c) (v5 := .slice A5 ln c5)
      have hgl := HG6N.out; have hsz2 := HB2'.out.size
      have h4 := hA4.below hb
      have hlo : w.heap.size ≤ W1.heap.size := HB1.out.size
      have hrow := HG6.out wx hb
      have hbe : Below w.heap.size w wx := HB2.out.trans ((hb4.trans (hb.mono hA4.bw)).mono hlo)
      refine ⟨hbe.trans ⟨hg.os, hg.tape, hg.output, hg.size, fun k hk => hg.blk (Nat.lt_of_lt_of_le hk hbe.size) (by omega)⟩, .inr (.inr ⟨HO.out, HSM.out, ⟨some ⟨b1, 0, none⟩, zN, zN⟩, ⟨some ⟨b2, 0, none⟩, zF, zF⟩, x.fon, x.sw, x.run, ⟨A5, ln, c5⟩, l, f, r, rfl, hst, hnx, ⟨b1, by rw [hzN], by omega, ?_⟩, ⟨b2, by rw [← hzF]; rfl, by omega, ?_⟩, ?_, ?_, ?_, ?_, h4.fn, h4.rn⟩)⟩
      · rw [hzN]; exact hg.rf hv (by omega)
      · show Rf _ b2 55 (g.feeds.length * 2) _
        rw [hzF]; exact hg.rf hm.1 (by omega)
      · exact (hg.own h4.F (own_ne h4.F hrow (by decide))).lower hlo
      · exact (hg.own h4.W (own_ne h4.W hrow (by decide))).lower hlo
      · exact (hg.own h4.R (own_ne h4.R hrow (by decide))).lower hlo
      · have ho := hown.below hb (Nat.le_refl _)
        exact (hg.own ho (own_ne ho hrow (by decide))).lower (by have := HB2.out.size; omega))
    clear hst hnx hown hA4 hb4 hsz4 hln hsv hzN hzF hr6
    go_upto_region 5 with (fail)
    have hbq : Below w4.heap.size w4 w4.drew := (Below.refl _ _).drew
    have HS := Lib.hid (show (fun wx => Rw wx (sb) 110 #[.int .i64 (x.N : Int), .slice x.wires.A x.wires.n x.wires.c, .slice x.feeds.A x.feeds.n x.feeds.c, .int .i64 x.least, .slice x.fon.A x.fon.n x.fon.c, .slice x.sw.A x.sw.n x.sw.c, .slice x.loads.A x.loads.n x.loads.c, .slice x.run.A x.run.n x.run.c, .slice x.parts.A x.parts.n x.parts.c, .slice x.pof.A x.pof.n x.pof.c, .slice (some ⟨x.cb, 0, none⟩) x.np x.np, .slice (some ⟨x.vb, 0, none⟩) x.np x.np, .slice (some ⟨x.kb, 0, none⟩) x.np x.np]) w4.drew from HRS.out _ hbq)
    refine wp_region_noPanic ?_
    refine wp_region_held_drew (S := fun wx => Rw wx (sb) 110 #[.int .i64 (x.N : Int), .slice x.wires.A x.wires.n x.wires.c, .slice x.feeds.A x.feeds.n x.feeds.c, .int .i64 x.least, .slice x.fon.A x.fon.n x.fon.c, .slice x.sw.A x.sw.n x.sw.c, .slice x.loads.A x.loads.n x.loads.c, .slice x.run.A x.run.n x.run.c, .slice x.parts.A x.parts.n x.parts.c, .slice x.pof.A x.pof.n x.pof.c, .slice (some ⟨x.cb, 0, none⟩) x.np x.np, .slice (some ⟨x.vb, 0, none⟩) x.np x.np, .slice (some ⟨x.kb, 0, none⟩) x.np x.np]) (by kernel_rfl) HS.out (fun _ => ?_)
    refine hTk (i := 0) (d := 24) (v := .pointer (some ⟨sb, 0, none⟩)) rfl rfl (Or.inl ⟨rfl, by rintro W' r0; have ry0 := r0.cell; go_simp⟩) HS.out ?_
    simp only [Act.put, sB, sZ, sS]
    refine hTk (i := 2) (d := 26) (v := .pointer (some ⟨sb, 0, none⟩)) rfl rfl (Or.inl ⟨rfl, by rintro W' r0; have ry0 := r0.cell; go_simp⟩) HS.out ?_
    simp only [Act.put, sB, sZ, sS]
    refine hTk (i := 4) (d := 28) (v := .pointer (some ⟨sb, 0, none⟩)) rfl rfl (Or.inl ⟨rfl, by rintro W' r0; have ry0 := r0.cell; go_simp⟩) HS.out ?_
    simp only [Act.put, sB, sZ, sS]
    refine hTk (i := 5) (d := 29) (v := .pointer (some ⟨sb, 0, none⟩)) rfl rfl (Or.inl ⟨rfl, by rintro W' r0; have ry0 := r0.cell; go_simp⟩) HS.out ?_
    simp only [Act.put, sB, sZ, sS]
    refine hTk (i := 6) (d := 30) (v := .pointer (some ⟨sb, 4, none⟩)) rfl rfl (Or.inl ⟨rfl, by rintro W' r0; have ry0 := r0.cell; go_simp⟩) HS.out ?_
    simp only [Act.put, sB, sZ, sS]
    refine hTk (i := 7) (d := 31) (v := .agg #[.slice x.fon.A x.fon.n x.fon.c, .slice x.sw.A x.sw.n x.sw.c]) rfl rfl (Or.inl ⟨rfl, by rintro W' r0; have ry0 := r0.cell; go_simp⟩) HS.out ?_
    simp only [Act.put, sB, sZ, sS]
    refine hTk (i := 8) (d := 32) (v := .pointer (some ⟨sb, 0, none⟩)) rfl rfl (Or.inl ⟨rfl, by rintro W' r0; have ry0 := r0.cell; go_simp⟩) HS.out ?_
    simp only [Act.put, sB, sZ, sS]
    refine hTk (i := 9) (d := 33) (v := .pointer (some ⟨sb, 0, none⟩)) rfl rfl (Or.inl ⟨rfl, by rintro W' r0; have ry0 := r0.cell; go_simp⟩) HS.out ?_
    simp only [Act.put, sB, sZ, sS]
    refine hTk (i := 10) (d := 34) (v := .pointer (some ⟨sb, 7, none⟩)) rfl rfl (Or.inl ⟨rfl, by rintro W' r0; have ry0 := r0.cell; go_simp⟩) HS.out ?_
    simp only [Act.put, sB, sZ, sS]
    refine hTk (i := 11) (d := 35) (v := .slice x.run.A x.run.n x.run.c) rfl rfl (Or.inl ⟨rfl, by rintro W' r0; have ry0 := r0.cell; go_simp⟩) HS.out ?_
    simp only [Act.put, sB, sZ, sS]
    refine hTk (i := 12) (d := 36) (v := .slice A5 ln c5) rfl rfl (Or.inl ⟨rfl, by rintro W' r0; have ry0 := r0.cell; go_simp⟩) HS.out ?_
    simp only [Act.put, sB, sZ, sS]
    refine wpAnyH_ready (rs := [1]) (by kernel_rfl) (by simp) ?_
    refine AllReadyH.cons rfl (fun K hK => ?_) AllReadyH.nil
    rw [if_pos (by rfl)]
    go_simp
    go_at_call 53
    (with_reducible refine (HV.out _ hbq).mono ?_)
    rintro e wc0 ⟨b1, rfl, hv1, hbn⟩
    have HV1 := Lib.hid hv1
    replace hbq := hbq.trans (hbn.mono hbq.size)
    have HBQ1 := Lib.hid hbq
    clear hbn hv1
    have HS := Lib.hid (show (fun wx => Rw wx (sb) 110 #[.int .i64 (x.N : Int), .slice x.wires.A x.wires.n x.wires.c, .slice x.feeds.A x.feeds.n x.feeds.c, .int .i64 x.least, .slice x.fon.A x.fon.n x.fon.c, .slice x.sw.A x.sw.n x.sw.c, .slice x.loads.A x.loads.n x.loads.c, .slice x.run.A x.run.n x.run.c, .slice x.parts.A x.parts.n x.parts.c, .slice x.pof.A x.pof.n x.pof.c, .slice (some ⟨x.cb, 0, none⟩) x.np x.np, .slice (some ⟨x.vb, 0, none⟩) x.np x.np, .slice (some ⟨x.kb, 0, none⟩) x.np x.np]) wc0 from HRS.out _ hbq)
    refine hK.out _ _ HS.out (fun _ => ?_)
    clear hK K
    try simp only [Act.put, sB, sZ, sS]
    refine wpAnyH_ready (rs := [3]) (by kernel_rfl) (by simp) ?_
    refine AllReadyH.cons rfl (fun K hK => ?_) AllReadyH.nil
    rw [if_pos (by rfl)]
    go_simp
    go_at_call 54
    (with_reducible refine (HM.out _ hbq).mono ?_)
    rintro e wc1 ⟨b2, rfl, hm1, hbn⟩
    have HM1 := Lib.hid hm1
    have HBN := Lib.hid hbn
    replace hbq := hbq.trans (hbn.mono hbq.size)
    clear hbn hm1
    have HS := Lib.hid (show (fun wx => Rw wx (sb) 110 #[.int .i64 (x.N : Int), .slice x.wires.A x.wires.n x.wires.c, .slice x.feeds.A x.feeds.n x.feeds.c, .int .i64 x.least, .slice x.fon.A x.fon.n x.fon.c, .slice x.sw.A x.sw.n x.sw.c, .slice x.loads.A x.loads.n x.loads.c, .slice x.run.A x.run.n x.run.c, .slice x.parts.A x.parts.n x.parts.c, .slice x.pof.A x.pof.n x.pof.c, .slice (some ⟨x.cb, 0, none⟩) x.np x.np, .slice (some ⟨x.vb, 0, none⟩) x.np x.np, .slice (some ⟨x.kb, 0, none⟩) x.np x.np]) wc1 from HRS.out _ hbq)
    refine hK.out _ _ HS.out (fun _ => ?_)
    clear hK K
    try simp only [Act.put, sB, sZ, sS]
    refine hTk (i := 13) (d := 37) (v := .agg #[.slice (some ⟨b1, 0, none⟩) zN zN, .slice (some ⟨b2, 0, none⟩) zF zF, .slice x.fon.A x.fon.n x.fon.c, .slice x.sw.A x.sw.n x.sw.c, .slice x.run.A x.run.n x.run.c, .slice A5 ln c5]) rfl rfl (Or.inl ⟨rfl, by rintro W' r0; have ry0 := r0.cell; go_simp⟩) HS.out ?_
    simp only [Act.put, sB, sZ, sS]
    refine wpAnyH_ready (rs := [14]) (by kernel_rfl) (by simp) ?_
    refine AllReadyH.cons rfl (fun K hK => ?_) AllReadyH.nil
    rw [if_pos (by rfl)]
    have r6 := (HG6.out _ hbq)
    have e6 := r6.cell; have f6 := r6.frozen
    go_simp
    have HR6 := Lib.hid (show Rw ((((((wc1.setCell ⟨g6, 0, none⟩ (.slice (some ⟨b1, 0, none⟩) zN zN)).setCell ⟨g6, 1, none⟩ (.slice (some ⟨b2, 0, none⟩) zF zF)).setCell ⟨g6, 2, none⟩ (.slice x.fon.A x.fon.n x.fon.c)).setCell ⟨g6, 3, none⟩ (.slice x.sw.A x.sw.n x.sw.c)).setCell ⟨g6, 4, none⟩ (.slice x.run.A x.run.n x.run.c)).setCell ⟨g6, 5, none⟩ (.slice A5 ln c5)) g6 71 #[.slice (some ⟨b1, 0, none⟩) zN zN, .slice (some ⟨b2, 0, none⟩) zF zF, .slice x.fon.A x.fon.n x.fon.c, .slice x.sw.A x.sw.n x.sw.c, .slice x.run.A x.run.n x.run.c, .slice A5 ln c5] from (((((r6.set 0 _).set 1 _).set 2 _).set 3 _).set 4 _).set 5 _)
    have HFIN := Lib.hid (HEN.out _ _ _ hbq (HV1.out.1.below HBN.out HV1.out.1.lt) HV1.out.2 HM1.out)
    have HT := Lib.hid (show (fun wx => Rw wx (sb) 110 #[.int .i64 (x.N : Int), .slice x.wires.A x.wires.n x.wires.c, .slice x.feeds.A x.feeds.n x.feeds.c, .int .i64 x.least, .slice x.fon.A x.fon.n x.fon.c, .slice x.sw.A x.sw.n x.sw.c, .slice x.loads.A x.loads.n x.loads.c, .slice x.run.A x.run.n x.run.c, .slice x.parts.A x.parts.n x.parts.c, .slice x.pof.A x.pof.n x.pof.c, .slice (some ⟨x.cb, 0, none⟩) x.np x.np, .slice (some ⟨x.vb, 0, none⟩) x.np x.np, .slice (some ⟨x.kb, 0, none⟩) x.np x.np]) ((((((wc1.setCell ⟨g6, 0, none⟩ (.slice (some ⟨b1, 0, none⟩) zN zN)).setCell ⟨g6, 1, none⟩ (.slice (some ⟨b2, 0, none⟩) zF zF)).setCell ⟨g6, 2, none⟩ (.slice x.fon.A x.fon.n x.fon.c)).setCell ⟨g6, 3, none⟩ (.slice x.sw.A x.sw.n x.sw.c)).setCell ⟨g6, 4, none⟩ (.slice x.run.A x.run.n x.run.c)).setCell ⟨g6, 5, none⟩ (.slice A5 ln c5)) from six_far HSG.out (HRS.out _ hbq))
    clear r6 e6 f6 HS
    have HS := HT
    refine hK.out _ _ HS.out (fun _ => ?_)
    clear hK K
    try simp only [Act.put, sB, sZ, sS]
    refine hTk (i := 15) (d := 7) (v := .int .i64 0) rfl rfl (Or.inl ⟨rfl, by rintro W' r0; have ry0 := r0.cell; go_simp⟩) HS.out ?_
    simp only [Act.put, sB, sZ, sS]
    refine wpAnyH_done (by kernel_rfl) ?_ _
    clear HS
    refine NoPanic.normal ?_
    (try simp only [Exit.inBlock, Exit.then])
    go_wp2
    (try simp only [Exit.inBlock, Exit.then])
    refine bodyPost_ret (res_ct rfl _ _ _ _ _ _ _ rfl rfl HR6.out Tryz.underlying71 rfl (by kernel_rfl)) rfl ?_
    exact HFIN.out
end Go.Proofs.YtbnfnpakibkboaaGreat
