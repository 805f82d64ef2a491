/- Contracts: Check, find, both, Strips, Place, Within, Gap, Foul. -/
import Derived.Deep.WholeRow
import Derived.Laws.CopyOwn
import Derived.Test.YtekambdnmaompaaGreatJ2
import Derived.Test.YtekambdnmaompaaGreatJ3
import Derived.Test.YtekambdnmaompaaGreatJ4
namespace Go.Proofs.YtekambdnmaompaaGreat.SW
set_option linter.unusedVariables false
set_option linter.unusedSimpArgs false
open Go.RowKit

theorem Check_any (A A2 : Option Addr) (c c2 : Nat) (p : Pl) (w : World) (hP : PlAt w w.heap.size A c A2 c2 p) :
    Calls Tryz.prog 48 #[.agg #[.slice A p.nodes.length c, .slice A2 p.rails.length c2]] w (CheckPost p w) := by
  have HP := Lib.hid (hP.box (.cells #[.slice A p.nodes.length c, .slice A2 p.rails.length c2] 25)); clear hP
  go_enter Tryz.func48, Tryz.ntmps48
  go_wp2_with fail
  refine (survey_any A A2 c c2 p _ HP.out).mono ?_
  rintro e w1 ⟨hb, ⟨hv, rfl⟩ | ⟨hv, g, rfl, hg, hN⟩⟩
  · have HV := Lib.hid hv; have HB := Lib.hid hb; clear hv hb
    go_wp2
    go_ret
    exact ⟨.inr ⟨HV.out, rfl⟩, ((Below.refl _ _).alloc (Nat.le_refl _) _).trans (HB.out.mono (by simp))⟩
  · have HV := Lib.hid hv; have HB := Lib.hid hb; clear hv hb hN
    go_wp2
    go_ret
    exact ⟨.inl ⟨HV.out, rfl⟩, ((Below.refl _ _).alloc (Nat.le_refl _) _).trans (HB.out.mono (by simp))⟩
theorem Rw.setRow {w : World} {g : Nat} {t : TypeId} {cs : Array Value} (h : Rw w g t cs) (cs' : Array Value) : Rw (w.setRow g cs') g t cs' := setRow_heap w g cs cs' t (0, 0) h
theorem Rw.setRow_far {w : World} {g k : Nat} {t : TypeId} {cs : Array Value} (h : Rw w g t cs) (cs' : Array Value) (hk : g ≠ k) : Rw (w.setRow k cs') g t cs := (setRow_other w k g cs' hk).trans h
/-- a whole row is stored -/
theorem wp_store_row {P : Program} {o : Oper} {a : Act} {w : World} {K : Act → World → Prop} {Q : Exit → Act → World → Prop} (ty : TypeId) (x y : Operand) (ho : o.op = .store ty x y)
    (g : Nat) (hx : a.eval x = .pointer (some ⟨g, 0, none⟩)) (cs' : Array Value) (hy : a.eval y = .agg cs') (t : TypeId) (cs : Array Value) (hg : Rw w g t cs)
    (hi : (P.info? ty).map (·.size) = some cs'.size) (hs : cs.size = cs'.size) (h1 : cs'.all (·.oneCell') = true)
    (h : K (a.put o.dst undef) (w.setRow g cs')) : o.wp P a w K Q := by
  unfold Oper.wp execOp
  have hr := run_storeVar_row (P := P) w g t ty cs cs' hg hi hs h1
  simp only [ho, hx, hy, Instr.storeAt, Instr.sureAddr, Sem.run_bind, Sem.run_pure, Result.andThen_ok, hr]
  exact h
/-- what find, both read first -/
structure FP (k : Nat) (A A2 : Option Addr) (N M c c2 : Nat) (r q : Int) (wx : World) : Prop where
  c0 : wx.cell? ⟨k, 0, none⟩ = some (.slice A N c)
  c1 : wx.cell? ⟨k, 1, none⟩ = some (.slice A2 M c2)
  c2 : wx.cell? ⟨k + 1, 0, none⟩ = some (.int .i64 r)
  c3 : wx.cell? ⟨k + 1, 1, none⟩ = some (.int .i64 q)
end Go.Proofs.YtekambdnmaompaaGreat.SW

namespace Go.Proofs.YtekambdnmaompaaGreat.SW
set_option linter.unusedVariables false
set_option linter.unusedSimpArgs false
open Go.RowKit

theorem wpAnyH_strong {P : Program} {ops : Array Oper} {Q : Exit → Act → World → Prop} {md : Region.Mode} {S S' : World → Prop} (hS : ∀ w, S' w → S w) :
    ∀ (fuel : Nat) (listed : Array Bool) (a : Act) (w : World), wpAnyH P md ops Q S' fuel listed a w → wpAnyH P md ops Q S fuel listed a w
  | 0, _, _, _, h => h
  | fuel + 1, _, _, _, h => ⟨h.1, fun i hi => wpOp_mono (fun a' w' h' => ⟨hS _ h'.1, wpAnyH_strong hS fuel _ a' w' h'.2⟩) (h.2 i hi)⟩
/-- a strip's cells in a row of strips -/
def Ex (b o : Nat) (x : SwM) (wx : World) : Prop := ∀ (j : Nat) (u : Value), (fSw x)[j]? = some u → wx.cell? ⟨b, o + j, none⟩ = some u
theorem FP.setRow {k g : Nat} {A A2 : Option Addr} {N M c c2 : Nat} {r q : Int} {wx : World} (h : FP k A A2 N M c c2 r q wx) (cs : Array Value) (h1 : k ≠ g) (h2 : k + 1 ≠ g) : FP k A A2 N M c c2 r q (wx.setRow g cs) :=
  ⟨(cell_setRow_other wx g cs ⟨k, 0, none⟩ h1).trans h.c0, (cell_setRow_other wx g cs ⟨k, 1, none⟩ h1).trans h.c1, (cell_setRow_other wx g cs ⟨k + 1, 0, none⟩ h2).trans h.c2, (cell_setRow_other wx g cs ⟨k + 1, 1, none⟩ h2).trans h.c3⟩
theorem Ex.setRow {b o g : Nat} {x : SwM} {wx : World} (h : Ex b o x wx) (cs : Array Value) (h1 : b ≠ g) : Ex b o x (wx.setRow g cs) := fun j u hu => (cell_setRow_other wx g cs ⟨b, o + j, none⟩ h1).trans (h j u hu)
theorem SwIn.setRow {w : World} {x : SwM} (h : SwIn w x) (g : Nat) (cs : Array Value) (hg : ∀ a, x.A = some a → a.block ≠ g) : SwIn (w.setRow g cs) x :=
  ⟨h.ok, Sl.keepA h.sl (by simp) fun a q u ha hq hc => (cell_setRow_other w g cs q (by rw [hq]; exact hg a ha)).trans hc, h.le⟩
set_option maxRecDepth 100000 in
set_option maxHeartbeats 8000000 in
theorem find_yes (A A2 : Option Addr) (c c2 : Nat) (p : Pl) (r k : Nat) (L : List S) (w : World) (hP : PlAt w w.heap.size A c A2 c2 p) (h : RlOk p r L) (hk : k + 1 < L.length) :
    Calls Tryz.prog 51 #[.agg #[.slice A p.nodes.length c, .slice A2 p.rails.length c2], .agg #[.int .i64 r, .int .i64 k]] w fun e w' =>
      ∃ x : SwM, e = .returned (.tuple #[.agg (fSw x).toArray, .bool true]) ∧ x.s = stripAt r L k ∧ SwIn w' x ∧ (∀ a, x.A = some a → w.heap.size ≤ a.block) ∧ Below w.heap.size w w' := by
  have hrm := hP.rm
  have hrc := hP.rc
  have hle := h.le
  have hlen := h.len
  have hnl := h.hr
  have hb3 := (((Below.refl _ w).alloc (Nat.le_refl _) (.cells #[.slice A p.nodes.length c, .slice A2 p.rails.length c2] 25)).alloc (by simp) (.cells #[.int .i64 (r : Int), .int .i64 (k : Int)] 34)).alloc (by simp; omega) (.cells #[.int .i64 0, .int .i64 0, .int .i64 0, .int .i64 0, .int .i64 0, .int .i64 0, .int .i64 0, .int .i64 0, .slice none 0 0, .int .i64 0, .int .i64 0, .int .i64 0, .int .i64 0] 98)
  obtain ⟨q1, q2, q3⟩ := rows3 w #[.slice A p.nodes.length c, .slice A2 p.rails.length c2] #[.int .i64 (r : Int), .int .i64 (k : Int)] #[.int .i64 0, .int .i64 0, .int .i64 0, .int .i64 0, .int .i64 0, .int .i64 0, .int .i64 0, .int .i64 0, .slice none 0 0, .int .i64 0, .int .i64 0, .int .i64 0, .int .i64 0] 25 34 98
  have hz3 : (((w.alloc (.cells #[.slice A p.nodes.length c, .slice A2 p.rails.length c2] 25)).alloc (.cells #[.int .i64 (r : Int), .int .i64 (k : Int)] 34)).alloc (.cells #[.int .i64 0, .int .i64 0, .int .i64 0, .int .i64 0, .int .i64 0, .int .i64 0, .int .i64 0, .int .i64 0, .slice none 0 0, .int .i64 0, .int .i64 0, .int .i64 0, .int .i64 0] 98)).heap.size = w.heap.size + 3 := by simp
  obtain ⟨W1, hW1⟩ : ∃ z, ((w.alloc (.cells #[.slice A p.nodes.length c, .slice A2 p.rails.length c2] 25)).alloc (.cells #[.int .i64 (r : Int), .int .i64 (k : Int)] 34)).alloc (.cells #[.int .i64 0, .int .i64 0, .int .i64 0, .int .i64 0, .int .i64 0, .int .i64 0, .int .i64 0, .int .i64 0, .slice none 0 0, .int .i64 0, .int .i64 0, .int .i64 0, .int .i64 0] 98) = z := ⟨_, rfl⟩
  rw [hW1] at hb3 q1 q2 q3 hz3
  have HR3 := Lib.hid (show ∀ wx, Below W1.heap.size W1 wx → Rw wx (w.heap.size + 1 + 1) 98 #[.int .i64 0, .int .i64 0, .int .i64 0, .int .i64 0, .int .i64 0, .int .i64 0, .int .i64 0, .int .i64 0, .slice none 0 0, .int .i64 0, .int .i64 0, .int .i64 0, .int .i64 0] from fun wx h => q3.below h (by omega))
  have HB3 := Lib.hid hb3
  have HPB := Lib.hid (show ∀ wx, Below W1.heap.size W1 wx → PlAt wx wx.heap.size A c A2 c2 p from fun wx h => ((hP.below hb3).below (h.mono hb3.size)).more (Nat.le_trans hb3.size h.size))
  have HZ3 := Lib.hid hz3
  obtain ⟨b, off, A', c', eA, hb, _, hc1, hc2, _, _, k2, _, _⟩ := hP.rail hnl
  subst eA
  have hk2 : ∀ wx, Below W1.heap.size W1 wx → wx.cell? ⟨b, off + r * 5 + 2, none⟩ = some (.slice A' p.rails[r].shape.length c') := fun wx h => ((hb3.trans (h.mono hb3.size)).cell (p := ⟨b, off + r * 5 + 2, none⟩) hb).trans k2
  obtain ⟨m, hm⟩ : ∃ z, p.rails[r].shape.length = z := ⟨_, rfl⟩
  rw [hm] at hk2 hc1 hlen
  have HK2 := Lib.hid hk2
  have HC := Lib.hid (show ∀ wx, Below W1.heap.size W1 wx → Calls Tryz.prog 49 #[.agg #[.slice A p.nodes.length c, .slice (some ⟨b, off, none⟩) p.rails.length c2], .int .i64 (r : Int)] wx fun e w' => e = .returned (.bool true) ∧ Below wx.heap.size wx w' from fun wx hx => by
    have := hasRail2_any A (some ⟨b, off, none⟩) c c2 p (r : Int) wx (HPB.out wx hx)
    rwa [show railIn p (r : Int) = true from by unfold railIn; exact decide_eq_true (by omega)] at this)
  have HA := Lib.hid (show ∀ wx, Below W1.heap.size W1 wx → Calls Tryz.prog 50 #[.agg #[.slice A p.nodes.length c, .slice (some ⟨b, off, none⟩) p.rails.length c2], .int .i64 (r : Int)] wx fun e w' =>
      ∃ (v : Value) (xs : List SwM), e = .returned v ∧ xs.map (·.s) = alongL r L ∧ Own w' wx.heap.size 98 13 fSw v xs ∧ (∀ x ∈ xs, SwIn w' x ∧ ∀ a, x.A = some a → wx.heap.size ≤ a.block) ∧ Below wx.heap.size wx w' from fun wx hx => by
    have := along_any A (some ⟨b, off, none⟩) c c2 p r wx (HPB.out wx hx) h.hr h.h1 h.h2 h.hs (by rw [h.eL]; exact h.hR) (by rw [h.eL]; exact h.hok)
    rwa [h.eL] at this)
  have HK := Lib.hid (show ∀ wx, Below W1.heap.size W1 wx → FP w.heap.size A (some ⟨b, off, none⟩) p.nodes.length p.rails.length c c2 r k wx from fun wx h => ⟨(q1.below h (by omega)).cell 0, (q1.below h (by omega)).cell 1, (q2.below h (by omega)).cell 0, (q2.below h (by omega)).cell 1⟩)
  obtain ⟨NN, hNN⟩ : ∃ z, p.rails.length = z := ⟨_, rfl⟩
  rw [hNN] at HC HK HA hnl hW1 hrc ⊢
  have HLL := Lib.hid (show ∀ xs : List SwM, xs.map (·.s) = alongL r L → ∀ hq : k < xs.length, (xs[k]).s = stripAt r L k from fun xs hx hq => by
    have h1 : (xs.map (·.s))[k]? = (alongL r L)[k]? := by rw [hx]
    rw [List.getElem?_map, List.getElem?_eq_getElem hq, List.getElem?_eq_getElem (by rw [alongL_len]; omega), alongL_at] at h1
    exact Option.some.inj h1)
  have HXL := Lib.hid (show ∀ xs : List SwM, xs.map (·.s) = alongL r L → xs.length = m + 1 from fun xs hx => by
    have := congrArg List.length hx
    rw [List.length_map, alongL_len] at this
    omega)
  have g1 : (0 : Int) ≤ (r : Int) := by omega
  have g2 : (r : Int) < (NN : Int) := by omega
  have g3 : ¬ (k : Int) < 0 := by omega
  have g4 : ¬ (m : Int) < (k : Int) := by omega
  have hkm : k < m + 1 := by omega
  clear hb3 q1 q2 q3 hP hk2 k2 hb hNN h hle hlen hk
  go_enter Tryz.func51, Tryz.ntmps51
  go_upto_region 1 with (fail)
  clear hW1 hm
  have hbq : Below W1.heap.size W1 W1.drew := (Below.refl _ _).drew
  have HS := Lib.hid (And.intro (HK.out _ hbq) (HK2.out _ hbq))
  refine wp_region_held_drew (S := fun wx => FP w.heap.size A (some ⟨b, off, none⟩) p.nodes.length NN c c2 r k wx ∧ wx.cell? ⟨b, off + r * 5 + 2, none⟩ = some (.slice A' m c')) (by kernel_rfl) HS.out (fun _ => ?_)
  refine hTake (i := 0) (d := 6) (v := .agg #[.slice A p.nodes.length c, .slice (some ⟨b, off, none⟩) NN c2]) rfl rfl (by kernel_rfl) (by kernel_rfl) (by kernel_rfl) (fun _ _ _ h => h) (Or.inl ⟨rfl, ?gr⟩) HS.out ?_
  case gr =>
    rintro W' ⟨⟨s0, s1, s2, s3⟩, s4⟩
    go_simp
  simp only [Act.put, List.setIfInBounds_toArray, List.set_cons_zero, List.set_cons_succ]
  refine hTake (i := 1) (d := 7) (v := .pointer (some ⟨w.heap.size + 1, 0, none⟩)) rfl rfl (by kernel_rfl) (by kernel_rfl) (by kernel_rfl) (fun _ _ _ h => h) (Or.inl ⟨rfl, ?gr⟩) HS.out ?_
  case gr =>
    rintro W' ⟨⟨s0, s1, s2, s3⟩, s4⟩
    go_simp
  simp only [Act.put, List.setIfInBounds_toArray, List.set_cons_zero, List.set_cons_succ]
  refine hTake (i := 2) (d := 8) (v := .int .i64 (r : Int)) rfl rfl (by kernel_rfl) (by kernel_rfl) (by kernel_rfl) (fun _ _ _ h => h) (Or.inl ⟨rfl, ?gr⟩) HS.out ?_
  case gr =>
    rintro W' ⟨⟨s0, s1, s2, s3⟩, s4⟩
    go_simp
  simp only [Act.put, List.setIfInBounds_toArray, List.set_cons_zero, List.set_cons_succ]
  refine wpAnyH_ready (rs := [3]) (by kernel_rfl) (by simp) ?_
  refine AllReadyH.cons rfl (fun K hK => ?_) AllReadyH.nil
  rw [if_pos (by rfl)]
  go_simp
  go_at_call 49
  (with_reducible refine (HC.out _ hbq).mono ?_)
  rintro e wc ⟨rfl, hbc⟩
  replace hbq := hbq.trans (hbc.mono hbq.size)
  have HS := Lib.hid (And.intro (HK.out _ hbq) (HK2.out _ hbq))
  clear hbc
  refine hK.out _ _ HS.out (fun _ => ?_)
  clear hK K
  try simp only [Act.put, List.setIfInBounds_toArray, List.set_cons_zero, List.set_cons_succ]
  refine hTake (i := 4) (d := 10) (v := .bool false) rfl rfl (by kernel_rfl) (by kernel_rfl) (by kernel_rfl) (fun _ _ _ h => h) (Or.inl ⟨rfl, ?gr⟩) HS.out ?_
  case gr =>
    rintro W' ⟨⟨s0, s1, s2, s3⟩, s4⟩
    go_simp
  simp only [Act.put, List.setIfInBounds_toArray, List.set_cons_zero, List.set_cons_succ]
  refine hTake (i := 5) (d := 11) (v := .bool false) rfl rfl (by kernel_rfl) (by kernel_rfl) (by kernel_rfl) (fun _ _ _ h => h) (Or.inl ⟨rfl, ?gr⟩) HS.out ?_
  case gr =>
    rintro W' ⟨⟨s0, s1, s2, s3⟩, s4⟩
    go_simp
  simp only [Act.put, List.setIfInBounds_toArray, List.set_cons_zero, List.set_cons_succ]
  refine hTake (i := 6) (d := 12) (v := .pointer (some ⟨w.heap.size + 1, 1, none⟩)) rfl rfl (by kernel_rfl) (by kernel_rfl) (by kernel_rfl) (fun _ _ _ h => h) (Or.inl ⟨rfl, ?gr⟩) HS.out ?_
  case gr =>
    rintro W' ⟨⟨s0, s1, s2, s3⟩, s4⟩
    go_simp
  simp only [Act.put, List.setIfInBounds_toArray, List.set_cons_zero, List.set_cons_succ]
  refine hTake (i := 7) (d := 13) (v := .int .i64 (k : Int)) rfl rfl (by kernel_rfl) (by kernel_rfl) (by kernel_rfl) (fun _ _ _ h => h) (Or.inl ⟨rfl, ?gr⟩) HS.out ?_
  case gr =>
    rintro W' ⟨⟨s0, s1, s2, s3⟩, s4⟩
    go_simp
  simp only [Act.put, List.setIfInBounds_toArray, List.set_cons_zero, List.set_cons_succ]
  refine hTake (i := 8) (d := 14) (v := .bool false) rfl rfl (by kernel_rfl) (by kernel_rfl) (by kernel_rfl) (fun _ _ _ h => h) (Or.inl ⟨rfl, ?gr⟩) HS.out ?_
  case gr =>
    rintro W' ⟨⟨s0, s1, s2, s3⟩, s4⟩
    go_simp
  simp only [Act.put, List.setIfInBounds_toArray, List.set_cons_zero, List.set_cons_succ]
  refine hTake (i := 9) (d := 15) (v := .bool false) rfl rfl (by kernel_rfl) (by kernel_rfl) (by kernel_rfl) (fun _ _ _ h => h) (Or.inl ⟨rfl, ?gr⟩) HS.out ?_
  case gr =>
    rintro W' ⟨⟨s0, s1, s2, s3⟩, s4⟩
    go_simp
  simp only [Act.put, List.setIfInBounds_toArray, List.set_cons_zero, List.set_cons_succ]
  refine hTake (i := 10) (d := 16) (v := .bool false) rfl rfl (by kernel_rfl) (by kernel_rfl) (by kernel_rfl) (fun _ _ _ h => h) (Or.inl ⟨rfl, ?gr⟩) HS.out ?_
  case gr =>
    rintro W' ⟨⟨s0, s1, s2, s3⟩, s4⟩
    go_simp
  simp only [Act.put, List.setIfInBounds_toArray, List.set_cons_zero, List.set_cons_succ]
  refine hTake (i := 11) (d := 17) (v := .pointer (some ⟨w.heap.size + 1, 1, none⟩)) rfl rfl (by kernel_rfl) (by kernel_rfl) (by kernel_rfl) (fun _ _ _ h => h) (Or.inl ⟨rfl, ?gr⟩) HS.out ?_
  case gr =>
    rintro W' ⟨⟨s0, s1, s2, s3⟩, s4⟩
    go_simp
  simp only [Act.put, List.setIfInBounds_toArray, List.set_cons_zero, List.set_cons_succ]
  refine hTake (i := 12) (d := 18) (v := .int .i64 (k : Int)) rfl rfl (by kernel_rfl) (by kernel_rfl) (by kernel_rfl) (fun _ _ _ h => h) (Or.inl ⟨rfl, ?gr⟩) HS.out ?_
  case gr =>
    rintro W' ⟨⟨s0, s1, s2, s3⟩, s4⟩
    go_simp
  simp only [Act.put, List.setIfInBounds_toArray, List.set_cons_zero, List.set_cons_succ]
  refine hTake (i := 13) (d := 19) (v := .pointer (some ⟨w.heap.size, 1, none⟩)) rfl rfl (by kernel_rfl) (by kernel_rfl) (by kernel_rfl) (fun _ _ _ h => h) (Or.inl ⟨rfl, ?gr⟩) HS.out ?_
  case gr =>
    rintro W' ⟨⟨s0, s1, s2, s3⟩, s4⟩
    go_simp
  simp only [Act.put, List.setIfInBounds_toArray, List.set_cons_zero, List.set_cons_succ]
  refine hTake (i := 14) (d := 20) (v := .slice (some ⟨b, off, none⟩) NN c2) rfl rfl (by kernel_rfl) (by kernel_rfl) (by kernel_rfl) (fun _ _ _ h => h) (Or.inl ⟨rfl, ?gr⟩) HS.out ?_
  case gr =>
    rintro W' ⟨⟨s0, s1, s2, s3⟩, s4⟩
    go_simp
  simp only [Act.put, List.setIfInBounds_toArray, List.set_cons_zero, List.set_cons_succ]
  refine hTake (i := 15) (d := 21) (v := .pointer (some ⟨w.heap.size + 1, 0, none⟩)) rfl rfl (by kernel_rfl) (by kernel_rfl) (by kernel_rfl) (fun _ _ _ h => h) (Or.inl ⟨rfl, ?gr⟩) HS.out ?_
  case gr =>
    rintro W' ⟨⟨s0, s1, s2, s3⟩, s4⟩
    go_simp
  simp only [Act.put, List.setIfInBounds_toArray, List.set_cons_zero, List.set_cons_succ]
  refine hTake (i := 16) (d := 22) (v := .int .i64 (r : Int)) rfl rfl (by kernel_rfl) (by kernel_rfl) (by kernel_rfl) (fun _ _ _ h => h) (Or.inl ⟨rfl, ?gr⟩) HS.out ?_
  case gr =>
    rintro W' ⟨⟨s0, s1, s2, s3⟩, s4⟩
    go_simp
  simp only [Act.put, List.setIfInBounds_toArray, List.set_cons_zero, List.set_cons_succ]
  refine hTake (i := 17) (d := 23) (v := .pointer (some ⟨b, off + r * 5, none⟩)) rfl rfl (by kernel_rfl) (by kernel_rfl) (by kernel_rfl) (fun _ _ _ h => h) (Or.inl ⟨rfl, ?gr⟩) HS.out ?_
  case gr =>
    rintro W' ⟨⟨s0, s1, s2, s3⟩, s4⟩
    go_simp
  simp only [Act.put, List.setIfInBounds_toArray, List.set_cons_zero, List.set_cons_succ]
  refine hTake (i := 18) (d := 24) (v := .pointer (some ⟨b, off + r * 5 + 2, none⟩)) rfl rfl (by kernel_rfl) (by kernel_rfl) (by kernel_rfl) (fun _ _ _ h => h) (Or.inl ⟨rfl, ?gr⟩) HS.out ?_
  case gr =>
    rintro W' ⟨⟨s0, s1, s2, s3⟩, s4⟩
    go_simp
  simp only [Act.put, List.setIfInBounds_toArray, List.set_cons_zero, List.set_cons_succ]
  refine hTake (i := 19) (d := 25) (v := .slice A' m c') rfl rfl (by kernel_rfl) (by kernel_rfl) (by kernel_rfl) (fun _ _ _ h => h) (Or.inl ⟨rfl, ?gr⟩) HS.out ?_
  case gr =>
    rintro W' ⟨⟨s0, s1, s2, s3⟩, s4⟩
    go_simp
  simp only [Act.put, List.setIfInBounds_toArray, List.set_cons_zero, List.set_cons_succ]
  refine hTake (i := 20) (d := 26) (v := .int .i64 (m : Int)) rfl rfl (by kernel_rfl) (by kernel_rfl) (by kernel_rfl) (fun _ _ _ h => h) (Or.inl ⟨rfl, ?gr⟩) HS.out ?_
  case gr =>
    rintro W' ⟨⟨s0, s1, s2, s3⟩, s4⟩
    go_simp
  simp only [Act.put, List.setIfInBounds_toArray, List.set_cons_zero, List.set_cons_succ]
  refine hTake (i := 21) (d := 27) (v := .bool false) rfl rfl (by kernel_rfl) (by kernel_rfl) (by kernel_rfl) (fun _ _ _ h => h) (Or.inl ⟨rfl, ?gr⟩) HS.out ?_
  case gr =>
    rintro W' ⟨⟨s0, s1, s2, s3⟩, s4⟩
    go_simp
  simp only [Act.put, List.setIfInBounds_toArray, List.set_cons_zero, List.set_cons_succ]
  refine hTake (i := 22) (d := 28) (v := .bool false) rfl rfl (by kernel_rfl) (by kernel_rfl) (by kernel_rfl) (fun _ _ _ h => h) (Or.inl ⟨rfl, ?gr⟩) HS.out ?_
  case gr =>
    rintro W' ⟨⟨s0, s1, s2, s3⟩, s4⟩
    go_simp
  simp only [Act.put, List.setIfInBounds_toArray, List.set_cons_zero, List.set_cons_succ]
  refine wpAnyH_done (by kernel_rfl) ?_ _

  go_upto_region 3 with (fail)
  replace hbq := hbq.drew
  have HS := Lib.hid (HK.out _ hbq)
  refine wp_region_held_drew (S := FP w.heap.size A (some ⟨b, off, none⟩) p.nodes.length NN c c2 r k) (by kernel_rfl) HS.out (fun _ => ?_)
  refine hTake (i := 0) (d := 30) (v := .agg #[.slice A p.nodes.length c, .slice (some ⟨b, off, none⟩) NN c2]) rfl rfl (by kernel_rfl) (by kernel_rfl) (by kernel_rfl) (fun _ _ _ h => h) (Or.inl ⟨rfl, ?gr⟩) HS.out ?_
  case gr =>
    rintro W' ⟨s0, s1, s2, s3⟩
    go_simp
  simp only [Act.put, List.setIfInBounds_toArray, List.set_cons_zero, List.set_cons_succ]
  refine hTake (i := 1) (d := 31) (v := .pointer (some ⟨w.heap.size + 1, 0, none⟩)) rfl rfl (by kernel_rfl) (by kernel_rfl) (by kernel_rfl) (fun _ _ _ h => h) (Or.inl ⟨rfl, ?gr⟩) HS.out ?_
  case gr =>
    rintro W' ⟨s0, s1, s2, s3⟩
    go_simp
  simp only [Act.put, List.setIfInBounds_toArray, List.set_cons_zero, List.set_cons_succ]
  refine hTake (i := 2) (d := 32) (v := .int .i64 (r : Int)) rfl rfl (by kernel_rfl) (by kernel_rfl) (by kernel_rfl) (fun _ _ _ h => h) (Or.inl ⟨rfl, ?gr⟩) HS.out ?_
  case gr =>
    rintro W' ⟨s0, s1, s2, s3⟩
    go_simp
  simp only [Act.put, List.setIfInBounds_toArray, List.set_cons_zero, List.set_cons_succ]
  refine hTake (i := 4) (d := 34) (v := .pointer (some ⟨w.heap.size + 1, 1, none⟩)) rfl rfl (by kernel_rfl) (by kernel_rfl) (by kernel_rfl) (fun _ _ _ h => h) (Or.inl ⟨rfl, ?gr⟩) HS.out ?_
  case gr =>
    rintro W' ⟨s0, s1, s2, s3⟩
    go_simp
  simp only [Act.put, List.setIfInBounds_toArray, List.set_cons_zero, List.set_cons_succ]
  refine hTake (i := 5) (d := 35) (v := .int .i64 (k : Int)) rfl rfl (by kernel_rfl) (by kernel_rfl) (by kernel_rfl) (fun _ _ _ h => h) (Or.inl ⟨rfl, ?gr⟩) HS.out ?_
  case gr =>
    rintro W' ⟨s0, s1, s2, s3⟩
    go_simp
  simp only [Act.put, List.setIfInBounds_toArray, List.set_cons_zero, List.set_cons_succ]
  refine wpAnyH_ready (rs := [3]) (by kernel_rfl) (by simp) ?_
  refine AllReadyH.cons rfl (fun K hK => ?_) AllReadyH.nil
  rw [if_pos (by rfl)]
  go_simp
  go_at_call 50
  (with_reducible refine (HA.out _ hbq).mono ?_)
  rintro e wc ⟨v, xs, rfl, hxm, hxo, hxi, hbc⟩
  have hxl := HXL.out xs hxm
  have hkx : k < xs.length := by omega
  have hxs := HLL.out xs hxm hkx
  obtain ⟨Av, cv, rfl, hcv1, hcv2, _⟩ := hxo.form
  obtain ⟨bx, ox, rfl, hbx, hcx⟩ := sw_at (hxo.sl fSw_len rfl) hkx
  have hbl := (hxo.lt bx rfl).1
  have hxx := hxi _ (List.getElem_mem hkx)
  obtain ⟨x, hx⟩ : ∃ z, xs[k] = z := ⟨_, rfl⟩
  rw [hx] at hcx hxs hxx
  have hbsz := hbq.size
  have HX := Lib.hid (And.intro hxx.1 (fun (a : Addr) (ha : x.A = some a) => Nat.le_trans hbsz (hxx.2 a ha)))
  have HXS := Lib.hid hxs
  obtain ⟨nx, hnx⟩ : ∃ z, xs.length = z := ⟨_, rfl⟩
  rw [hnx] at hxl hcv1 ⊢
  have hkn : (k : Int) < (nx : Int) := by omega
  clear hxl
  have hk0 : (0 : Int) ≤ (k : Int) := by omega
  replace hbq := hbq.trans (hbc.mono hbq.size)
  have HS := Lib.hid (show FP w.heap.size A (some ⟨b, off, none⟩) p.nodes.length NN c c2 r k wc ∧ Ex bx (ox + k * 13) x wc from And.intro (HK.out _ hbq) hcx)
  have HBN := Lib.hid (show bx ≠ w.heap.size + 1 + 1 by have := HZ3.out; omega)
  clear hbc hxm hxo hxi hxx hxs hcx hx hnx hkx hbl hbsz
  refine hK.out _ _ HS.out.1 (fun _ => ?_)
  refine wpAnyH_strong (S' := fun wx => FP w.heap.size A (some ⟨b, off, none⟩) p.nodes.length NN c c2 r k wx ∧ Ex bx (ox + k * 13) x wx) (fun _ h => h.1) _ _ _ _ ?_
  clear hK K
  try simp only [Act.put, List.setIfInBounds_toArray, List.set_cons_zero, List.set_cons_succ]
  refine hTake (i := 6) (d := 36) (v := .pointer (some ⟨bx, ox + k * 13, none⟩)) rfl rfl (by kernel_rfl) (by kernel_rfl) (by kernel_rfl) (fun _ _ _ h => h) (Or.inl ⟨rfl, ?gr⟩) HS.out ?_
  case gr =>
    rintro W' ⟨⟨s0, s1, s2, s3⟩, hall⟩
    have d0 := hall 0 _ rfl
    have d1 := hall 1 _ rfl
    have d2 := hall 2 _ rfl
    have d3 := hall 3 _ rfl
    have d4 := hall 4 _ rfl
    have d5 := hall 5 _ rfl
    have d6 := hall 6 _ rfl
    have d7 := hall 7 _ rfl
    have d8 := hall 8 _ rfl
    have d9 := hall 9 _ rfl
    have d10 := hall 10 _ rfl
    have d11 := hall 11 _ rfl
    have d12 := hall 12 _ rfl
    simp only [Nat.add_zero] at d0
    go_simp
  simp only [Act.put, List.setIfInBounds_toArray, List.set_cons_zero, List.set_cons_succ]
  refine hTake (i := 7) (d := 37) (v := .agg #[.int .i64 x.s.rail, .int .i64 x.s.seg, .int .i64 x.s.a.x, .int .i64 x.s.a.y, .int .i64 x.s.b.x, .int .i64 x.s.b.y, .int .i64 x.s.bg, .int .i64 x.s.en, .slice x.A x.s.bends.length x.c, .int .i64 (min x.s.a.x x.s.b.x), .int .i64 (min x.s.a.y x.s.b.y), .int .i64 (max x.s.a.x x.s.b.x), .int .i64 (max x.s.a.y x.s.b.y)]) rfl rfl (by kernel_rfl) (by kernel_rfl) (by kernel_rfl) (fun _ _ _ h => h) (Or.inl ⟨rfl, ?gr⟩) HS.out ?_
  case gr =>
    rintro W' ⟨⟨s0, s1, s2, s3⟩, hall⟩
    have d0 := hall 0 _ rfl
    have d1 := hall 1 _ rfl
    have d2 := hall 2 _ rfl
    have d3 := hall 3 _ rfl
    have d4 := hall 4 _ rfl
    have d5 := hall 5 _ rfl
    have d6 := hall 6 _ rfl
    have d7 := hall 7 _ rfl
    have d8 := hall 8 _ rfl
    have d9 := hall 9 _ rfl
    have d10 := hall 10 _ rfl
    have d11 := hall 11 _ rfl
    have d12 := hall 12 _ rfl
    simp only [Nat.add_zero] at d0
    go_simp
  simp only [Act.put, List.setIfInBounds_toArray, List.set_cons_zero, List.set_cons_succ]
  refine wpAnyH_ready (rs := [8]) (by kernel_rfl) (by simp) ?_
  refine AllReadyH.cons rfl (fun K hK => ?_) AllReadyH.nil
  rw [if_pos (by rfl)]
  refine wp_store_row 98 _ _ rfl (w.heap.size + 1 + 1) rfl #[.int .i64 x.s.rail, .int .i64 x.s.seg, .int .i64 x.s.a.x, .int .i64 x.s.a.y, .int .i64 x.s.b.x, .int .i64 x.s.b.y, .int .i64 x.s.bg, .int .i64 x.s.en, .slice x.A x.s.bends.length x.c, .int .i64 (min x.s.a.x x.s.b.x), .int .i64 (min x.s.a.y x.s.b.y), .int .i64 (max x.s.a.x x.s.b.x), .int .i64 (max x.s.a.y x.s.b.y)] rfl 98 _ (HR3.out _ hbq) (by kernel_rfl) rfl (by simp [Value.oneCell']) ?_
  have HS := Lib.hid (And.intro (FP.setRow HS.out.1 #[.int .i64 x.s.rail, .int .i64 x.s.seg, .int .i64 x.s.a.x, .int .i64 x.s.a.y, .int .i64 x.s.b.x, .int .i64 x.s.b.y, .int .i64 x.s.bg, .int .i64 x.s.en, .slice x.A x.s.bends.length x.c, .int .i64 (min x.s.a.x x.s.b.x), .int .i64 (min x.s.a.y x.s.b.y), .int .i64 (max x.s.a.x x.s.b.x), .int .i64 (max x.s.a.y x.s.b.y)] (show w.heap.size ≠ w.heap.size + 1 + 1 by omega) (by omega)) (Ex.setRow HS.out.2 #[.int .i64 x.s.rail, .int .i64 x.s.seg, .int .i64 x.s.a.x, .int .i64 x.s.a.y, .int .i64 x.s.b.x, .int .i64 x.s.b.y, .int .i64 x.s.bg, .int .i64 x.s.en, .slice x.A x.s.bends.length x.c, .int .i64 (min x.s.a.x x.s.b.x), .int .i64 (min x.s.a.y x.s.b.y), .int .i64 (max x.s.a.x x.s.b.x), .int .i64 (max x.s.a.y x.s.b.y)] HBN.out))
  refine hK.out _ _ HS.out (fun _ => ?_)
  clear hK K
  try simp only [Act.put, List.setIfInBounds_toArray, List.set_cons_zero, List.set_cons_succ]
  refine hTake (i := 9) (d := 5) (v := .bool true) rfl rfl (by kernel_rfl) (by kernel_rfl) (by kernel_rfl) (fun _ _ _ h => h) (Or.inl ⟨rfl, ?gr⟩) HS.out ?_
  case gr =>
    rintro W' ⟨⟨s0, s1, s2, s3⟩, hall⟩
    have d0 := hall 0 _ rfl
    have d1 := hall 1 _ rfl
    have d2 := hall 2 _ rfl
    have d3 := hall 3 _ rfl
    have d4 := hall 4 _ rfl
    have d5 := hall 5 _ rfl
    have d6 := hall 6 _ rfl
    have d7 := hall 7 _ rfl
    have d8 := hall 8 _ rfl
    have d9 := hall 9 _ rfl
    have d10 := hall 10 _ rfl
    have d11 := hall 11 _ rfl
    have d12 := hall 12 _ rfl
    simp only [Nat.add_zero] at d0
    go_simp
  simp only [Act.put, List.setIfInBounds_toArray, List.set_cons_zero, List.set_cons_succ]
  refine wpAnyH_done (by kernel_rfl) ?_ _

  go_wp2
  (try simp only [Exit.inBlock, Exit.then])
  have hr1 := HR3.out _ hbq
  obtain ⟨hin, hlo⟩ := HX.out
  have hz := hbq.size
  have hz3 := HZ3.out
  refine bodyPost_ret (res_ct rfl _ _ _ _ _ _ _ rfl rfl (hr1.setRow _) Tryz.underlying98 rfl (by kernel_rfl)) rfl ⟨x, rfl, HXS.out, SwIn.setRow hin _ _ (fun a ha => by have := hlo a ha; omega), (fun a ha => by have := hlo a ha; omega), ?_⟩
  exact below_setRow (HB3.out.trans (hbq.mono HB3.out.size)) (by omega) _
end Go.Proofs.YtekambdnmaompaaGreat.SW

namespace Go.Proofs.YtekambdnmaompaaGreat.SW
set_option linter.unusedVariables false
set_option linter.unusedSimpArgs false
open Go.RowKit

end Go.Proofs.YtekambdnmaompaaGreat.SW

namespace Go.Proofs.YtekambdnmaompaaGreat.SW
set_option linter.unusedVariables false
set_option linter.unusedSimpArgs false
open Go.RowKit

set_option maxRecDepth 100000 in
set_option maxHeartbeats 16000000 in
theorem both_yes (A A2 : Option Addr) (c c2 : Nat) (p : Pl) (r k r2 k2 : Nat) (L L2 : List S) (w : World) (hP : PlAt w w.heap.size A c A2 c2 p) (hV : Vld p) (h : RlOk p r L) (hk : k + 1 < L.length) (h2 : RlOk p r2 L2) (hk2 : k2 + 1 < L2.length) :
    Calls Tryz.prog 61 #[.agg #[.slice A p.nodes.length c, .slice A2 p.rails.length c2], .agg #[.int .i64 (r : Int), .int .i64 (k : Int)], .agg #[.int .i64 (r2 : Int), .int .i64 (k2 : Int)]] w fun e w' => ∃ x y : SwM, e = .returned (.tuple #[.agg (fSw x).toArray, .agg (fSw y).toArray, .bool true]) ∧ x.s = stripAt r L k ∧ y.s = stripAt r2 L2 k2 ∧ SwIn w' x ∧ SwIn w' y ∧ Below w.heap.size w w' := by
  have hb5 := (((((Below.refl _ w).alloc (Nat.le_refl _) (.cells #[.slice A p.nodes.length c, .slice A2 p.rails.length c2] 25)).alloc (by simp) (.cells #[.int .i64 (r : Int), .int .i64 (k : Int)] 34)).alloc (by simp; omega) (.cells #[.int .i64 (r2 : Int), .int .i64 (k2 : Int)] 34)).alloc (by simp; omega) (.cells #[.int .i64 0, .int .i64 0, .int .i64 0, .int .i64 0, .int .i64 0, .int .i64 0, .int .i64 0, .int .i64 0, .slice none 0 0, .int .i64 0, .int .i64 0, .int .i64 0, .int .i64 0] 98)).alloc (by simp; omega) (.cells #[.int .i64 0, .int .i64 0, .int .i64 0, .int .i64 0, .int .i64 0, .int .i64 0, .int .i64 0, .int .i64 0, .slice none 0 0, .int .i64 0, .int .i64 0, .int .i64 0, .int .i64 0] 98)
  obtain ⟨q1, q2, q3, q4, q5⟩ := rows5 w #[.slice A p.nodes.length c, .slice A2 p.rails.length c2] #[.int .i64 (r : Int), .int .i64 (k : Int)] #[.int .i64 (r2 : Int), .int .i64 (k2 : Int)] #[.int .i64 0, .int .i64 0, .int .i64 0, .int .i64 0, .int .i64 0, .int .i64 0, .int .i64 0, .int .i64 0, .slice none 0 0, .int .i64 0, .int .i64 0, .int .i64 0, .int .i64 0] #[.int .i64 0, .int .i64 0, .int .i64 0, .int .i64 0, .int .i64 0, .int .i64 0, .int .i64 0, .int .i64 0, .slice none 0 0, .int .i64 0, .int .i64 0, .int .i64 0, .int .i64 0] 25 34 34 98 98
  have hz5 : (((((w.alloc (.cells #[.slice A p.nodes.length c, .slice A2 p.rails.length c2] 25)).alloc (.cells #[.int .i64 (r : Int), .int .i64 (k : Int)] 34)).alloc (.cells #[.int .i64 (r2 : Int), .int .i64 (k2 : Int)] 34)).alloc (.cells #[.int .i64 0, .int .i64 0, .int .i64 0, .int .i64 0, .int .i64 0, .int .i64 0, .int .i64 0, .int .i64 0, .slice none 0 0, .int .i64 0, .int .i64 0, .int .i64 0, .int .i64 0] 98)).alloc (.cells #[.int .i64 0, .int .i64 0, .int .i64 0, .int .i64 0, .int .i64 0, .int .i64 0, .int .i64 0, .int .i64 0, .slice none 0 0, .int .i64 0, .int .i64 0, .int .i64 0, .int .i64 0] 98)).heap.size = w.heap.size + 5 := by simp
  obtain ⟨W1, hW1⟩ : ∃ z, (((((w.alloc (.cells #[.slice A p.nodes.length c, .slice A2 p.rails.length c2] 25)).alloc (.cells #[.int .i64 (r : Int), .int .i64 (k : Int)] 34)).alloc (.cells #[.int .i64 (r2 : Int), .int .i64 (k2 : Int)] 34)).alloc (.cells #[.int .i64 0, .int .i64 0, .int .i64 0, .int .i64 0, .int .i64 0, .int .i64 0, .int .i64 0, .int .i64 0, .slice none 0 0, .int .i64 0, .int .i64 0, .int .i64 0, .int .i64 0] 98)).alloc (.cells #[.int .i64 0, .int .i64 0, .int .i64 0, .int .i64 0, .int .i64 0, .int .i64 0, .int .i64 0, .int .i64 0, .slice none 0 0, .int .i64 0, .int .i64 0, .int .i64 0, .int .i64 0] 98)) = z := ⟨_, rfl⟩
  rw [hW1] at hb5 q1 q2 q3 q4 q5 hz5
  have HB5 := Lib.hid hb5
  have HZ5 := Lib.hid hz5
  have HRR := Lib.hid (show ∀ wx, Below W1.heap.size W1 wx → Rw wx w.heap.size 25 #[.slice A p.nodes.length c, .slice A2 p.rails.length c2] ∧ Rw wx (w.heap.size + 1) 34 #[.int .i64 (r : Int), .int .i64 (k : Int)] ∧ Rw wx (w.heap.size + 1 + 1) 34 #[.int .i64 (r2 : Int), .int .i64 (k2 : Int)] ∧ Rw wx (w.heap.size + 1 + 1 + 1) 98 #[.int .i64 0, .int .i64 0, .int .i64 0, .int .i64 0, .int .i64 0, .int .i64 0, .int .i64 0, .int .i64 0, .slice none 0 0, .int .i64 0, .int .i64 0, .int .i64 0, .int .i64 0] ∧ Rw wx (w.heap.size + 1 + 1 + 1 + 1) 98 #[.int .i64 0, .int .i64 0, .int .i64 0, .int .i64 0, .int .i64 0, .int .i64 0, .int .i64 0, .int .i64 0, .slice none 0 0, .int .i64 0, .int .i64 0, .int .i64 0, .int .i64 0] from fun wx h => ⟨q1.below h (by omega), q2.below h (by omega), q3.below h (by omega), q4.below h (by omega), q5.below h (by omega)⟩)
  have HPB := Lib.hid (show ∀ wx, Below W1.heap.size W1 wx → PlAt wx wx.heap.size A c A2 c2 p from fun wx h => ((hP.below hb5).below (h.mono hb5.size)).more (Nat.le_trans hb5.size h.size))
  have HCK := Lib.hid (show ∀ wx, Below W1.heap.size W1 wx → Calls Tryz.prog 48 #[.agg #[.slice A p.nodes.length c, .slice A2 p.rails.length c2]] wx (CheckPost p wx) from fun wx h => Check_any A A2 c c2 p wx (HPB.out wx h))
  have e0 := q1.cell 0; have e1 := q1.cell 1
  have HV := Lib.hid hV
  have HF1 := Lib.hid (show ∀ wx, Below W1.heap.size W1 wx → Calls Tryz.prog 51 #[.agg #[.slice A p.nodes.length c, .slice A2 p.rails.length c2], .agg #[.int .i64 (r : Int), .int .i64 (k : Int)]] wx fun e w' => ∃ x : SwM, e = .returned (.tuple #[.agg (fSw x).toArray, .bool true]) ∧ x.s = stripAt r L k ∧ SwIn w' x ∧ (∀ a, x.A = some a → wx.heap.size ≤ a.block) ∧ Below wx.heap.size wx w' from fun wx hx => find_yes A A2 c c2 p r k L wx (HPB.out wx hx) h hk)
  have HF2 := Lib.hid (show ∀ wx, Below W1.heap.size W1 wx → Calls Tryz.prog 51 #[.agg #[.slice A p.nodes.length c, .slice A2 p.rails.length c2], .agg #[.int .i64 (r2 : Int), .int .i64 (k2 : Int)]] wx fun e w' => ∃ x : SwM, e = .returned (.tuple #[.agg (fSw x).toArray, .bool true]) ∧ x.s = stripAt r2 L2 k2 ∧ SwIn w' x ∧ (∀ a, x.A = some a → wx.heap.size ≤ a.block) ∧ Below wx.heap.size wx w' from fun wx hx => find_yes A A2 c c2 p r2 k2 L2 wx (HPB.out wx hx) h2 hk2)
  clear hb5 q1 q2 q3 q4 q5 hP h hk h2 hk2 hV
  go_enter Tryz.func61, Tryz.ntmps61
  go_wp2_with fail
  refine (HCK.out _ (Below.refl _ _)).mono ?_
  rintro e w1 ⟨⟨hv, rfl⟩ | ⟨hv, rfl⟩, hb1⟩
  · have HB1 := Lib.hid hb1
    have HZ1 := Lib.hid hb1.size
    obtain ⟨a1, a2, a3, a4, a5⟩ := HRR.out _ hb1
    have c0 := a1.cell 0; have c1 := a1.cell 1; have c2' := a2.cell 0; have c3 := a2.cell 1
    have hz1 := hb1.size
    clear hb1 a1 a2 a3 a4 a5 e0 e1 hv
    · go_wp2_with fail
      refine (HF1.out _ HB1.out).mono ?_
      rintro e w2 ⟨x, rfl, hxs, hxi, hxl, hb2⟩
      rw [show (fSw x).toArray = #[.int .i64 x.s.rail, .int .i64 x.s.seg, .int .i64 x.s.a.x, .int .i64 x.s.a.y, .int .i64 x.s.b.x, .int .i64 x.s.b.y, .int .i64 x.s.bg, .int .i64 x.s.en, .slice x.A x.s.bends.length x.c, .int .i64 (min x.s.a.x x.s.b.x), .int .i64 (min x.s.a.y x.s.b.y), .int .i64 (max x.s.a.x x.s.b.x), .int .i64 (max x.s.a.y x.s.b.y)] from rfl]
      have HXF := Lib.hid (And.intro trivial (And.intro hxs (And.intro hxi hxl)))
      have hb2' := HB1.out.trans (hb2.mono HB1.out.size)
      have hz2 := hb2'.size
      have HZ2 := Lib.hid hz2
      have hb3' := hb2'.alloc hz2 (.cells #[.int .i64 x.s.rail, .int .i64 x.s.seg, .int .i64 x.s.a.x, .int .i64 x.s.a.y, .int .i64 x.s.b.x, .int .i64 x.s.b.y, .int .i64 x.s.bg, .int .i64 x.s.en, .slice x.A x.s.bends.length x.c, .int .i64 (min x.s.a.x x.s.b.x), .int .i64 (min x.s.a.y x.s.b.y), .int .i64 (max x.s.a.x x.s.b.x), .int .i64 (max x.s.a.y x.s.b.y)] 98)
      have hb23 := (Below.refl _ w2).alloc (Nat.le_refl _) (.cells #[.int .i64 x.s.rail, .int .i64 x.s.seg, .int .i64 x.s.a.x, .int .i64 x.s.a.y, .int .i64 x.s.b.x, .int .i64 x.s.b.y, .int .i64 x.s.bg, .int .i64 x.s.en, .slice x.A x.s.bends.length x.c, .int .i64 (min x.s.a.x x.s.b.x), .int .i64 (min x.s.a.y x.s.b.y), .int .i64 (max x.s.a.x x.s.b.x), .int .i64 (max x.s.a.y x.s.b.y)] 98)
      have hrx := Rw.new w2 #[.int .i64 x.s.rail, .int .i64 x.s.seg, .int .i64 x.s.a.x, .int .i64 x.s.a.y, .int .i64 x.s.b.x, .int .i64 x.s.b.y, .int .i64 x.s.bg, .int .i64 x.s.en, .slice x.A x.s.bends.length x.c, .int .i64 (min x.s.a.x x.s.b.x), .int .i64 (min x.s.a.y x.s.b.y), .int .i64 (max x.s.a.x x.s.b.x), .int .i64 (max x.s.a.y x.s.b.y)] 98
      have hw23 : (w2.alloc (.cells #[.int .i64 x.s.rail, .int .i64 x.s.seg, .int .i64 x.s.a.x, .int .i64 x.s.a.y, .int .i64 x.s.b.x, .int .i64 x.s.b.y, .int .i64 x.s.bg, .int .i64 x.s.en, .slice x.A x.s.bends.length x.c, .int .i64 (min x.s.a.x x.s.b.x), .int .i64 (min x.s.a.y x.s.b.y), .int .i64 (max x.s.a.x x.s.b.x), .int .i64 (max x.s.a.y x.s.b.y)] 98)).heap.size = w2.heap.size + 1 := by simp
      obtain ⟨W3, hW3⟩ : ∃ z, w2.alloc (.cells #[.int .i64 x.s.rail, .int .i64 x.s.seg, .int .i64 x.s.a.x, .int .i64 x.s.a.y, .int .i64 x.s.b.x, .int .i64 x.s.b.y, .int .i64 x.s.bg, .int .i64 x.s.en, .slice x.A x.s.bends.length x.c, .int .i64 (min x.s.a.x x.s.b.x), .int .i64 (min x.s.a.y x.s.b.y), .int .i64 (max x.s.a.x x.s.b.x), .int .i64 (max x.s.a.y x.s.b.y)] 98) = z := ⟨_, rfl⟩
      rw [hW3] at hb3' hrx hw23 hb23
      have HB3 := Lib.hid hb3'
      have HB23 := Lib.hid hb23
      have HX3 := Lib.hid (show ∀ wx, Below W3.heap.size W3 wx → Rw wx w2.heap.size 98 #[.int .i64 x.s.rail, .int .i64 x.s.seg, .int .i64 x.s.a.x, .int .i64 x.s.a.y, .int .i64 x.s.b.x, .int .i64 x.s.b.y, .int .i64 x.s.bg, .int .i64 x.s.en, .slice x.A x.s.bends.length x.c, .int .i64 (min x.s.a.x x.s.b.x), .int .i64 (min x.s.a.y x.s.b.y), .int .i64 (max x.s.a.x x.s.b.x), .int .i64 (max x.s.a.y x.s.b.y)] from fun wx h => hrx.below h (by omega))
      obtain ⟨a1, a2, a3, a4, a5⟩ := HRR.out _ hb3'
      have c0 := a1.cell 0; have c1 := a1.cell 1; have c2' := a3.cell 0; have c3 := a3.cell 1
      clear hb2 hb2' hb3' hrx a1 a2 a3 a4 a5 hxs hxi hxl hb23
      go_wp2_with fail
      refine (HF2.out _ HB3.out).mono ?_
      rintro e w4 ⟨y, rfl, hys, hyi, hyl, hb4⟩
      rw [show (fSw y).toArray = #[.int .i64 y.s.rail, .int .i64 y.s.seg, .int .i64 y.s.a.x, .int .i64 y.s.a.y, .int .i64 y.s.b.x, .int .i64 y.s.b.y, .int .i64 y.s.bg, .int .i64 y.s.en, .slice y.A y.s.bends.length y.c, .int .i64 (min y.s.a.x y.s.b.x), .int .i64 (min y.s.a.y y.s.b.y), .int .i64 (max y.s.a.x y.s.b.x), .int .i64 (max y.s.a.y y.s.b.y)] from rfl]
      have HYF := Lib.hid (And.intro trivial (And.intro hys (And.intro hyi hyl)))
      have hb4' := HB3.out.trans (hb4.mono HB3.out.size)
      have hz4 := hb4.size
      have hx4 := (HX3.out _ hb4).alloc (.cells #[.int .i64 y.s.rail, .int .i64 y.s.seg, .int .i64 y.s.a.x, .int .i64 y.s.a.y, .int .i64 y.s.b.x, .int .i64 y.s.b.y, .int .i64 y.s.bg, .int .i64 y.s.en, .slice y.A y.s.bends.length y.c, .int .i64 (min y.s.a.x y.s.b.x), .int .i64 (min y.s.a.y y.s.b.y), .int .i64 (max y.s.a.x y.s.b.x), .int .i64 (max y.s.a.y y.s.b.y)] 98)
      have hy4 := Rw.new w4 #[.int .i64 y.s.rail, .int .i64 y.s.seg, .int .i64 y.s.a.x, .int .i64 y.s.a.y, .int .i64 y.s.b.x, .int .i64 y.s.b.y, .int .i64 y.s.bg, .int .i64 y.s.en, .slice y.A y.s.bends.length y.c, .int .i64 (min y.s.a.x y.s.b.x), .int .i64 (min y.s.a.y y.s.b.y), .int .i64 (max y.s.a.x y.s.b.x), .int .i64 (max y.s.a.y y.s.b.y)] 98
      have hb5' := hb4'.alloc hb4'.size (.cells #[.int .i64 y.s.rail, .int .i64 y.s.seg, .int .i64 y.s.a.x, .int .i64 y.s.a.y, .int .i64 y.s.b.x, .int .i64 y.s.b.y, .int .i64 y.s.bg, .int .i64 y.s.en, .slice y.A y.s.bends.length y.c, .int .i64 (min y.s.a.x y.s.b.x), .int .i64 (min y.s.a.y y.s.b.y), .int .i64 (max y.s.a.x y.s.b.x), .int .i64 (max y.s.a.y y.s.b.y)] 98)
      have hb45 := (Below.refl _ w4).alloc (Nat.le_refl _) (.cells #[.int .i64 y.s.rail, .int .i64 y.s.seg, .int .i64 y.s.a.x, .int .i64 y.s.a.y, .int .i64 y.s.b.x, .int .i64 y.s.b.y, .int .i64 y.s.bg, .int .i64 y.s.en, .slice y.A y.s.bends.length y.c, .int .i64 (min y.s.a.x y.s.b.x), .int .i64 (min y.s.a.y y.s.b.y), .int .i64 (max y.s.a.x y.s.b.x), .int .i64 (max y.s.a.y y.s.b.y)] 98)
      have hb25 := ((HB23.out.trans (hb4.mono (by omega))).alloc (by omega) (.cells #[.int .i64 y.s.rail, .int .i64 y.s.seg, .int .i64 y.s.a.x, .int .i64 y.s.a.y, .int .i64 y.s.b.x, .int .i64 y.s.b.y, .int .i64 y.s.bg, .int .i64 y.s.en, .slice y.A y.s.bends.length y.c, .int .i64 (min y.s.a.x y.s.b.x), .int .i64 (min y.s.a.y y.s.b.y), .int .i64 (max y.s.a.x y.s.b.x), .int .i64 (max y.s.a.y y.s.b.y)] 98))
      obtain ⟨W5', hW5⟩ : ∃ z, w4.alloc (.cells #[.int .i64 y.s.rail, .int .i64 y.s.seg, .int .i64 y.s.a.x, .int .i64 y.s.a.y, .int .i64 y.s.b.x, .int .i64 y.s.b.y, .int .i64 y.s.bg, .int .i64 y.s.en, .slice y.A y.s.bends.length y.c, .int .i64 (min y.s.a.x y.s.b.x), .int .i64 (min y.s.a.y y.s.b.y), .int .i64 (max y.s.a.x y.s.b.x), .int .i64 (max y.s.a.y y.s.b.y)] 98) = z := ⟨_, rfl⟩
      rw [hW5] at hx4 hy4 hb5' hb45 hb25
      have HB5' := Lib.hid hb5'
      have HB45 := Lib.hid hb45.drew
      have HB25 := Lib.hid hb25.drew
      clear hb4 hb4' c0 c1 c2' c3 hys hyi hyl hb45 hb25
      go_upto_region 7 with (fail)
      clear hW5 hW3 hW1
      have HT := Lib.hid (show Rw W5'.drew (w.heap.size + 1 + 1 + 1) 98 #[.int .i64 0, .int .i64 0, .int .i64 0, .int .i64 0, .int .i64 0, .int .i64 0, .int .i64 0, .int .i64 0, .slice none 0 0, .int .i64 0, .int .i64 0, .int .i64 0, .int .i64 0] ∧ Rw W5'.drew (w.heap.size + 1 + 1 + 1 + 1) 98 #[.int .i64 0, .int .i64 0, .int .i64 0, .int .i64 0, .int .i64 0, .int .i64 0, .int .i64 0, .int .i64 0, .slice none 0 0, .int .i64 0, .int .i64 0, .int .i64 0, .int .i64 0] from by obtain ⟨a1, a2, a3, a4, a5⟩ := HRR.out _ HB5'.out; exact ⟨a4, a5⟩)
      have HS := Lib.hid (show Rw W5'.drew w2.heap.size 98 #[.int .i64 x.s.rail, .int .i64 x.s.seg, .int .i64 x.s.a.x, .int .i64 x.s.a.y, .int .i64 x.s.b.x, .int .i64 x.s.b.y, .int .i64 x.s.bg, .int .i64 x.s.en, .slice x.A x.s.bends.length x.c, .int .i64 (min x.s.a.x x.s.b.x), .int .i64 (min x.s.a.y x.s.b.y), .int .i64 (max x.s.a.x x.s.b.x), .int .i64 (max x.s.a.y x.s.b.y)] ∧ Rw W5'.drew w4.heap.size 98 #[.int .i64 y.s.rail, .int .i64 y.s.seg, .int .i64 y.s.a.x, .int .i64 y.s.a.y, .int .i64 y.s.b.x, .int .i64 y.s.b.y, .int .i64 y.s.bg, .int .i64 y.s.en, .slice y.A y.s.bends.length y.c, .int .i64 (min y.s.a.x y.s.b.x), .int .i64 (min y.s.a.y y.s.b.y), .int .i64 (max y.s.a.x y.s.b.x), .int .i64 (max y.s.a.y y.s.b.y)] from And.intro hx4 hy4)
      have HNE := Lib.hid (show w2.heap.size ≠ w.heap.size + 1 + 1 + 1 ∧ w4.heap.size ≠ w.heap.size + 1 + 1 + 1 ∧ w2.heap.size ≠ w.heap.size + 1 + 1 + 1 + 1 ∧ w4.heap.size ≠ w.heap.size + 1 + 1 + 1 + 1 from by have := HZ5.out; have := HZ2.out; refine ⟨?_, ?_, ?_, ?_⟩ <;> omega)
      have hbq := HB5'.out.drew
      clear hx4 hy4
      refine wp_region_held_drew (S := fun wx => Rw wx w2.heap.size 98 #[.int .i64 x.s.rail, .int .i64 x.s.seg, .int .i64 x.s.a.x, .int .i64 x.s.a.y, .int .i64 x.s.b.x, .int .i64 x.s.b.y, .int .i64 x.s.bg, .int .i64 x.s.en, .slice x.A x.s.bends.length x.c, .int .i64 (min x.s.a.x x.s.b.x), .int .i64 (min x.s.a.y x.s.b.y), .int .i64 (max x.s.a.x x.s.b.x), .int .i64 (max x.s.a.y x.s.b.y)] ∧ Rw wx w4.heap.size 98 #[.int .i64 y.s.rail, .int .i64 y.s.seg, .int .i64 y.s.a.x, .int .i64 y.s.a.y, .int .i64 y.s.b.x, .int .i64 y.s.b.y, .int .i64 y.s.bg, .int .i64 y.s.en, .slice y.A y.s.bends.length y.c, .int .i64 (min y.s.a.x y.s.b.x), .int .i64 (min y.s.a.y y.s.b.y), .int .i64 (max y.s.a.x y.s.b.x), .int .i64 (max y.s.a.y y.s.b.y)]) (by kernel_rfl) HS.out (fun _ => ?_)
      refine hTake (i := 0) (d := 33) (v := .agg #[.int .i64 x.s.rail, .int .i64 x.s.seg, .int .i64 x.s.a.x, .int .i64 x.s.a.y, .int .i64 x.s.b.x, .int .i64 x.s.b.y, .int .i64 x.s.bg, .int .i64 x.s.en, .slice x.A x.s.bends.length x.c, .int .i64 (min x.s.a.x x.s.b.x), .int .i64 (min x.s.a.y x.s.b.y), .int .i64 (max x.s.a.x x.s.b.x), .int .i64 (max x.s.a.y x.s.b.y)]) rfl rfl (by kernel_rfl) (by kernel_rfl) (by kernel_rfl) (fun _ _ _ h => h) (Or.inl ⟨rfl, ?gr⟩) HS.out ?_
      case gr =>
        rintro W' ⟨s0, s1⟩
        have d0 := s0.cell 0; have f0 := s1.cell 0
        have d1 := s0.cell 1; have f1 := s1.cell 1
        have d2 := s0.cell 2; have f2 := s1.cell 2
        have d3 := s0.cell 3; have f3 := s1.cell 3
        have d4 := s0.cell 4; have f4 := s1.cell 4
        have d5 := s0.cell 5; have f5 := s1.cell 5
        have d6 := s0.cell 6; have f6 := s1.cell 6
        have d7 := s0.cell 7; have f7 := s1.cell 7
        have d8 := s0.cell 8; have f8 := s1.cell 8
        have d9 := s0.cell 9; have f9 := s1.cell 9
        have d10 := s0.cell 10; have f10 := s1.cell 10
        have d11 := s0.cell 11; have f11 := s1.cell 11
        have d12 := s0.cell 12; have f12 := s1.cell 12
        go_simp
      simp only [Act.put, List.setIfInBounds_toArray, List.set_cons_zero, List.set_cons_succ]
      refine hTake (i := 1) (d := 34) (v := .agg #[.int .i64 y.s.rail, .int .i64 y.s.seg, .int .i64 y.s.a.x, .int .i64 y.s.a.y, .int .i64 y.s.b.x, .int .i64 y.s.b.y, .int .i64 y.s.bg, .int .i64 y.s.en, .slice y.A y.s.bends.length y.c, .int .i64 (min y.s.a.x y.s.b.x), .int .i64 (min y.s.a.y y.s.b.y), .int .i64 (max y.s.a.x y.s.b.x), .int .i64 (max y.s.a.y y.s.b.y)]) rfl rfl (by kernel_rfl) (by kernel_rfl) (by kernel_rfl) (fun _ _ _ h => h) (Or.inl ⟨rfl, ?gr⟩) HS.out ?_
      case gr =>
        rintro W' ⟨s0, s1⟩
        have d0 := s0.cell 0; have f0 := s1.cell 0
        have d1 := s0.cell 1; have f1 := s1.cell 1
        have d2 := s0.cell 2; have f2 := s1.cell 2
        have d3 := s0.cell 3; have f3 := s1.cell 3
        have d4 := s0.cell 4; have f4 := s1.cell 4
        have d5 := s0.cell 5; have f5 := s1.cell 5
        have d6 := s0.cell 6; have f6 := s1.cell 6
        have d7 := s0.cell 7; have f7 := s1.cell 7
        have d8 := s0.cell 8; have f8 := s1.cell 8
        have d9 := s0.cell 9; have f9 := s1.cell 9
        have d10 := s0.cell 10; have f10 := s1.cell 10
        have d11 := s0.cell 11; have f11 := s1.cell 11
        have d12 := s0.cell 12; have f12 := s1.cell 12
        go_simp
      simp only [Act.put, List.setIfInBounds_toArray, List.set_cons_zero, List.set_cons_succ]
      refine hTake (i := 2) (d := 35) (v := .bool true) rfl rfl (by kernel_rfl) (by kernel_rfl) (by kernel_rfl) (fun _ _ _ h => h) (Or.inl ⟨rfl, ?gr⟩) HS.out ?_
      case gr =>
        rintro W' ⟨s0, s1⟩
        have d0 := s0.cell 0; have f0 := s1.cell 0
        have d1 := s0.cell 1; have f1 := s1.cell 1
        have d2 := s0.cell 2; have f2 := s1.cell 2
        have d3 := s0.cell 3; have f3 := s1.cell 3
        have d4 := s0.cell 4; have f4 := s1.cell 4
        have d5 := s0.cell 5; have f5 := s1.cell 5
        have d6 := s0.cell 6; have f6 := s1.cell 6
        have d7 := s0.cell 7; have f7 := s1.cell 7
        have d8 := s0.cell 8; have f8 := s1.cell 8
        have d9 := s0.cell 9; have f9 := s1.cell 9
        have d10 := s0.cell 10; have f10 := s1.cell 10
        have d11 := s0.cell 11; have f11 := s1.cell 11
        have d12 := s0.cell 12; have f12 := s1.cell 12
        go_simp
      simp only [Act.put, List.setIfInBounds_toArray, List.set_cons_zero, List.set_cons_succ]
      refine wpAnyH_ready (rs := [3]) (by kernel_rfl) (by simp) ?_
      refine AllReadyH.cons rfl (fun K hK => ?_) AllReadyH.nil
      rw [if_pos (by rfl)]
      refine wp_store_row 98 _ _ rfl (w.heap.size + 1 + 1 + 1) rfl #[.int .i64 x.s.rail, .int .i64 x.s.seg, .int .i64 x.s.a.x, .int .i64 x.s.a.y, .int .i64 x.s.b.x, .int .i64 x.s.b.y, .int .i64 x.s.bg, .int .i64 x.s.en, .slice x.A x.s.bends.length x.c, .int .i64 (min x.s.a.x x.s.b.x), .int .i64 (min x.s.a.y x.s.b.y), .int .i64 (max x.s.a.x x.s.b.x), .int .i64 (max x.s.a.y x.s.b.y)] rfl 98 _ HT.out.1 (by kernel_rfl) rfl (by simp [Value.oneCell']) ?_
      have HT := Lib.hid (And.intro (HT.out.1.setRow #[.int .i64 x.s.rail, .int .i64 x.s.seg, .int .i64 x.s.a.x, .int .i64 x.s.a.y, .int .i64 x.s.b.x, .int .i64 x.s.b.y, .int .i64 x.s.bg, .int .i64 x.s.en, .slice x.A x.s.bends.length x.c, .int .i64 (min x.s.a.x x.s.b.x), .int .i64 (min x.s.a.y x.s.b.y), .int .i64 (max x.s.a.x x.s.b.x), .int .i64 (max x.s.a.y x.s.b.y)]) (HT.out.2.setRow_far #[.int .i64 x.s.rail, .int .i64 x.s.seg, .int .i64 x.s.a.x, .int .i64 x.s.a.y, .int .i64 x.s.b.x, .int .i64 x.s.b.y, .int .i64 x.s.bg, .int .i64 x.s.en, .slice x.A x.s.bends.length x.c, .int .i64 (min x.s.a.x x.s.b.x), .int .i64 (min x.s.a.y x.s.b.y), .int .i64 (max x.s.a.x x.s.b.x), .int .i64 (max x.s.a.y x.s.b.y)] (show w.heap.size + 1 + 1 + 1 + 1 ≠ w.heap.size + 1 + 1 + 1 by omega)))
      have HS := Lib.hid (And.intro (HS.out.1.setRow_far #[.int .i64 x.s.rail, .int .i64 x.s.seg, .int .i64 x.s.a.x, .int .i64 x.s.a.y, .int .i64 x.s.b.x, .int .i64 x.s.b.y, .int .i64 x.s.bg, .int .i64 x.s.en, .slice x.A x.s.bends.length x.c, .int .i64 (min x.s.a.x x.s.b.x), .int .i64 (min x.s.a.y x.s.b.y), .int .i64 (max x.s.a.x x.s.b.x), .int .i64 (max x.s.a.y x.s.b.y)] HNE.out.1) (HS.out.2.setRow_far #[.int .i64 x.s.rail, .int .i64 x.s.seg, .int .i64 x.s.a.x, .int .i64 x.s.a.y, .int .i64 x.s.b.x, .int .i64 x.s.b.y, .int .i64 x.s.bg, .int .i64 x.s.en, .slice x.A x.s.bends.length x.c, .int .i64 (min x.s.a.x x.s.b.x), .int .i64 (min x.s.a.y x.s.b.y), .int .i64 (max x.s.a.x x.s.b.x), .int .i64 (max x.s.a.y x.s.b.y)] HNE.out.2.1))
      refine hK.out _ _ HS.out (fun _ => ?_)
      clear hK K
      try simp only [Act.put, List.setIfInBounds_toArray, List.set_cons_zero, List.set_cons_succ]
      refine wpAnyH_ready (rs := [4]) (by kernel_rfl) (by simp) ?_
      refine AllReadyH.cons rfl (fun K hK => ?_) AllReadyH.nil
      rw [if_pos (by rfl)]
      refine wp_store_row 98 _ _ rfl (w.heap.size + 1 + 1 + 1 + 1) rfl #[.int .i64 y.s.rail, .int .i64 y.s.seg, .int .i64 y.s.a.x, .int .i64 y.s.a.y, .int .i64 y.s.b.x, .int .i64 y.s.b.y, .int .i64 y.s.bg, .int .i64 y.s.en, .slice y.A y.s.bends.length y.c, .int .i64 (min y.s.a.x y.s.b.x), .int .i64 (min y.s.a.y y.s.b.y), .int .i64 (max y.s.a.x y.s.b.x), .int .i64 (max y.s.a.y y.s.b.y)] rfl 98 _ HT.out.2 (by kernel_rfl) rfl (by simp [Value.oneCell']) ?_
      have HT := Lib.hid (And.intro (HT.out.1.setRow_far #[.int .i64 y.s.rail, .int .i64 y.s.seg, .int .i64 y.s.a.x, .int .i64 y.s.a.y, .int .i64 y.s.b.x, .int .i64 y.s.b.y, .int .i64 y.s.bg, .int .i64 y.s.en, .slice y.A y.s.bends.length y.c, .int .i64 (min y.s.a.x y.s.b.x), .int .i64 (min y.s.a.y y.s.b.y), .int .i64 (max y.s.a.x y.s.b.x), .int .i64 (max y.s.a.y y.s.b.y)] (show w.heap.size + 1 + 1 + 1 ≠ w.heap.size + 1 + 1 + 1 + 1 by omega)) (HT.out.2.setRow #[.int .i64 y.s.rail, .int .i64 y.s.seg, .int .i64 y.s.a.x, .int .i64 y.s.a.y, .int .i64 y.s.b.x, .int .i64 y.s.b.y, .int .i64 y.s.bg, .int .i64 y.s.en, .slice y.A y.s.bends.length y.c, .int .i64 (min y.s.a.x y.s.b.x), .int .i64 (min y.s.a.y y.s.b.y), .int .i64 (max y.s.a.x y.s.b.x), .int .i64 (max y.s.a.y y.s.b.y)]))
      have HS := Lib.hid (And.intro (HS.out.1.setRow_far #[.int .i64 y.s.rail, .int .i64 y.s.seg, .int .i64 y.s.a.x, .int .i64 y.s.a.y, .int .i64 y.s.b.x, .int .i64 y.s.b.y, .int .i64 y.s.bg, .int .i64 y.s.en, .slice y.A y.s.bends.length y.c, .int .i64 (min y.s.a.x y.s.b.x), .int .i64 (min y.s.a.y y.s.b.y), .int .i64 (max y.s.a.x y.s.b.x), .int .i64 (max y.s.a.y y.s.b.y)] HNE.out.2.2.1) (HS.out.2.setRow_far #[.int .i64 y.s.rail, .int .i64 y.s.seg, .int .i64 y.s.a.x, .int .i64 y.s.a.y, .int .i64 y.s.b.x, .int .i64 y.s.b.y, .int .i64 y.s.bg, .int .i64 y.s.en, .slice y.A y.s.bends.length y.c, .int .i64 (min y.s.a.x y.s.b.x), .int .i64 (min y.s.a.y y.s.b.y), .int .i64 (max y.s.a.x y.s.b.x), .int .i64 (max y.s.a.y y.s.b.y)] HNE.out.2.2.2))
      refine hK.out _ _ HS.out (fun _ => ?_)
      clear hK K
      try simp only [Act.put, List.setIfInBounds_toArray, List.set_cons_zero, List.set_cons_succ]
      refine hTake (i := 5) (d := 8) (v := .bool true) rfl rfl (by kernel_rfl) (by kernel_rfl) (by kernel_rfl) (fun _ _ _ h => h) (Or.inl ⟨rfl, ?gr⟩) HS.out ?_
      case gr =>
        rintro W' ⟨s0, s1⟩
        have d0 := s0.cell 0; have f0 := s1.cell 0
        have d1 := s0.cell 1; have f1 := s1.cell 1
        have d2 := s0.cell 2; have f2 := s1.cell 2
        have d3 := s0.cell 3; have f3 := s1.cell 3
        have d4 := s0.cell 4; have f4 := s1.cell 4
        have d5 := s0.cell 5; have f5 := s1.cell 5
        have d6 := s0.cell 6; have f6 := s1.cell 6
        have d7 := s0.cell 7; have f7 := s1.cell 7
        have d8 := s0.cell 8; have f8 := s1.cell 8
        have d9 := s0.cell 9; have f9 := s1.cell 9
        have d10 := s0.cell 10; have f10 := s1.cell 10
        have d11 := s0.cell 11; have f11 := s1.cell 11
        have d12 := s0.cell 12; have f12 := s1.cell 12
        go_simp
      simp only [Act.put, List.setIfInBounds_toArray, List.set_cons_zero, List.set_cons_succ]
      refine wpAnyH_done (by kernel_rfl) ?_ _

      go_wp2
      (try simp only [Exit.inBlock, Exit.then])
      refine bodyPost_ret (res_cct rfl _ _ _ _ _ _ _ _ _ _ _ rfl rfl rfl HT.out.1 HT.out.2 Tryz.underlying98 rfl (by kernel_rfl) Tryz.underlying98 rfl (by kernel_rfl)) rfl ⟨x, y, rfl, HXF.out.2.1, HYF.out.2.1, ?_, ?_, ?_⟩
      · refine SwIn.setRow (SwIn.setRow (SwIn.below (HXF.out.2.2.1) HB25.out) _ _ (fun a ha => ?_)) _ _ (fun a ha => ?_)
        · have h1 := HXF.out.2.2.2 a ha; have h2 := HZ5.out; have h3 := HZ1.out; omega
        · have h1 := HXF.out.2.2.2 a ha; have h2 := HZ5.out; have h3 := HZ1.out; omega
      · refine SwIn.setRow (SwIn.setRow (SwIn.below (HYF.out.2.2.1) HB45.out) _ _ (fun a ha => ?_)) _ _ (fun a ha => ?_)
        · have h1 := HYF.out.2.2.2 a ha; have h2 := HZ5.out; have h3 := HB3.out.size; omega
        · have h1 := HYF.out.2.2.2 a ha; have h2 := HZ5.out; have h3 := HB3.out.size; omega
      have hbb := HB5.out.trans (hbq.mono HB5.out.size)
      exact below_setRow (below_setRow hbb (by omega) _) (by omega) _
  · exact absurd HV.out hv
end Go.Proofs.YtekambdnmaompaaGreat.SW

namespace Go.Proofs.YtekambdnmaompaaGreat.SW
set_option linter.unusedVariables false
set_option linter.unusedSimpArgs false
open Go.RowKit

set_option maxRecDepth 100000 in
set_option maxHeartbeats 4000000 in
theorem Place_yes (A A2 : Option Addr) (c c2 : Nat) (p : Pl) (r k : Nat) (L : List S) (w : World) (hP : PlAt w w.heap.size A c A2 c2 p) (hV : Vld p) (h : RlOk p r L) (hk : k + 1 < L.length) :
    Calls Tryz.prog 18 #[.agg #[.slice A p.nodes.length c, .slice A2 p.rails.length c2], .agg #[.int .i64 (r : Int), .int .i64 (k : Int)]] w fun e w' => e = .returned (.tuple #[.int .i64 (lenTo L k : Nat), .int .i64 (lenTo L (k + 1) : Nat), .int .i64 0]) ∧ Below w.heap.size w w' := by
  have hb1 := ((Below.refl _ w).alloc (Nat.le_refl _) (.cells #[.slice A p.nodes.length c, .slice A2 p.rails.length c2] 25)).alloc (by simp) (.cells #[.int .i64 (r : Int), .int .i64 (k : Int)] 34)
  obtain ⟨q1, q2⟩ := rows2 w #[.slice A p.nodes.length c, .slice A2 p.rails.length c2] #[.int .i64 (r : Int), .int .i64 (k : Int)] 25 34
  have hz1 : ((w.alloc (.cells #[.slice A p.nodes.length c, .slice A2 p.rails.length c2] 25)).alloc (.cells #[.int .i64 (r : Int), .int .i64 (k : Int)] 34)).heap.size = w.heap.size + 2 := by simp
  obtain ⟨W1, hW1⟩ : ∃ z, (w.alloc (.cells #[.slice A p.nodes.length c, .slice A2 p.rails.length c2] 25)).alloc (.cells #[.int .i64 (r : Int), .int .i64 (k : Int)] 34) = z := ⟨_, rfl⟩
  rw [hW1] at hb1 q1 q2 hz1
  have HB1 := Lib.hid hb1
  have HV := Lib.hid hV
  have HR := Lib.hid (show ∀ wx, Below W1.heap.size W1 wx → Rw wx w.heap.size 25 #[.slice A p.nodes.length c, .slice A2 p.rails.length c2] ∧ Rw wx (w.heap.size + 1) 34 #[.int .i64 (r : Int), .int .i64 (k : Int)] from fun wx h => ⟨q1.below h (by omega), q2.below h (by omega)⟩)
  have HPB := Lib.hid (show ∀ wx, Below W1.heap.size W1 wx → PlAt wx wx.heap.size A c A2 c2 p from fun wx h => ((hP.below hb1).below (h.mono hb1.size)).more (Nat.le_trans hb1.size h.size))
  have HCK := Lib.hid (show ∀ wx, Below W1.heap.size W1 wx → Calls Tryz.prog 48 #[.agg #[.slice A p.nodes.length c, .slice A2 p.rails.length c2]] wx (CheckPost p wx) from fun wx h => Check_any A A2 c c2 p wx (HPB.out wx h))
  have HF := Lib.hid (show ∀ wx, Below W1.heap.size W1 wx → _ from fun wx hx => find_yes A A2 c c2 p r k L wx (HPB.out wx hx) h hk)
  have e0 := q1.cell 0; have e1 := q1.cell 1
  obtain ⟨g0, hg0⟩ : ∃ z, lenTo L k = z := ⟨_, rfl⟩
  obtain ⟨g1, hg1⟩ : ∃ z, lenTo L (k + 1) = z := ⟨_, rfl⟩
  rw [hg0, hg1]
  have HG := Lib.hid (show ∀ x : SwM, x.s = stripAt r L k → x.s.bg = (g0 : Int) ∧ x.s.en = (g1 : Int) from fun x hx => by rw [hx, ← hg0, ← hg1]; exact ⟨rfl, rfl⟩)
  clear hb1 q1 q2 hP hV h hk hg0 hg1
  go_enter Tryz.func18, Tryz.ntmps18
  go_wp2_with fail
  refine (HCK.out _ (Below.refl _ _)).mono ?_
  rintro e w1 ⟨⟨hv, rfl⟩ | ⟨hv, rfl⟩, hb1⟩
  · have HB2 := Lib.hid hb1
    obtain ⟨a1, a2⟩ := HR.out _ hb1
    have c0 := a1.cell 0; have c1 := a1.cell 1; have c2' := a2.cell 0; have c3 := a2.cell 1
    clear hb1 hv a1 a2 e0 e1
    go_wp2_with fail
    refine (HF.out _ HB2.out).mono ?_
    rintro e w2 ⟨x, rfl, hxs, _, _, hb2⟩
    rw [show (fSw x).toArray = #[.int .i64 x.s.rail, .int .i64 x.s.seg, .int .i64 x.s.a.x, .int .i64 x.s.a.y, .int .i64 x.s.b.x, .int .i64 x.s.b.y, .int .i64 x.s.bg, .int .i64 x.s.en, .slice x.A x.s.bends.length x.c, .int .i64 (min x.s.a.x x.s.b.x), .int .i64 (min x.s.a.y x.s.b.y), .int .i64 (max x.s.a.x x.s.b.x), .int .i64 (max x.s.a.y x.s.b.y)] from rfl]
    obtain ⟨e1, e2⟩ := HG.out x hxs
    rw [e1, e2]
    have HB3 := Lib.hid ((HB1.out.trans ((HB2.out.trans (hb2.mono HB2.out.size)).mono HB1.out.size)).alloc (by have := HB1.out.size; have := HB2.out.size; have := hb2.size; omega) (.cells #[.int .i64 x.s.rail, .int .i64 x.s.seg, .int .i64 x.s.a.x, .int .i64 x.s.a.y, .int .i64 x.s.b.x, .int .i64 x.s.b.y, .int .i64 (g0 : Int), .int .i64 (g1 : Int), .slice x.A x.s.bends.length x.c, .int .i64 (min x.s.a.x x.s.b.x), .int .i64 (min x.s.a.y x.s.b.y), .int .i64 (max x.s.a.x x.s.b.x), .int .i64 (max x.s.a.y x.s.b.y)] 98))
    have hr := Rw.new w2 #[.int .i64 x.s.rail, .int .i64 x.s.seg, .int .i64 x.s.a.x, .int .i64 x.s.a.y, .int .i64 x.s.b.x, .int .i64 x.s.b.y, .int .i64 (g0 : Int), .int .i64 (g1 : Int), .slice x.A x.s.bends.length x.c, .int .i64 (min x.s.a.x x.s.b.x), .int .i64 (min x.s.a.y x.s.b.y), .int .i64 (max x.s.a.x x.s.b.x), .int .i64 (max x.s.a.y x.s.b.y)] 98
    have d6 := hr.cell 6
    have d7 := hr.cell 7
    clear hb2 hxs hr
    go_wp2
    go_quiet (fail)
    go_wp2
    go_ret3
    exact ⟨rfl, bDrewN HB3.out _⟩
  · exact absurd HV.out hv
end Go.Proofs.YtekambdnmaompaaGreat.SW

namespace Go.Proofs.YtekambdnmaompaaGreat.SW
set_option linter.unusedVariables false
set_option linter.unusedSimpArgs false
open Go.RowKit

set_option maxRecDepth 100000 in
set_option maxHeartbeats 4000000 in
theorem Gap_yes (A A2 : Option Addr) (c c2 : Nat) (p : Pl) (r k r2 k2 : Nat) (L L2 : List S) (w : World) (hP : PlAt w w.heap.size A c A2 c2 p) (hV : Vld p) (h : RlOk p r L) (hk : k + 1 < L.length) (h2 : RlOk p r2 L2) (hk2 : k2 + 1 < L2.length) :
    Calls Tryz.prog 24 #[.agg #[.slice A p.nodes.length c, .slice A2 p.rails.length c2], .agg #[.int .i64 (r : Int), .int .i64 (k : Int)], .agg #[.int .i64 (r2 : Int), .int .i64 (k2 : Int)]] w fun e w' => e = .returned (.tuple #[.int .i64 ((gapW (stripAt r L k) (stripAt r2 L2 k2) : Nat) : Int), .int .i64 0]) ∧ Below w.heap.size w w' := by
  have hb1 := (((Below.refl _ w).alloc (Nat.le_refl _) (.cells #[.slice A p.nodes.length c, .slice A2 p.rails.length c2] 25)).alloc (by simp) (.cells #[.int .i64 (r : Int), .int .i64 (k : Int)] 34)).alloc (by simp; omega) (.cells #[.int .i64 (r2 : Int), .int .i64 (k2 : Int)] 34)
  obtain ⟨q1, q2, q3⟩ := rows3 w #[.slice A p.nodes.length c, .slice A2 p.rails.length c2] #[.int .i64 (r : Int), .int .i64 (k : Int)] #[.int .i64 (r2 : Int), .int .i64 (k2 : Int)] 25 34 34
  have hz1 : (((w.alloc (.cells #[.slice A p.nodes.length c, .slice A2 p.rails.length c2] 25)).alloc (.cells #[.int .i64 (r : Int), .int .i64 (k : Int)] 34)).alloc (.cells #[.int .i64 (r2 : Int), .int .i64 (k2 : Int)] 34)).heap.size = w.heap.size + 3 := by simp
  obtain ⟨W1, hW1⟩ : ∃ z, ((w.alloc (.cells #[.slice A p.nodes.length c, .slice A2 p.rails.length c2] 25)).alloc (.cells #[.int .i64 (r : Int), .int .i64 (k : Int)] 34)).alloc (.cells #[.int .i64 (r2 : Int), .int .i64 (k2 : Int)] 34) = z := ⟨_, rfl⟩
  rw [hW1] at hb1 q1 q2 q3 hz1
  have HB1 := Lib.hid hb1
  have hPB : PlAt W1 W1.heap.size A c A2 c2 p := (hP.below hb1).more hb1.size
  have e0 := q1.cell 0; have e1 := q1.cell 1; have e2 := q2.cell 0; have e3 := q2.cell 1; have e4 := q3.cell 0; have e5 := q3.cell 1
  have HBO := Lib.hid (both_yes A A2 c c2 p r k r2 k2 L L2 W1 hPB hV h hk h2 hk2)
  have HC := Lib.hid (show ∀ x y : SwM, x.s = stripAt r L k → y.s = stripAt r2 L2 k2 → SwOk x.s → SwOk y.s → ∀ wx, Calls Tryz.prog 63 #[.agg (fSw x).toArray, .agg (fSw y).toArray] wx fun e w' => e = .returned (.int .i64 ((gapW (stripAt r L k) (stripAt r2 L2 k2) : Nat) : Int)) ∧ Below wx.heap.size wx w' from fun x y hx hy hxi hyi wx => by rw [← hx, ← hy]; exact gap_any x y wx hxi hyi)
  clear hb1 q1 q2 q3 hP hPB hV h hk h2 hk2
  go_enter Tryz.func24, Tryz.ntmps24
  go_wp2_with fail
  refine (HBO.out).mono ?_
  rintro e w1 ⟨x, y, rfl, hxs, hys, hxi, hyi, hb2⟩
  rw [show (fSw x).toArray = #[.int .i64 x.s.rail, .int .i64 x.s.seg, .int .i64 x.s.a.x, .int .i64 x.s.a.y, .int .i64 x.s.b.x, .int .i64 x.s.b.y, .int .i64 x.s.bg, .int .i64 x.s.en, .slice x.A x.s.bends.length x.c, .int .i64 (min x.s.a.x x.s.b.x), .int .i64 (min x.s.a.y x.s.b.y), .int .i64 (max x.s.a.x x.s.b.x), .int .i64 (max x.s.a.y x.s.b.y)] from rfl, show (fSw y).toArray = #[.int .i64 y.s.rail, .int .i64 y.s.seg, .int .i64 y.s.a.x, .int .i64 y.s.a.y, .int .i64 y.s.b.x, .int .i64 y.s.b.y, .int .i64 y.s.bg, .int .i64 y.s.en, .slice y.A y.s.bends.length y.c, .int .i64 (min y.s.a.x y.s.b.x), .int .i64 (min y.s.a.y y.s.b.y), .int .i64 (max y.s.a.x y.s.b.x), .int .i64 (max y.s.a.y y.s.b.y)] from rfl]
  have hc := HC.out x y hxs hys hxi.ok hyi.ok
  rw [show (fSw x).toArray = #[.int .i64 x.s.rail, .int .i64 x.s.seg, .int .i64 x.s.a.x, .int .i64 x.s.a.y, .int .i64 x.s.b.x, .int .i64 x.s.b.y, .int .i64 x.s.bg, .int .i64 x.s.en, .slice x.A x.s.bends.length x.c, .int .i64 (min x.s.a.x x.s.b.x), .int .i64 (min x.s.a.y x.s.b.y), .int .i64 (max x.s.a.x x.s.b.x), .int .i64 (max x.s.a.y x.s.b.y)] from rfl, show (fSw y).toArray = #[.int .i64 y.s.rail, .int .i64 y.s.seg, .int .i64 y.s.a.x, .int .i64 y.s.a.y, .int .i64 y.s.b.x, .int .i64 y.s.b.y, .int .i64 y.s.bg, .int .i64 y.s.en, .slice y.A y.s.bends.length y.c, .int .i64 (min y.s.a.x y.s.b.x), .int .i64 (min y.s.a.y y.s.b.y), .int .i64 (max y.s.a.x y.s.b.x), .int .i64 (max y.s.a.y y.s.b.y)] from rfl] at hc
  have HCC := Lib.hid hc
  have HB3 := Lib.hid (((HB1.out.trans (hb2.mono HB1.out.size)).alloc (by have := HB1.out.size; have := hb2.size; omega) (.cells #[.int .i64 x.s.rail, .int .i64 x.s.seg, .int .i64 x.s.a.x, .int .i64 x.s.a.y, .int .i64 x.s.b.x, .int .i64 x.s.b.y, .int .i64 x.s.bg, .int .i64 x.s.en, .slice x.A x.s.bends.length x.c, .int .i64 (min x.s.a.x x.s.b.x), .int .i64 (min x.s.a.y x.s.b.y), .int .i64 (max x.s.a.x x.s.b.x), .int .i64 (max x.s.a.y x.s.b.y)] 98)).alloc (by simp; have := HB1.out.size; have := hb2.size; omega) (.cells #[.int .i64 y.s.rail, .int .i64 y.s.seg, .int .i64 y.s.a.x, .int .i64 y.s.a.y, .int .i64 y.s.b.x, .int .i64 y.s.b.y, .int .i64 y.s.bg, .int .i64 y.s.en, .slice y.A y.s.bends.length y.c, .int .i64 (min y.s.a.x y.s.b.x), .int .i64 (min y.s.a.y y.s.b.y), .int .i64 (max y.s.a.x y.s.b.x), .int .i64 (max y.s.a.y y.s.b.y)] 98))
  clear hb2 hxs hys hxi hyi hc
  go_wp2_with fail
  refine (HCC.out _).mono ?_
  rintro e w2 ⟨rfl, hb4⟩
  have HB4 := Lib.hid (HB3.out.trans (hb4.mono HB3.out.size))
  clear hb4
  go_wp2
  go_ret2
  exact ⟨rfl, HB4.out⟩
end Go.Proofs.YtekambdnmaompaaGreat.SW

namespace Go.Proofs.YtekambdnmaompaaGreat.SW
set_option linter.unusedVariables false
set_option linter.unusedSimpArgs false
open Go.RowKit

theorem Sl.two (w : World) (t : TypeId) (a b c d : Int) : Sl (w.alloc (.cells #[.int .i64 a, .int .i64 b, .int .i64 c, .int .i64 d] t)) (w.heap.size + 1) 2 CS (some ⟨w.heap.size, 0, none⟩) [⟨a, b⟩, ⟨c, d⟩] := by
  intro _
  refine ⟨w.heap.size, 0, rfl, by omega, fun i x hx => ?_⟩
  have hr := Rw.new w #[.int .i64 a, .int .i64 b, .int .i64 c, .int .i64 d] t
  match i, hx with
  | 0, hx =>
    obtain rfl : (⟨a, b⟩ : S) = x := by simpa using hx
    refine ⟨_, rfl, fun j u hu => ?_⟩
    match j, hu with
    | 0, hu => simp at hu; subst hu; exact hr.cell 0
    | 1, hu => simp at hu; subst hu; exact hr.cell 1
    | j + 2, hu => simp at hu
  | 1, hx =>
    obtain rfl : (⟨c, d⟩ : S) = x := by simpa using hx
    refine ⟨_, rfl, fun j u hu => ?_⟩
    match j, hu with
    | 0, hu => simp at hu; subst hu; exact hr.cell 2
    | 1, hu => simp at hu; subst hu; exact hr.cell 3
    | j + 2, hu => simp at hu
  | i + 2, hx => simp at hx
theorem prB_pr {h s : Int} (hp : prB ⟨h, s⟩ = true) : Pr h s := by
  rw [← profB_pr] at hp
  unfold profB inB at hp
  simp only [Bool.and_eq_true, decide_eq_true_eq] at hp
  exact ⟨by omega, by omega, by omega, by omega⟩
set_option maxRecDepth 100000 in
set_option maxHeartbeats 8000000 in
theorem Foul_yes (A A2 : Option Addr) (c c2 : Nat) (p : Pl) (r k r2 k2 : Nat) (L L2 : List S) (hx sx hy sy : Int) (w : World) (hP : PlAt w w.heap.size A c A2 c2 p) (hV : Vld p) (h : RlOk p r L) (hk : k + 1 < L.length) (h2 : RlOk p r2 L2) (hk2 : k2 + 1 < L2.length) (hX : prB ⟨hx, sx⟩ = true) (hY : prB ⟨hy, sy⟩ = true) :
    Calls Tryz.prog 28 #[.agg #[.slice A p.nodes.length c, .slice A2 p.rails.length c2],  .agg #[.int .i64 (r : Int), .int .i64 (k : Int)], .agg #[.int .i64 hx, .int .i64 sx], .agg #[.int .i64 (r2 : Int), .int .i64 (k2 : Int)], .agg #[.int .i64 hy, .int .i64 sy]] w fun e w' => e = .returned (.tuple #[.bool (foulB (stripAt r L k) (stripAt r2 L2 k2) hx sx hy sy), .int .i64 0]) ∧ Below w.heap.size w w' := by
  have hb5 := (((((Below.refl _ w).alloc (Nat.le_refl _) (.cells #[.slice A p.nodes.length c, .slice A2 p.rails.length c2] 25)).alloc (by simp) (.cells #[.int .i64 (r : Int), .int .i64 (k : Int)] 34)).alloc (by simp; omega) (.cells #[.int .i64 hx, .int .i64 sx] 46)).alloc (by simp; omega) (.cells #[.int .i64 (r2 : Int), .int .i64 (k2 : Int)] 34)).alloc (by simp; omega) (.cells #[.int .i64 hy, .int .i64 sy] 46)
  obtain ⟨q1, q2, q3, q4, q5⟩ := rows5 w #[.slice A p.nodes.length c, .slice A2 p.rails.length c2] #[.int .i64 (r : Int), .int .i64 (k : Int)] #[.int .i64 hx, .int .i64 sx] #[.int .i64 (r2 : Int), .int .i64 (k2 : Int)] #[.int .i64 hy, .int .i64 sy] 25 34 46 34 46
  have hz1 : (((((w.alloc (.cells #[.slice A p.nodes.length c, .slice A2 p.rails.length c2] 25)).alloc (.cells #[.int .i64 (r : Int), .int .i64 (k : Int)] 34)).alloc (.cells #[.int .i64 hx, .int .i64 sx] 46)).alloc (.cells #[.int .i64 (r2 : Int), .int .i64 (k2 : Int)] 34)).alloc (.cells #[.int .i64 hy, .int .i64 sy] 46)).heap.size = w.heap.size + 5 := by simp
  obtain ⟨W1, hW1⟩ : ∃ z, (((((w.alloc (.cells #[.slice A p.nodes.length c, .slice A2 p.rails.length c2] 25)).alloc (.cells #[.int .i64 (r : Int), .int .i64 (k : Int)] 34)).alloc (.cells #[.int .i64 hx, .int .i64 sx] 46)).alloc (.cells #[.int .i64 (r2 : Int), .int .i64 (k2 : Int)] 34)).alloc (.cells #[.int .i64 hy, .int .i64 sy] 46)) = z := ⟨_, rfl⟩
  rw [hW1] at hb5 q1 q2 q3 q4 q5 hz1
  have HB1 := Lib.hid hb5
  have HZ1 := Lib.hid hz1
  have hPB : PlAt W1 W1.heap.size A c A2 c2 p := (hP.below hb5).more hb5.size
  have HPR := Lib.hid (show ∀ wx, Below W1.heap.size W1 wx → Rw wx (w.heap.size + 1 + 1) 46 #[.int .i64 hx, .int .i64 sx] ∧ Rw wx (w.heap.size + 1 + 1 + 1 + 1) 46 #[.int .i64 hy, .int .i64 sy] from fun wx h => ⟨q3.below h (by omega), q5.below h (by omega)⟩)
  have e0 := q1.cell 0; have e1 := q1.cell 1; have e2 := q2.cell 0; have e3 := q2.cell 1; have e4 := q4.cell 0; have e5 := q4.cell 1
  have HRT := Lib.hid (show ∀ wx : World, Calls Tryz.prog 66 #[.slice (some ⟨wx.heap.size, 0, none⟩) 2 2] (wx.alloc (.cells #[.int .i64 hx, .int .i64 sx, .int .i64 hy, .int .i64 sy] 46)) fun e w' => e = .returned (.bool (prB ⟨hx, sx⟩ && prB ⟨hy, sy⟩)) ∧ Below (wx.heap.size + 1) (wx.alloc (.cells #[.int .i64 hx, .int .i64 sx, .int .i64 hy, .int .i64 sy] 46)) w' from fun wx => by
    have h := right_any (some ⟨wx.heap.size, 0, none⟩) 2 2 [⟨hx, sx⟩, ⟨hy, sy⟩] (wx.alloc (.cells #[.int .i64 hx, .int .i64 sx, .int .i64 hy, .int .i64 sy] 46)) rfl (by omega) (by have := Sl.two wx 46 hx sx hy sy; simpa using this)
    simpa using h)
  have HBO := Lib.hid (both_yes A A2 c c2 p r k r2 k2 L L2 W1 hPB hV h hk h2 hk2)
  have HC := Lib.hid (show ∀ x y : SwM, x.s = stripAt r L k → y.s = stripAt r2 L2 k2 → ∀ wx : World, SwIn wx x → SwIn wx y → Calls Tryz.prog 67 #[.agg (fSw x).toArray, .agg #[.int .i64 hx, .int .i64 sx], .slice (some ⟨wx.heap.size, 0, none⟩) 1 1, .agg #[.int .i64 hy, .int .i64 sy]] (wx.alloc (.cells (fSw y).toArray 98)) fun e w' => e = .returned (.bool (foulB (stripAt r L k) (stripAt r2 L2 k2) hx sx hy sy)) ∧ Below wx.heap.size (wx.alloc (.cells (fSw y).toArray 98)) w' from fun x y hxs hys wx hxi hyi => by
    have hb := (Below.refl wx.heap.size wx).alloc (Nat.le_refl _) (.cells (fSw y).toArray 98)
    have hs := Sl.new (f := fSw) (size := 13) wx 98 y (fSw y).toArray rfl
    have := foulSome_any x (some ⟨wx.heap.size, 0, none⟩) 1 1 hx sx hy sy [y] (wx.alloc (.cells (fSw y).toArray 98)) rfl (by omega) (prB_pr hX) (prB_pr hY) (hxi.below hb) (fun z hz => by rw [List.mem_singleton.1 hz]; exact hyi.below hb) (by simpa using hs)
    refine this.mono ?_
    rintro e w' ⟨rfl, hb2⟩
    exact ⟨by rw [hxs]; simp [hys], hb2.mono (by simp)⟩)
  rw [hX, hY] at HRT
  clear hb5 q1 q2 q3 q4 q5 hP hPB hV h hk h2 hk2 hX hY
  go_enter Tryz.func28, Tryz.ntmps28
  go_wp2_with fail
  refine (HBO.out).mono ?_
  rintro e w1 ⟨x, y, rfl, hxs, hys, hxi, hyi, hb2⟩
  have hc := HC.out x y hxs hys
  rw [show (fSw x).toArray = #[.int .i64 x.s.rail, .int .i64 x.s.seg, .int .i64 x.s.a.x, .int .i64 x.s.a.y, .int .i64 x.s.b.x, .int .i64 x.s.b.y, .int .i64 x.s.bg, .int .i64 x.s.en, .slice x.A x.s.bends.length x.c, .int .i64 (min x.s.a.x x.s.b.x), .int .i64 (min x.s.a.y x.s.b.y), .int .i64 (max x.s.a.x x.s.b.x), .int .i64 (max x.s.a.y x.s.b.y)] from rfl, show (fSw y).toArray = #[.int .i64 y.s.rail, .int .i64 y.s.seg, .int .i64 y.s.a.x, .int .i64 y.s.a.y, .int .i64 y.s.b.x, .int .i64 y.s.b.y, .int .i64 y.s.bg, .int .i64 y.s.en, .slice y.A y.s.bends.length y.c, .int .i64 (min y.s.a.x y.s.b.x), .int .i64 (min y.s.a.y y.s.b.y), .int .i64 (max y.s.a.x y.s.b.x), .int .i64 (max y.s.a.y y.s.b.y)] from rfl] at hc ⊢
  have z1 := hb2.size
  have hz1 := HZ1.out
  have hb2' := HB1.out.trans (hb2.mono HB1.out.size)
  have hb4' := ((hb2'.alloc (by omega) (.cells #[.int .i64 x.s.rail, .int .i64 x.s.seg, .int .i64 x.s.a.x, .int .i64 x.s.a.y, .int .i64 x.s.b.x, .int .i64 x.s.b.y, .int .i64 x.s.bg, .int .i64 x.s.en, .slice x.A x.s.bends.length x.c, .int .i64 (min x.s.a.x x.s.b.x), .int .i64 (min x.s.a.y x.s.b.y), .int .i64 (max x.s.a.x x.s.b.x), .int .i64 (max x.s.a.y x.s.b.y)] 98)).alloc (by simp; omega) (.cells #[.int .i64 y.s.rail, .int .i64 y.s.seg, .int .i64 y.s.a.x, .int .i64 y.s.a.y, .int .i64 y.s.b.x, .int .i64 y.s.b.y, .int .i64 y.s.bg, .int .i64 y.s.en, .slice y.A y.s.bends.length y.c, .int .i64 (min y.s.a.x y.s.b.x), .int .i64 (min y.s.a.y y.s.b.y), .int .i64 (max y.s.a.x y.s.b.x), .int .i64 (max y.s.a.y y.s.b.y)] 98))
  have hb41 := ((hb2.alloc (by omega) (.cells #[.int .i64 x.s.rail, .int .i64 x.s.seg, .int .i64 x.s.a.x, .int .i64 x.s.a.y, .int .i64 x.s.b.x, .int .i64 x.s.b.y, .int .i64 x.s.bg, .int .i64 x.s.en, .slice x.A x.s.bends.length x.c, .int .i64 (min x.s.a.x x.s.b.x), .int .i64 (min x.s.a.y x.s.b.y), .int .i64 (max x.s.a.x x.s.b.x), .int .i64 (max x.s.a.y x.s.b.y)] 98)).alloc (by simp; omega) (.cells #[.int .i64 y.s.rail, .int .i64 y.s.seg, .int .i64 y.s.a.x, .int .i64 y.s.a.y, .int .i64 y.s.b.x, .int .i64 y.s.b.y, .int .i64 y.s.bg, .int .i64 y.s.en, .slice y.A y.s.bends.length y.c, .int .i64 (min y.s.a.x y.s.b.x), .int .i64 (min y.s.a.y y.s.b.y), .int .i64 (max y.s.a.x y.s.b.x), .int .i64 (max y.s.a.y y.s.b.y)] 98))
  obtain ⟨r1, r2'⟩ := rows2 w1 #[.int .i64 x.s.rail, .int .i64 x.s.seg, .int .i64 x.s.a.x, .int .i64 x.s.a.y, .int .i64 x.s.b.x, .int .i64 x.s.b.y, .int .i64 x.s.bg, .int .i64 x.s.en, .slice x.A x.s.bends.length x.c, .int .i64 (min x.s.a.x x.s.b.x), .int .i64 (min x.s.a.y x.s.b.y), .int .i64 (max x.s.a.x x.s.b.x), .int .i64 (max x.s.a.y x.s.b.y)] #[.int .i64 y.s.rail, .int .i64 y.s.seg, .int .i64 y.s.a.x, .int .i64 y.s.a.y, .int .i64 y.s.b.x, .int .i64 y.s.b.y, .int .i64 y.s.bg, .int .i64 y.s.en, .slice y.A y.s.bends.length y.c, .int .i64 (min y.s.a.x y.s.b.x), .int .i64 (min y.s.a.y y.s.b.y), .int .i64 (max y.s.a.x y.s.b.x), .int .i64 (max y.s.a.y y.s.b.y)] 98 98
  have hwz : ((w1.alloc (.cells #[.int .i64 x.s.rail, .int .i64 x.s.seg, .int .i64 x.s.a.x, .int .i64 x.s.a.y, .int .i64 x.s.b.x, .int .i64 x.s.b.y, .int .i64 x.s.bg, .int .i64 x.s.en, .slice x.A x.s.bends.length x.c, .int .i64 (min x.s.a.x x.s.b.x), .int .i64 (min x.s.a.y x.s.b.y), .int .i64 (max x.s.a.x x.s.b.x), .int .i64 (max x.s.a.y x.s.b.y)] 98)).alloc (.cells #[.int .i64 y.s.rail, .int .i64 y.s.seg, .int .i64 y.s.a.x, .int .i64 y.s.a.y, .int .i64 y.s.b.x, .int .i64 y.s.b.y, .int .i64 y.s.bg, .int .i64 y.s.en, .slice y.A y.s.bends.length y.c, .int .i64 (min y.s.a.x y.s.b.x), .int .i64 (min y.s.a.y y.s.b.y), .int .i64 (max y.s.a.x y.s.b.x), .int .i64 (max y.s.a.y y.s.b.y)] 98)).heap.size = w1.heap.size + 2 := by simp
  have hbw := ((Below.refl _ w1).alloc (Nat.le_refl _) (.cells #[.int .i64 x.s.rail, .int .i64 x.s.seg, .int .i64 x.s.a.x, .int .i64 x.s.a.y, .int .i64 x.s.b.x, .int .i64 x.s.b.y, .int .i64 x.s.bg, .int .i64 x.s.en, .slice x.A x.s.bends.length x.c, .int .i64 (min x.s.a.x x.s.b.x), .int .i64 (min x.s.a.y x.s.b.y), .int .i64 (max x.s.a.x x.s.b.x), .int .i64 (max x.s.a.y x.s.b.y)] 98)).alloc (by simp) (.cells #[.int .i64 y.s.rail, .int .i64 y.s.seg, .int .i64 y.s.a.x, .int .i64 y.s.a.y, .int .i64 y.s.b.x, .int .i64 y.s.b.y, .int .i64 y.s.bg, .int .i64 y.s.en, .slice y.A y.s.bends.length y.c, .int .i64 (min y.s.a.x y.s.b.x), .int .i64 (min y.s.a.y y.s.b.y), .int .i64 (max y.s.a.x y.s.b.x), .int .i64 (max y.s.a.y y.s.b.y)] 98)
  obtain ⟨W3, hW3⟩ : ∃ z, (w1.alloc (.cells #[.int .i64 x.s.rail, .int .i64 x.s.seg, .int .i64 x.s.a.x, .int .i64 x.s.a.y, .int .i64 x.s.b.x, .int .i64 x.s.b.y, .int .i64 x.s.bg, .int .i64 x.s.en, .slice x.A x.s.bends.length x.c, .int .i64 (min x.s.a.x x.s.b.x), .int .i64 (min x.s.a.y x.s.b.y), .int .i64 (max x.s.a.x x.s.b.x), .int .i64 (max x.s.a.y x.s.b.y)] 98)).alloc (.cells #[.int .i64 y.s.rail, .int .i64 y.s.seg, .int .i64 y.s.a.x, .int .i64 y.s.a.y, .int .i64 y.s.b.x, .int .i64 y.s.b.y, .int .i64 y.s.bg, .int .i64 y.s.en, .slice y.A y.s.bends.length y.c, .int .i64 (min y.s.a.x y.s.b.x), .int .i64 (min y.s.a.y y.s.b.y), .int .i64 (max y.s.a.x y.s.b.x), .int .i64 (max y.s.a.y y.s.b.y)] 98) = z := ⟨_, rfl⟩
  rw [hW3] at hb4' hb41 r1 r2' hwz hbw
  have HB3 := Lib.hid hb4'
  have HWZ := Lib.hid hwz
  have HXI := Lib.hid (And.intro (hxi.below hbw) (hyi.below hbw))
  have HC3 := Lib.hid hc
  have HRX := Lib.hid (show ∀ wx, Below W3.heap.size W3 wx → Rw wx w1.heap.size 98 #[.int .i64 x.s.rail, .int .i64 x.s.seg, .int .i64 x.s.a.x, .int .i64 x.s.a.y, .int .i64 x.s.b.x, .int .i64 x.s.b.y, .int .i64 x.s.bg, .int .i64 x.s.en, .slice x.A x.s.bends.length x.c, .int .i64 (min x.s.a.x x.s.b.x), .int .i64 (min x.s.a.y x.s.b.y), .int .i64 (max x.s.a.x x.s.b.x), .int .i64 (max x.s.a.y x.s.b.y)] ∧ Rw wx (w1.heap.size + 1) 98 #[.int .i64 y.s.rail, .int .i64 y.s.seg, .int .i64 y.s.a.x, .int .i64 y.s.a.y, .int .i64 y.s.b.x, .int .i64 y.s.b.y, .int .i64 y.s.bg, .int .i64 y.s.en, .slice y.A y.s.bends.length y.c, .int .i64 (min y.s.a.x y.s.b.x), .int .i64 (min y.s.a.y y.s.b.y), .int .i64 (max y.s.a.x y.s.b.x), .int .i64 (max y.s.a.y y.s.b.y)] from fun wx h => ⟨r1.below h (by omega), r2'.below h (by omega)⟩)
  have HP3 := Lib.hid (show ∀ wx, Below W3.heap.size W3 wx → Rw wx (w.heap.size + 1 + 1) 46 #[.int .i64 hx, .int .i64 sx] ∧ Rw wx (w.heap.size + 1 + 1 + 1 + 1) 46 #[.int .i64 hy, .int .i64 sy] from fun wx h => HPR.out wx (hb41.trans (h.mono hb41.size)))
  obtain ⟨a1, a2⟩ := HP3.out _ (Below.refl _ _)
  have c0 := a1.cell 0; have c1 := a1.cell 1; have c2' := a2.cell 0; have c3 := a2.cell 1
  clear hb2 hb2' hb4' hb41 hxs hys hxi hyi hc a1 a2 e0 e1 e2 e3 e4 e5 r1 r2' hbw hwz
  go_wp2_with fail
  refine (HRT.out _).mono ?_
  rintro e w4 ⟨rfl, hb4⟩
  have hb34 : Below W3.heap.size W3 w4 := ((Below.refl _ W3).alloc (Nat.le_refl _) _).trans (hb4.mono (by omega))
  obtain ⟨r1, r2'⟩ := HRX.out _ hb34
  obtain ⟨a1, a2⟩ := HP3.out _ hb34
  have c0 := a1.cell 0; have c1 := a1.cell 1; have c2' := a2.cell 0; have c3 := a2.cell 1
  have d0 := r1.cell 0; have f0 := r2'.cell 0
  have d1 := r1.cell 1; have f1 := r2'.cell 1
  have d2 := r1.cell 2; have f2 := r2'.cell 2
  have d3 := r1.cell 3; have f3 := r2'.cell 3
  have d4 := r1.cell 4; have f4 := r2'.cell 4
  have d5 := r1.cell 5; have f5 := r2'.cell 5
  have d6 := r1.cell 6; have f6 := r2'.cell 6
  have d7 := r1.cell 7; have f7 := r2'.cell 7
  have d8 := r1.cell 8; have f8 := r2'.cell 8
  have d9 := r1.cell 9; have f9 := r2'.cell 9
  have d10 := r1.cell 10; have f10 := r2'.cell 10
  have d11 := r1.cell 11; have f11 := r2'.cell 11
  have d12 := r1.cell 12; have f12 := r2'.cell 12
  have lt : w.heap.size + 1 + 1 + 1 + 1 < w4.heap.size := by have h1 := hb34.size; have h2 := HWZ.out; have h3 := HZ1.out; omega
  have hl := HC3.out w4 (HXI.out.1.below hb34) (HXI.out.2.below hb34)
  have HL := Lib.hid hl
  have HB4 := Lib.hid (HB3.out.trans (hb34.mono HB3.out.size))
  clear hb4 hb34 r1 r2' a1 a2 hl
  go_wp2_with fail
  refine (HL.out).mono ?_
  rintro e w5 ⟨rfl, hb5⟩
  have HB5 := Lib.hid ((HB4.out.alloc HB4.out.size (.cells #[.int .i64 y.s.rail, .int .i64 y.s.seg, .int .i64 y.s.a.x, .int .i64 y.s.a.y, .int .i64 y.s.b.x, .int .i64 y.s.b.y, .int .i64 y.s.bg, .int .i64 y.s.en, .slice y.A y.s.bends.length y.c, .int .i64 (min y.s.a.x y.s.b.x), .int .i64 (min y.s.a.y y.s.b.y), .int .i64 (max y.s.a.x y.s.b.x), .int .i64 (max y.s.a.y y.s.b.y)] 98)).trans (hb5.mono HB4.out.size))
  clear hb5
  go_wp2
  go_ret2
  exact ⟨rfl, HB5.out⟩
end Go.Proofs.YtekambdnmaompaaGreat.SW
