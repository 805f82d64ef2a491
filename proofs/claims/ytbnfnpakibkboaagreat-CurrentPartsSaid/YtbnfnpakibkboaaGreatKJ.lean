/- Texts C21 C22 C23 C24 C25 C26. -/
import Derived.Test.YtbnfnpakibkboaaGreatKH
import Derived.Test.YtbnfnpakibkboaaGreatJQ
import Derived.Test.YtbnfnpakibkboaaGreatKI
import Derived.Test.YtbnfnpakibkboaaGreatKG
import Derived.Test.YtbnfnpakibkboaaGreatKFa
namespace Go.Proofs.YtbnfnpakibkboaaGreat
set_option linter.unusedVariables false
set_option linter.unusedSimpArgs false

theorem range_but (n : Nat) : (List.range (n + 1)).filter (fun c => c != n) = List.range n := by
  rw [List.range_succ, List.filter_append]
  have h1 : (List.range n).filter (fun c => c != n) = List.range n := List.filter_eq_self.2 (fun c hc => by have := List.mem_range.1 hc; simp; omega)
  rw [h1]; simp
theorem sum_le_one {gs : List Fe} (hn : gs.Pairwise (fun f g => f.k ≠ g.k)) (i : Nat) (F : Fe → Int) (M : Int) (hM : 0 ≤ M) (h : ∀ f ∈ gs, 0 ≤ F f ∧ F f ≤ M) :
    0 ≤ sumL gs (fun f => if f.k = i then F f else 0) ∧ sumL gs (fun f => if f.k = i then F f else 0) ≤ M := by
  induction gs with
  | nil => simp [sumL]; exact hM
  | cons g gs ih =>
    rw [List.pairwise_cons] at hn
    rw [sumL_cons]
    have h1 := h g (by simp)
    have h2 := ih hn.2 (fun f hf => h f (by simp [hf]))
    by_cases e : g.k = i
    · rw [if_pos e, sumL_zero gs (fun f hf => if_neg (fun e2 => hn.1 f hf (by rw [e, e2])))]; omega
    · rw [if_neg e]; omega
theorem fsum_bd {n : Nat} {gs : List Fe} (h : FeOk n gs) (i : Nat) : 0 ≤ fsum gs i ∧ fsum gs i ≤ 4 :=
  sum_le_one h.nd i (fun f => f.siem) 4 (by decide) (fun f hf => by obtain ⟨_, _, _, a, b⟩ := h.f f hf; omega)
theorem fvol_bd {n : Nat} {gs : List Fe} (h : FeOk n gs) (i : Nat) : 0 ≤ fvol gs i ∧ fvol gs i ≤ 4000 :=
  sum_le_one h.nd i (fun f => f.siem * f.volt) 4000 (by decide) (fun f hf => by
    obtain ⟨_, a, b, c, d⟩ := h.f f hf
    rcases (show f.siem = 1 ∨ f.siem = 2 ∨ f.siem = 3 ∨ f.siem = 4 by omega) with e | e | e | e <;> rw [e] <;> omega)
theorem augT_small {n : Nat} {ws : List Wi} (h : CirOk n ws) {tk : Nat → Int} (htk : ∀ j, -40 ≤ tk j ∧ tk j ≤ 40) {f : Fe} (hf : f.k < n ∧ 1 ≤ f.volt ∧ f.volt ≤ 1000) {i : Nat} (hi : i < n) : SmR n n (augT n ws tk f i) := by
  unfold SmR
  rw [range_but]
  unfold absL
  by_cases e : i = f.k
  · refine ⟨?_, ?_⟩
    · have h1 := sum_dl1 n f.k
      have h2 : sumL (List.range n) (fun c => ((augT n ws tk f i c).natAbs : Int)) = sumL (List.range n) (fun j => dl j f.k) := sumL_congr (fun c hc => by
        unfold augT; rw [if_pos e, if_neg (by have := List.mem_range.1 hc; omega)]; unfold dl; split <;> rfl)
      rw [h2]; omega
    · unfold augT; rw [if_pos e, if_pos rfl]; omega
  · refine ⟨?_, ?_⟩
    · have h1 := lapl_abs h hi
      unfold absL at h1
      have h2 : sumL (List.range n) (fun c => ((augT n ws tk f i c).natAbs : Int)) = sumL (List.range n) (fun c => ((lapl ws i c).natAbs : Int)) := sumL_congr (fun c hc => by
        unfold augT; rw [if_neg e, if_neg (by have := List.mem_range.1 hc; omega)])
      rw [h2]; omega
    · unfold augT; rw [if_neg e, if_pos rfl]; have := htk i; omega
theorem augF_small {n : Nat} {ws : List Wi} (h : CirOk n ws) {tk : Nat → Int} (htk : ∀ j, -40 ≤ tk j ∧ tk j ≤ 40) {gs : List Fe} (hg : FeOk n gs) {i : Nat} (hi : i < n) : SmR n n (augF n ws tk gs i) := by
  unfold SmR
  rw [range_but]
  unfold absL
  refine ⟨?_, ?_⟩
  · have h1 := lapl_abs h hi
    unfold absL at h1
    have h3 := fsum_bd hg i
    have h4 := sum_dl1 n i
    have h2 : sumL (List.range n) (fun c => ((augF n ws tk gs i c).natAbs : Int)) ≤ sumL (List.range n) (fun c => ((lapl ws i c).natAbs : Int) + dl c i * fsum gs i) := sumL_le (fun c hc => by
      unfold augF; rw [if_neg (by have := List.mem_range.1 hc; omega)]
      unfold dl
      by_cases e : i = c
      · rw [if_pos e, if_pos e.symm]; omega
      · rw [if_neg e, if_neg (Ne.symm e)]; omega)
    rw [sumL_add, sumL_mul_right] at h2
    have h5 : sumL (List.range n) (fun c => dl c i) * fsum gs i ≤ 1 * 4 := Int.mul_le_mul h4.1 h3.2 h3.1 (by decide)
    omega
  · unfold augF; rw [if_pos rfl]; have := htk i; have := fvol_bd hg i; omega
/-- the voltages' numbers are within bounds -/
theorem aug_bd {n : Nat} {A : Nat → Nat → Int} (hn : n ≤ 10) (hA : ∀ i, i < n → SmR n n (A i)) : (∀ k, k < n → -430000000000000000 ≤ cramN A n k ∧ cramN A n k ≤ 430000000000000000) ∧ -300000000000000 ≤ cramD A n ∧ cramD A n ≤ 300000000000000 := by
  have hr : ((List.range n).map A).length ≤ 10 := by simp; exact hn
  have hm : ∀ ρ ∈ (List.range n).map A, SmR n n ρ := fun ρ h => by obtain ⟨i, hi, rfl⟩ := List.mem_map.1 h; exact hA i (List.mem_range.1 hi)
  refine ⟨fun k hk => ?_, ?_⟩
  · have h1 := det_small _ n n hr ((List.range (n + 1)).eraseIdx k) (List.eraseIdx_sublist ..) hm
    unfold cramN
    have h2 : (((-1 : Int) ^ (n - 1 - k)) = 1 ∨ ((-1 : Int) ^ (n - 1 - k)) = -1) := by
      generalize n - 1 - k = e
      induction e with
      | zero => left; rfl
      | succ e ih => rw [Int.pow_succ]; rcases ih with q | q <;> rw [q] <;> simp
    generalize det ((List.range n).map A) ((List.range (n + 1)).eraseIdx k) = x at h1 ⊢
    rcases h2 with q | q <;> rw [q] <;> (split at h1 <;> omega)
  · have h1 := det_small _ n n hr (List.range n) (List.range_sublist.2 (by omega)) hm
    rw [if_neg (by simp)] at h1
    unfold cramD
    omega
end Go.Proofs.YtbnfnpakibkboaaGreat

namespace Go.Proofs.YtbnfnpakibkboaaGreat
set_option linter.unusedVariables false
set_option linter.unusedSimpArgs false
open Go.RowKit

def feW (ns : List Nat) (x : Fv) : Fe := ⟨(nI ns).idxOf x.pl, x.volts, x.siem⟩
/-- a solution in memory, or none -/
def SolAt (w : World) (base n : Nat) (ns : List Nat) (on : List Fv) (so : Sc) : Option ((Nat → Int) × Int) → Value → Prop
  | some (v, d), val => ∃ (A1 A2 : Option Addr) (c1 c2 : Nat), val = .agg #[.slice A1 n c1, .slice A2 so.n c2, .int .i64 d] ∧ Own w base 3 1 fI (.slice A1 n c1) ((List.range n).map v) ∧ Own w base 3 1 fI (.slice A2 so.n c2) (on.map (ampZ ns v d))
  | none, val => val = .agg #[.slice none 0 0, .slice none 0 0, .int .i64 0]
/-- a circuit in memory whose numbers are right -/
structure CirAt (w : World) (A1 : Option Addr) (n : Nat) (s2 so : Sc) (Ak : Option Addr) (ns : List Nat) (ws : List Wv) (on : List Fv) (tk : Nat → Int) : Prop where
  n10 : n ≤ 10
  ln : ns.length = n
  lw : ws.length = s2.n
  lw2 : s2.n ≤ 1000
  lo : on.length = so.n
  lo2 : so.n ≤ 1000
  N : Sl w w.heap.size 1 CI A1 (nI ns)
  W : Sl w w.heap.size 4 CW s2.A ws
  O : Sl w w.heap.size 4 CF so.A on
  T : Sl w w.heap.size 1 CI Ak ((List.range n).map tk)
  htk : ∀ j, -40 ≤ tk j ∧ tk j ≤ 40
  hws : ∀ x ∈ ws, x.a ∈ nI ns ∧ x.b ∈ nI ns ∧ x.a ≠ x.b ∧ 1 ≤ x.s ∧ x.s ≤ 4
  hon : ∀ x ∈ on, x.pl ∈ nI ns ∧ 1 ≤ x.volts ∧ x.volts ≤ 1000 ∧ 1 ≤ x.siem ∧ x.siem ≤ 4
  cir : CirOk n (wiL ns ws)
  fe : FeOk n (on.map (feW ns))
theorem CirAt.below {w w' : World} {A1 : Option Addr} {n : Nat} {s2 so : Sc} {Ak : Option Addr} {ns : List Nat} {ws : List Wv} {on : List Fv} {tk : Nat → Int} (h : CirAt w A1 n s2 so Ak ns ws on tk) (hb : Below w.heap.size w w') : CirAt w' A1 n s2 so Ak ns ws on tk :=
  ⟨h.n10, h.ln, h.lw, h.lw2, h.lo, h.lo2, (h.N.below hb).more (fun _ _ h => h) hb.size, (h.W.below hb).more (fun _ _ h => h) hb.size, (h.O.below hb).more (fun _ _ h => h) hb.size, (h.T.below hb).more (fun _ _ h => h) hb.size, h.htk, h.hws, h.hon, h.cir, h.fe⟩
def FlI (A1 : Option Addr) (n c1 : Nat) (s2 s3 so : Sc) (Ak : Option Addr) (ck : Nat) (ns : List Nat) (ws : List Wv) (on : List Fv) (tk : Nat → Int) (w : World) (i : Nat) (wr : World) : Prop :=
  floatZ n (wiL ns ws) tk (on.map (feW ns)) ((on.drop i).map (feW ns)) = floatZ n (wiL ns ws) tk (on.map (feW ns)) (on.map (feW ns)) ∧ Rw wr w.heap.size 134 #[.slice A1 n c1, .slice s2.A s2.n s2.c, .slice s3.A s3.n s3.c, .slice so.A so.n so.c, .slice Ak n ck] ∧ Rw wr (w.heap.size + 1) 136 #[.slice none 0 0, .slice none 0 0, .int .i64 0] ∧ Below w.heap.size w wr
set_option maxRecDepth 100000 in
set_option maxHeartbeats 8000000 in
theorem float_any (A1 : Option Addr) (n c1 : Nat) (s2 s3 so : Sc) (Ak : Option Addr) (ck : Nat) (ns : List Nat) (ws : List Wv) (on : List Fv) (tk : Nat → Int) (w : World) (hC : CirAt w A1 n s2 so Ak ns ws on tk) :
    Calls Tryz.prog 134 #[.agg #[.slice A1 n c1, .slice s2.A s2.n s2.c, .slice s3.A s3.n s3.c, .slice so.A so.n so.c, .slice Ak n ck]] w fun e w' => ∃ val, e = .returned (.tuple #[val, .bool (floatZ n (wiL ns ws) tk (on.map (feW ns)) (on.map (feW ns))).isSome]) ∧ SolAt w' w.heap.size n ns on so (floatZ n (wiL ns ws) tk (on.map (feW ns)) (on.map (feW ns))) val ∧ Below w.heap.size w w' := by
  have hb1 := ((Below.refl w.heap.size w).alloc (Nat.le_refl _) (.cells #[.slice A1 n c1, .slice s2.A s2.n s2.c, .slice s3.A s3.n s3.c, .slice so.A so.n so.c, .slice Ak n ck] 134)).alloc (by simp) (.cells #[.slice none 0 0, .slice none 0 0, .int .i64 0] 136)
  have q0 : Rw ((w.alloc (.cells #[.slice A1 n c1, .slice s2.A s2.n s2.c, .slice s3.A s3.n s3.c, .slice so.A so.n so.c, .slice Ak n ck] 134)).alloc (.cells #[.slice none 0 0, .slice none 0 0, .int .i64 0] 136)) w.heap.size 134 #[.slice A1 n c1, .slice s2.A s2.n s2.c, .slice s3.A s3.n s3.c, .slice so.A so.n so.c, .slice Ak n ck] := (Rw.new w #[.slice A1 n c1, .slice s2.A s2.n s2.c, .slice s3.A s3.n s3.c, .slice so.A so.n so.c, .slice Ak n ck] 134).alloc _
  have q1 : Rw ((w.alloc (.cells #[.slice A1 n c1, .slice s2.A s2.n s2.c, .slice s3.A s3.n s3.c, .slice so.A so.n so.c, .slice Ak n ck] 134)).alloc (.cells #[.slice none 0 0, .slice none 0 0, .int .i64 0] 136)) (w.heap.size + 1) 136 #[.slice none 0 0, .slice none 0 0, .int .i64 0] := by
    have := Rw.new (w.alloc (.cells #[.slice A1 n c1, .slice s2.A s2.n s2.c, .slice s3.A s3.n s3.c, .slice so.A so.n so.c, .slice Ak n ck] 134)) #[.slice none 0 0, .slice none 0 0, .int .i64 0] 136; rwa [World.size_alloc] at this
  have e3 := q0.cell 3
  obtain ⟨W1, hW1⟩ : ∃ z, (w.alloc (.cells #[.slice A1 n c1, .slice s2.A s2.n s2.c, .slice s3.A s3.n s3.c, .slice so.A so.n so.c, .slice Ak n ck] 134)).alloc (.cells #[.slice none 0 0, .slice none 0 0, .int .i64 0] 136) = z := ⟨_, rfl⟩
  rw [hW1] at hb1 q0 q1 e3
  have HI1 := Lib.hid (show FlI A1 n c1 s2 s3 so Ak ck ns ws on tk w 0 W1 from ⟨by rw [List.drop_zero], q0, q1, hb1⟩)
  have HC := Lib.hid hC
  have hso := hC.lo2
  clear hb1 q0 q1 hC
  go_enter Tryz.func134, Tryz.ntmps134
  go_wp2
  clear e3
  go_loopw [12] (fun s12 wr => ∃ (i : Nat), i ≤ so.n ∧ s12 = .int .i64 (i : Int) ∧ FlI A1 n c1 s2 s3 so Ak ck ns ws on tk w i wr) (fun s12 _ => so.n - (intOf s12).toNat)
  case atStart => exact ⟨0, Nat.zero_le _, rfl, HI1.out⟩
  case round =>
    obtain ⟨i, hi, rfl, hfl⟩ := hrel
    by_cases hin : i < so.n
    · have hii : (i : Int) < (so.n : Int) := by omega
      have hi0 : (0 : Int) ≤ (i : Int) := by omega
      have hil : i < on.length := by have := HC.out.lo; omega
      obtain ⟨hf0, hr0, hr1, hbr⟩ := hfl
      obtain ⟨b, o, hsa, gb, c0, c1', c2, c3⟩ := feed_at (HC.out.O.below hbr) hil
      obtain ⟨x, hxx⟩ : ∃ g, on[i] = g := ⟨_, rfl⟩
      rw [hxx] at c0 c1' c2 c3
      have hxm : x ∈ on := by rw [← hxx]; exact List.getElem_mem hil
      have hdr : on.drop i = x :: on.drop (i + 1) := by rw [List.drop_eq_getElem_cons hil, hxx]
      obtain ⟨hx1, hx2, hx3, hx4, hx5⟩ := HC.out.hon x hxm
      have hkl := List.idxOf_lt_length_iff.2 hx1
      have hnl : (nI ns).length = n := by unfold nI; rw [List.length_map, HC.out.ln]
      rw [hnl] at hkl
      have hix : ixI (nI ns) x.pl = ((nI ns).idxOf x.pl : Int) := by unfold ixI; rw [if_pos hx1]
      obtain ⟨kk, hkk⟩ : ∃ k, (nI ns).idxOf x.pl = k := ⟨_, rfl⟩
      rw [hkk] at hkl hix
      have HKL := Lib.hid hkl; have HKK := Lib.hid hkk
      have HDR := Lib.hid hdr; have HF0 := Lib.hid hf0; have HR0 := Lib.hid hr0; have HR1 := Lib.hid hr1; have HBR := Lib.hid hbr; have HI := Lib.hid hin; have HSA := Lib.hid hsa; have HXB := Lib.hid (And.intro hx2 hx3)
      have HGB := Lib.hid gb; have HX1 := Lib.hid c1'
      have HIX := Lib.hid (show ∀ wx, Below wr.heap.size wr wx → Calls Tryz.prog 95 #[.agg #[.slice A1 n c1, .slice s2.A s2.n s2.c, .slice s3.A s3.n s3.c, .slice (some ⟨b, o, none⟩) so.n so.c, .slice Ak n ck], .int .i64 x.pl] wx fun e w' => e = .returned (.int .i64 (kk : Int)) ∧ Below wx.heap.size wx w' from fun wx h => by
        have h' := hbr.trans (h.mono hbr.size)
        have hc' := HC.out.below h'
        rw [← hix, ← HSA.out]
        exact cindex_any ⟨A1, n, c1⟩ s2 s3 so ⟨Ak, n, ck⟩ ns x.pl wx hc'.ln (by have := hc'.n10; show n ≤ 1000000; omega) hc'.N)
      have HRS := Lib.hid (show ∀ wx, Below wr.heap.size wr wx → Rw wx w.heap.size 134 #[.slice A1 n c1, .slice s2.A s2.n s2.c, .slice s3.A s3.n s3.c, .slice (some ⟨b, o, none⟩) so.n so.c, .slice Ak n ck] ∧ wx.cell? ⟨b, o + i * 4, none⟩ = some (.int .i64 x.pl) from fun wx h => by
        rw [← HSA.out]
        exact ⟨HR0.out.below h HR0.out.lt, (World.cell?_of_block (a := ⟨b, o + i * 4, none⟩) (h.5 b (by have := hbr.size; omega))).trans c0⟩)
      clear hf0 hr0 hr1 hbr hsa gb c0 c1' c2 c3 hxx hxm hdr hx1 hx2 hx3 hx4 hx5 hkl hnl hix hkk hin hil
      go_upto_region 4 with (fail)
      have hbq : Below wr.heap.size wr wr.drew := (Below.refl _ _).drew
      have HS := Lib.hid (HRS.out _ hbq)
      refine wp_region_noPanic ?_
      refine wp_region_held_drew (S := fun wx => Rw wx (w.heap.size) 134 #[.slice A1 n c1, .slice s2.A s2.n s2.c, .slice s3.A s3.n s3.c, .slice (some ⟨b, o, none⟩) so.n so.c, .slice Ak n ck] ∧ wx.cell? ⟨b, o + i * 4, none⟩ = some (.int .i64 x.pl)) (by kernel_rfl) HS.out (fun _ => ?_)
      refine hTk (i := 0) (d := 15) (v := .agg #[.slice A1 n c1, .slice s2.A s2.n s2.c, .slice s3.A s3.n s3.c, .slice (some ⟨b, o, none⟩) so.n so.c, .slice Ak n ck]) rfl rfl (Or.inl ⟨rfl, by rintro W' ⟨r0, r1⟩; have ry0 := r0.cell; go_simp⟩) HS.out ?_
      simp only [Act.put, sB, sZ, sS]
      refine hTk (i := 1) (d := 16) (v := .pointer (some ⟨w.heap.size, 3, none⟩)) rfl rfl (Or.inl ⟨rfl, by rintro W' ⟨r0, r1⟩; have ry0 := r0.cell; go_simp⟩) HS.out ?_
      simp only [Act.put, sB, sZ, sS]
      refine hTk (i := 2) (d := 17) (v := .slice (some ⟨b, o, none⟩) so.n so.c) rfl rfl (Or.inl ⟨rfl, by rintro W' ⟨r0, r1⟩; have ry0 := r0.cell; go_simp⟩) HS.out ?_
      simp only [Act.put, sB, sZ, sS]
      refine hTk (i := 3) (d := 18) (v := .int .i64 (i : Int)) rfl rfl (Or.inl ⟨rfl, by rintro W' ⟨r0, r1⟩; have ry0 := r0.cell; go_simp⟩) HS.out ?_
      simp only [Act.put, sB, sZ, sS]
      refine hTk (i := 4) (d := 19) (v := .pointer (some ⟨b, o + i * 4, none⟩)) rfl rfl (Or.inl ⟨rfl, by rintro W' ⟨r0, r1⟩; have ry0 := r0.cell; go_simp⟩) HS.out ?_
      simp only [Act.put, sB, sZ, sS]
      refine hTk (i := 5) (d := 20) (v := .pointer (some ⟨b, o + i * 4, none⟩)) rfl rfl (Or.inl ⟨rfl, by rintro W' ⟨r0, r1⟩; have ry0 := r0.cell; go_simp⟩) HS.out ?_
      simp only [Act.put, sB, sZ, sS]
      refine hTk (i := 6) (d := 21) (v := .int .i64 x.pl) rfl rfl (Or.inl ⟨rfl, by rintro W' ⟨r0, r1⟩; have ry0 := r0.cell; go_simp⟩) HS.out ?_
      simp only [Act.put, sB, sZ, sS]
      refine wpAnyH_ready (rs := [7]) (by kernel_rfl) (by simp) ?_
      refine AllReadyH.cons rfl (fun K hK => ?_) AllReadyH.nil
      rw [if_pos (by rfl)]
      go_simp
      go_at_call 95
      (with_reducible refine (HIX.out _ hbq).mono ?_)
      rintro e wc0 ⟨rfl, hbn⟩
      replace hbq := hbq.trans (hbn.mono hbq.size)
      clear hbn
      have HS := Lib.hid (HRS.out _ hbq)
      refine hK.out _ _ HS.out (fun _ => ?_)
      clear hK K
      try simp only [Act.put, sB, sZ, sS]
      refine hTk (i := 8) (d := 5) (v := .int .i64 (kk : Int)) rfl rfl (Or.inl ⟨rfl, by rintro W' ⟨r0, r1⟩; have ry0 := r0.cell; go_simp⟩) HS.out ?_
      simp only [Act.put, sB, sZ, sS]
      refine wpAnyH_done (by kernel_rfl) ?_ _
      clear HS
      refine NoPanic.normal ?_
      obtain ⟨i0, hi0', hz0, hz1, hz2⟩ := info_parts info3
      have hn10 := HC.out.n10
      have hmk3 := fun W : World => run_mk (P := Tryz.prog) 40 3 i0 _ 1 Tryz.underlying40 hi0' hz0 hz1 ((n : Int) + 1) ((n : Int) + 1) (n + 1) (n + 1) (by simp) (by simp) (by omega) (by rw [hz2]; omega) (by omega) W
      have h4 := HRS.out wc0 hbq
      have m4 := h4.1.cell
      have HB4 := Lib.hid (HBR.out.trans (hbq.mono HBR.out.size))
      have hc4 := HC.out.below HB4.out
      have HROWS := Lib.hid (rows_any A1 s2.A Ak c1 s2.n s2.c ck s3 ⟨some ⟨b, o, none⟩, so.n, so.c⟩ ns ws tk n wc0 hc4.ln (by omega) hc4.lw hc4.lw2 hc4.N hc4.W hc4.T hc4.htk hc4.hws)
      have HR4 := Lib.hid h4.1
      have HRR := Lib.hid (HR1.out.below hbq HR1.out.lt)
      have HX4 := Lib.hid (show wc0.cell? ⟨b, o + i * 4 + 1, none⟩ = some (.int .i64 x.volts) from (World.cell?_of_block (a := ⟨b, o + i * 4 + 1, none⟩) (hbq.5 b (by have := HBR.out.size; have := HGB.out; omega))).trans HX1.out)
      clear h4 hbq hc4 HRS HIX
      go_wp2_with fail
      (with_reducible refine (HROWS.out).mono ?_)
      rintro e w5 ⟨rb, bs, rfl, hmx, hb5⟩
      have q5 := HR4.out.below hb5 HR4.out.lt
      have m5 := q5.cell
      have hkl := HKL.out
      have hki : (kk : Int) < (n : Int) := by omega
      have hk0 : (0 : Int) ≤ (kk : Int) := by omega
      have hma := hmx.alloc (.cells (madeCells #[.int .i64 0] (n + 1)) 3)
      have hrow := hma.row hkl hkl
      have hfr := hma.r.frozen kk
      have HMX := Lib.hid hmx; have HB5 := Lib.hid hb5; have HQ5 := Lib.hid q5
      clear hmx hb5 q5 m4 hma
      go_upto_region 7 with (fail)
      have hr1n := Rf.made1 w5 (.int .i64 0) (n + 1) 3
      have hm6 : Mx ((w5.alloc (.cells (madeCells #[.int .i64 0] (n + 1)) 3)).setCell ⟨rb, kk, none⟩ (.slice (some ⟨w5.heap.size, 0, none⟩) (n + 1) (n + 1))) wc0.heap.size rb (fun i => if i = kk then w5.heap.size else bs i) n (n + 1) n (fun i j => if i = kk then 0 else rwsF n (wiL ns ws) tk i j) := by
        have hmx := HMX.out
        have hkl' := HKL.out
        have hrlt := hmx.r.lt
        refine ⟨((hmx.r.alloc _).set kk _).congr (fun i hi => ?_), fun i hi => ?_, fun i j hi hj e => ?_, fun i hi => ?_, hmx.lo, fun i hi => ?_⟩
        · by_cases e : i = kk
          · subst e; simp [hkl']
          · simp [e, hi]
        · by_cases e : i = kk
          · rw [if_pos e]
            exact (hr1n.far kk _ (by omega)).congr (fun j _ => by rw [if_pos e])
          · rw [if_neg e]
            exact (((hmx.q i hi).alloc _).far kk _ (hmx.ne i hi)).congr (fun j _ => by rw [if_neg e])
        · have hb : ∀ i, i < n → bs i < w5.heap.size := fun i hi => (hmx.q i hi).lt
          replace e : (if i = kk then w5.heap.size else bs i) = (if j = kk then w5.heap.size else bs j) := e
          by_cases e1 : i = kk <;> by_cases e2 : j = kk
          · omega
          · rw [if_pos e1, if_neg e2] at e; have := hb j hj; omega
          · rw [if_neg e1, if_pos e2] at e; have := hb i hi; omega
          · rw [if_neg e1, if_neg e2] at e; exact hmx.inj i j hi hj e
        · show (if i = kk then w5.heap.size else bs i) ≠ rb
          split
          · omega
          · exact hmx.ne i hi
        · show wc0.heap.size ≤ (if i = kk then w5.heap.size else bs i)
          split
          · exact HB5.out.size
          · exact hmx.lo2 i hi
      have hb6 : Below wc0.heap.size wc0 ((w5.alloc (.cells (madeCells #[.int .i64 0] (n + 1)) 3)).setCell ⟨rb, kk, none⟩ (.slice (some ⟨w5.heap.size, 0, none⟩) (n + 1) (n + 1))) := (HB5.out.alloc HB5.out.size _).setCell (p := ⟨rb, kk, none⟩) HMX.out.lo _
      obtain ⟨W6, hW6⟩ : ∃ z, (w5.alloc (.cells (madeCells #[.int .i64 0] (n + 1)) 3)).setCell ⟨rb, kk, none⟩ (.slice (some ⟨w5.heap.size, 0, none⟩) (n + 1) (n + 1)) = z := ⟨_, rfl⟩
      rw [hW6] at hm6 hb6 ⊢
      have hmbw := HB5.out.size
      have hrlo := HMX.out.lo
      have hrlt := HMX.out.r.lt
      obtain ⟨mb, hmb⟩ : ∃ z, w5.heap.size = z := ⟨_, rfl⟩
      rw [hmb] at hm6 hmbw hrlt ⊢
      have hbz := HB4.out.size
      have hw5z := HR4.out.lt
      have hgb := HGB.out
      have n1 : ¬ rb = mb := by omega
      have n2 : ¬ w.heap.size = mb := by omega
      have n3 : ¬ b = mb := by omega
      have n4 : ¬ kk = n := by omega
      have n1' : ¬ mb = rb := by omega
      have n2' : ¬ mb = w.heap.size := by omega
      have n3' : ¬ mb = b := by omega
      have n4' : ¬ n = kk := by omega
      have hrow6 := hm6.row hkl hkl
      rw [if_pos rfl] at hrow6
      have hqk : Rf W6 mb 3 (n + 1) (fun j => .int .i64 0) := by
        have h : Rf W6 (if kk = kk then mb else bs kk) 3 (n + 1) (fun j => .int .i64 (if kk = kk then 0 else rwsF n (wiL ns ws) tk kk j)) := hm6.q kk hkl
        rw [if_pos rfl] at h
        exact h.congr (fun j _ => by rw [if_pos rfl])
      have ckk := hqk.cell (show kk < n + 1 by omega)
      have cnn := hqk.cell (show n < n + 1 by omega)
      have fk := hqk.frozen kk
      have fn := hqk.frozen n
      have q6 := HR4.out.below hb6 HR4.out.lt
      have m6 := q6.cell
      have x6 : W6.cell? ⟨b, o + i * 4 + 1, none⟩ = some (.int .i64 x.volts) := (World.cell?_of_block (a := ⟨b, o + i * 4 + 1, none⟩) (hb6.5 b (by omega))).trans HX4.out
      have hniI : (0 : Int) ≤ (n : Int) := by omega
      have hnn : (n : Int) < (n : Int) + 1 := by omega
      have hkn1 : (kk : Int) < (n : Int) + 1 := by omega
      have HM6 := Lib.hid hm6; have HB6 := Lib.hid hb6; have HN := Lib.hid (And.intro n1 (And.intro hmbw (And.intro hrlo hbz)))
      clear hrow hfr hm6 hb6 q6 hqk hW6 hmb hr1n hmk3 m5
      refine wp_region_noPanic ?_
      go_region
      refine NoPanic.normal ?_
      have hkl2 := HKL.out
      have hm8 : Mx ((W6.setCell ⟨mb, kk, none⟩ (.int .i64 1)).setCell ⟨mb, n, none⟩ (.int .i64 x.volts)).drew wc0.heap.size rb (fun i => if i = kk then mb else bs i) n (n + 1) n (augT n (wiL ns ws) tk (feW ns x)) := by
        have hm := HM6.out
        obtain ⟨bs6, hbs6⟩ : ∃ f, (fun i => if i = kk then mb else bs i) = f := ⟨_, rfl⟩
        have hbk : bs6 kk = mb := by rw [← hbs6]; simp
        rw [hbs6] at hm ⊢
        have h7 := hm.set hkl2 kk 1
        rw [hbk] at h7
        have h8 := h7.set hkl2 n x.volts
        rw [hbk] at h8
        refine (h8.drewN 1).congr (fun i j hi hj => ?_)
        have hfk : (feW ns x).k = kk := HKK.out
        have hfv : (feW ns x).volt = x.volts := rfl
        unfold augT rwsF dl
        rw [hfk, hfv]
        by_cases e1 : i = kk <;> by_cases e2 : j = n <;> by_cases e3 : j = kk <;> simp [e1, e2, e3] <;> omega
      have hb8 : Below wc0.heap.size wc0 ((W6.setCell ⟨mb, kk, none⟩ (.int .i64 1)).setCell ⟨mb, n, none⟩ (.int .i64 x.volts)).drew := ((HB6.out.setCell (p := ⟨mb, kk, none⟩) HN.out.2.1 _).setCell (p := ⟨mb, n, none⟩) HN.out.2.1 _).drew
      obtain ⟨W7, hW7⟩ : ∃ z, ((W6.setCell ⟨mb, kk, none⟩ (.int .i64 1)).setCell ⟨mb, n, none⟩ (.int .i64 x.volts)).drew = z := ⟨_, rfl⟩
      rw [hW7] at hm8 hb8 ⊢
      have hsmall : ∀ i, i < n → SmR n n (augT n (wiL ns ws) tk (feW ns x) i) := fun i hi => augT_small HC.out.cir HC.out.htk ⟨by show (nI ns).idxOf x.pl < n; rw [HKK.out]; exact hkl2, HXB.out.1, HXB.out.2⟩ hi
      have hbnd := aug_bd HC.out.n10 hsmall
      obtain ⟨A, hA⟩ : ∃ A, augT n (wiL ns ws) tk (feW ns x) = A := ⟨_, rfl⟩
      have HA := Lib.hid hA
      rw [hA] at hm8 hsmall hbnd
      have HCR := Lib.hid (cramer_any n n rb _ A HC.out.n10 hsmall wc0.heap.size W7 hm8)
      have HB8 := Lib.hid hb8
      have q7 := HR4.out.below hb8 HR4.out.lt
      have HBND := Lib.hid hbnd
      clear hm8 hb8 hW7 hsmall hA hbnd ckk cnn fk fn q7 m6 x6 hrow6 n1 n2 n3 n4 n1' n2' n3' n4' hniI hnn hkn1 hki hk0 hkl hkl2
      go_wp2_with fail
      (with_reducible refine (HCR.out).mono ?_)
      rintro e w8 ⟨Av, cv, rfl, hov, hb9⟩
      obtain ⟨d, hd⟩ : ∃ d, cramD A n = d := ⟨_, rfl⟩
      rw [hd] at HBND ⊢
      have HD := Lib.hid hd
      have HOV := Lib.hid hov
      have HB9 := Lib.hid (HB4.out.trans ((HB8.out.trans (hb9.mono HB8.out.size)).mono HB4.out.size))
      have HBC := Lib.hid (HB8.out.trans (hb9.mono HB8.out.size))
      clear hd hov hb9
      go_upto_region 9 with (fail)
      have hr9 := Rw.new w8 #[.slice Av n cv, .slice none 0 0, .int .i64 d] 136
      have hb9 := HB9.out.alloc HB9.out.size (.cells #[.slice Av n cv, .slice none 0 0, .int .i64 d] 136)
      have hbc9 := HBC.out.alloc HBC.out.size (.cells #[.slice Av n cv, .slice none 0 0, .int .i64 d] 136)
      have hov9 := HOV.out.alloc (.cells #[.slice Av n cv, .slice none 0 0, .int .i64 d] 136)
      have hov9l := (hov9.lower (base' := w.heap.size) (by have := HB4.out.size; have := HB8.out.size; omega))
      obtain ⟨W9, hW9⟩ : ∃ z, w8.alloc (.cells #[.slice Av n cv, .slice none 0 0, .int .i64 d] 136) = z := ⟨_, rfl⟩
      rw [hW9] at hr9 hb9 hbc9 hov9 hov9l ⊢
      obtain ⟨sb, hsb⟩ : ∃ z, w8.heap.size = z := ⟨_, rfl⟩
      rw [hsb] at hr9 ⊢
      have hvl : ((List.range n).map (cramN A n)).length = n := by simp
      have hV9 : Sl W9 W9.heap.size 1 CI Av ((List.range n).map (cramN A n)) := Own.sl (f := fI) (size := 1) (fun _ => rfl) hov9l (A := Av) (c := cv) (by rw [hvl])
      have q9 := HR4.out.below hbc9 HR4.out.lt
      have hz9 := HRR.out.below hbc9 HRR.out.lt
      have hc9 := HC.out.below hb9
      have HR9 := Lib.hid hr9; have HB9' := Lib.hid hb9; have HOV9 := Lib.hid hov9; have HV9 := Lib.hid hV9; have HQ9 := Lib.hid q9; have HZ9 := Lib.hid hz9; have HC9 := Lib.hid hc9
      have hcO := hc9.O
      rw [HSA.out] at hcO
      have HF := Lib.hid (filterF4_any (some ⟨b, o, none⟩) so.n so.c on (fun f => decide (cramN A n ((nI ns).idxOf f.pl) < f.volts * d)) sb w.heap.size W9 hc9.lo (by have := hc9.lo2; omega) hcO (fun wx hbx y hy => by
        have hcx := HC9.out.below hbx
        have hy5 := HC9.out.hon y hy
        have hdb := HBND.out.2
        have hyd : -9223372036854775808 ≤ y.volts * d ∧ y.volts * d ≤ 9223372036854775807 := by
          have h1 : (-300000000000000) * 1000 ≤ y.volts * d := by
            rcases Int.le_total 0 d with hp | hp
            · exact Int.le_trans (by decide) (Int.mul_nonneg (by omega) hp)
            · have := Int.mul_le_mul (show y.volts ≤ 1000 by omega) (show -d ≤ 300000000000000 by omega) (by omega) (by decide)
              rw [Int.mul_neg] at this; omega
          have h2 : y.volts * d ≤ 1000 * 300000000000000 := by
            rcases Int.le_total 0 d with hp | hp
            · exact Int.mul_le_mul (by omega) (by omega) hp (by decide)
            · have := Int.mul_nonneg (show 0 ≤ y.volts by omega) (show 0 ≤ -d by omega)
              rw [Int.mul_neg] at this; omega
          omega
        exact clos148_any sb w.heap.size Av n cv (.slice none 0 0) d (cramN A n) ⟨A1, n, c1⟩ s2 s3 ⟨some ⟨b, o, none⟩, so.n, so.c⟩ ⟨Ak, n, ck⟩ ns y wx hcx.ln rfl (by have := hcx.n10; omega) hcx.N ((HV9.out.below hbx).more (fun _ _ h => h) hbx.size) (HR9.out.below hbx HR9.out.lt) (HQ9.out.below hbx HQ9.out.lt) hy5.1 hyd.1 hyd.2))
      have m9 := q9.cell
      clear hr9 hb9 hbc9 hov9 hov9l hvl hV9 q9 hz9 hc9 hcO hW9 hsb
      go_wp2_with fail
      (with_reducible refine (HF.out).mono ?_)
      rintro e w10 ⟨A2, c2, rfl, ho2, hb10⟩
      have hlz : (on.filter (fun f => decide (cramN A n ((nI ns).idxOf f.pl) < f.volts * d))).length ≤ 1000 := by have := List.length_filter_le (fun f => decide (cramN A n ((nI ns).idxOf f.pl) < f.volts * d)) on; have := HC9.out.lo; have := HC9.out.lo2; omega
      have hflt : ((on.map (feW ns)).filter (fun g => decide (cramN A n g.k < g.volt * cramD A n))).length = (on.filter (fun f => decide (cramN A n ((nI ns).idxOf f.pl) < f.volts * d))).length := by
        rw [List.filter_map, List.length_map, HD.out]; rfl
      obtain ⟨m, hm⟩ : ∃ m, (on.filter (fun f => decide (cramN A n ((nI ns).idxOf f.pl) < f.volts * d))).length = m := ⟨_, rfl⟩
      rw [hm] at hlz hflt
      rw [hm]
      have hfl0 := HF0.out
      rw [HDR.out, List.map_cons, floatZ, HA.out] at hfl0
      have HM := Lib.hid hflt
      have HB10 := Lib.hid (HB9'.out.trans (hb10.mono HB9'.out.size))
      have HB10' := Lib.hid hb10
      have HR10 := Lib.hid (HR9.out.below hb10 HR9.out.lt); have HQ10 := Lib.hid (HQ9.out.below hb10 HQ9.out.lt); have HZ10 := Lib.hid (HZ9.out.below hb10 HZ9.out.lt)
      by_cases hm0 : m = 0
      · subst hm0
        rw [if_pos HM.out, HD.out] at hfl0
        have HFL := Lib.hid hfl0
        have x0 := HR10.out.cell; have y0 := HQ10.out.cell
        have hc10 := HC.out.below HB10.out
        have hcO := hc10.O
        rw [HSA.out] at hcO
        have HWA := Lib.hid (withAmps_any Av n cv d (cramN A n) ⟨A1, n, c1⟩ s2 s3 ⟨some ⟨b, o, none⟩, so.n, so.c⟩ ⟨Ak, n, ck⟩ ns on w10 hc10.ln rfl (by have := hc10.n10; omega) hc10.lo hc10.lo2 hc10.N hcO ((HV9.out.below HB10'.out).more (fun _ _ h => h) HB10'.out.size) (fun y hy => by
            have hy5 := HC9.out.hon y hy
            have hdb := HBND.out.2
            have h1 : (-300000000000000) * 1000 ≤ y.volts * d := by
              rcases Int.le_total 0 d with hp | hp
              · exact Int.le_trans (by decide) (Int.mul_nonneg (by omega) hp)
              · have := Int.mul_le_mul (show y.volts ≤ 1000 by omega) (show -d ≤ 300000000000000 by omega) (by omega) (by decide)
                rw [Int.mul_neg] at this; omega
            have h2 : y.volts * d ≤ 1000 * 300000000000000 := by
              rcases Int.le_total 0 d with hp | hp
              · exact Int.mul_le_mul (by omega) (by omega) hp (by decide)
              · have := Int.mul_nonneg (show 0 ≤ y.volts by omega) (show 0 ≤ -d by omega)
                rw [Int.mul_neg] at this; omega
            exact ⟨hy5.1, by omega, by omega, by omega, by omega⟩) (fun k hk => by have := HBND.out.1 k hk; omega))
        clear hfl0 hlz hflt hm ho2 hb10 hc10 hcO m9
        go_wp2_with fail
        (with_reducible refine (HWA.out).mono ?_)
        rintro e w11 ⟨A3, c3, rfl, ho3, hb11⟩
        have z11 := HZ10.out.below hb11 HZ10.out.lt
        have zc := z11.cell; have zf := z11.frozen
        have hz0 := HB10.out.size
        have h3 := set3 (w := w11) (k := w.heap.size + 1) (v0 := .slice Av n cv) (v1 := .slice A3 so.n c3) (v2 := .int .i64 d)
        have HOE := Lib.hid (show Own (((w11.setCell ⟨w.heap.size + 1, 0, none⟩ (.slice Av n cv)).setCell ⟨w.heap.size + 1, 1, none⟩ (.slice A3 so.n c3)).setCell ⟨w.heap.size + 1, 2, none⟩ (.int .i64 d)) w.heap.size 3 1 fI (.slice A3 so.n c3) (on.map (ampZ ns (cramN A n) d)) from (ho3.of_blocks (fun k hk => h3.2.1 k (by have := (ho3.lt k hk).1; have := HZ10.out.lt; omega))).lower (by omega))
        have HOV2 := Lib.hid (show Own (((w11.setCell ⟨w.heap.size + 1, 0, none⟩ (.slice Av n cv)).setCell ⟨w.heap.size + 1, 1, none⟩ (.slice A3 so.n c3)).setCell ⟨w.heap.size + 1, 2, none⟩ (.int .i64 d)) w.heap.size 3 1 fI (.slice Av n cv) ((List.range n).map (cramN A n)) from by
          have h1 := (HOV9.out.below HB10'.out (Nat.le_refl _)).below hb11 (Nat.le_refl _)
          exact (h1.of_blocks (fun k hk => h3.2.1 k (by have := (h1.lt k hk).1; have := HB8.out.size; have := HRR.out.lt; omega))).lower (by have := HB8.out.size; have := HRR.out.lt; omega))
        have HBE := Lib.hid ((HB10.out.trans (hb11.mono HB10.out.size)).trans (h3.2.2 w.heap.size (by omega)))
        have HR3 := Lib.hid (h3.1 136 _ _ _ z11)
        clear h3 z11 ho3 hb11 x0 y0
        go_wp2
        (try simp only [Exit.inBlock, Exit.then])
        refine bodyPost_ret (res_ct rfl _ _ (w.heap.size + 1) 136 _ _ (.bool true) rfl rfl HR3.out Tryz.underlying136 rfl rfl) rfl ?_
        rw [← HFL.out]
        exact ⟨_, rfl, ⟨Av, A3, cv, c3, rfl, HOV2.out, HOE.out⟩, HBE.out⟩
      · rw [if_neg (by rw [HM.out]; exact hm0)] at hfl0
        have hmi : ¬ (m : Int) = 0 := by omega
        have HFN := Lib.hid (show FlI A1 n c1 s2 s3 so Ak ck ns ws on tk w (i + 1) w10 from ⟨hfl0, by rw [HSA.out]; exact HQ10.out, HZ10.out, HB10.out⟩)
        clear hfl0 hlz hflt hm ho2 hb10 m9
        go_wp2
        refine ⟨⟨i + 1, by have := HI.out; omega, by simp, HFN.out⟩, ?_⟩
        have := HI.out; simp [intOf] <;> omega
    · have hii : ¬ (i : Int) < (so.n : Int) := by omega
      obtain ⟨hf0, hr0, hr1, hbr⟩ := hfl
      have hie : on.drop i = [] := List.drop_of_length_le (by have := HC.out.lo; omega)
      rw [hie] at hf0
      have HF0 := Lib.hid (show floatZ n (wiL ns ws) tk (on.map (feW ns)) (on.map (feW ns)) = none from hf0.symm)
      have zc := hr1.cell; have zf := hr1.frozen
      have h3 := set3 (w := wr) (k := w.heap.size + 1) (v0 := .slice none 0 0) (v1 := .slice none 0 0) (v2 := .int .i64 0)
      have HBE := Lib.hid (hbr.trans (h3.2.2 w.heap.size (by omega)))
      have HR3 := Lib.hid (h3.1 136 _ _ _ hr1)
      clear h3 hf0 hr0 hr1 hbr hie hin hi
      go_wp2
      (try simp only [Exit.inBlock, Exit.then])
      refine bodyPost_ret (res_ct rfl _ _ (w.heap.size + 1) 136 _ _ (.bool false) rfl rfl HR3.out Tryz.underlying136 rfl rfl) rfl ?_
      rw [HF0.out]
      exact ⟨_, rfl, rfl, HBE.out⟩
end Go.Proofs.YtbnfnpakibkboaaGreat

namespace Go.Proofs.YtbnfnpakibkboaaGreat
set_option linter.unusedVariables false
set_option linter.unusedSimpArgs false
open Go.RowKit

theorem fsum_snoc (gs : List Fe) (f : Fe) (i : Nat) : fsum (gs ++ [f]) i = fsum gs i + (if f.k = i then f.siem else 0) := by unfold fsum; rw [sumL_append, sumL_cons, sumL_nil]; omega
theorem fvol_snoc (gs : List Fe) (f : Fe) (i : Nat) : fvol (gs ++ [f]) i = fvol gs i + (if f.k = i then f.siem * f.volt else 0) := by unfold fvol; rw [sumL_append, sumL_cons, sumL_nil]; omega
theorem augF_nil (n : Nat) (ws : List Wi) (tk : Nat → Int) (i j : Nat) : augF n ws tk [] i j = rwsF n ws tk i j := by
  unfold augF rwsF fvol fsum; simp [sumL]
theorem augF_snoc (n : Nat) (ws : List Wi) (tk : Nat → Int) (gs : List Fe) (f : Fe) (hf : f.k < n) (i j : Nat) :
    augF n ws tk (gs ++ [f]) i j = if i = f.k ∧ j = n then augF n ws tk gs f.k n + f.siem * f.volt else if i = f.k ∧ j = f.k then augF n ws tk gs f.k f.k + f.siem else augF n ws tk gs i j := by
  unfold augF
  rw [fsum_snoc, fvol_snoc]
  by_cases e1 : i = f.k
  · subst e1
    by_cases e2 : j = n
    · subst e2; simp; omega
    · by_cases e3 : j = f.k
      · subst e3; simp [e2]; omega
      · have e4 : ¬ f.k = j := fun h => e3 h.symm
        simp [e2, e3, e4]
  · by_cases e2 : j = n
    · subst e2; simp [e1, Ne.symm e1]
    · by_cases e3 : i = j
      · subst e3; simp [e1, e2, Ne.symm e1]
      · simp [e1, e2, e3]
def FdI (A1 : Option Addr) (n c1 : Nat) (s2 s3 so : Sc) (Ak : Option Addr) (ck : Nat) (ns : List Nat) (ws : List Wv) (on : List Fv) (tk : Nat → Int) (w : World) (i : Nat) (A : Option Addr) (m : Nat) (gl : List Fv) (wr : World) : Prop :=
  feedZ n (wiL ns ws) tk (so.n - i) (gl.map (feW ns)) = feedZ n (wiL ns ws) tk so.n (on.map (feW ns)) ∧ gl.length = m ∧ (∀ x ∈ gl, x ∈ on) ∧ FeOk n (gl.map (feW ns)) ∧ m ≤ so.n ∧ Sl wr wr.heap.size 4 CF A gl ∧ Rw wr w.heap.size 134 #[.slice A1 n c1, .slice s2.A s2.n s2.c, .slice s3.A s3.n s3.c, .slice so.A so.n so.c, .slice Ak n ck] ∧ Rw wr (w.heap.size + 1) 136 #[.slice none 0 0, .slice none 0 0, .int .i64 0] ∧ Below w.heap.size w wr
def FdJ (n : Nat) (ns : List Nat) (ws : List Wv) (tk : Nat → Int) (wr : World) (rb : Nat) (bs : Nat → Nat) (gl : List Fv) (k : Nat) (wq : World) : Prop :=
  Mx wq wr.heap.size rb bs n (n + 1) n (augF n (wiL ns ws) tk ((gl.take k).map (feW ns))) ∧ Below wr.heap.size wr wq
set_option maxRecDepth 100000 in
set_option maxHeartbeats 8000000 in
theorem feed_any (A1 : Option Addr) (n c1 : Nat) (s2 s3 so : Sc) (Ak : Option Addr) (ck : Nat) (ns : List Nat) (ws : List Wv) (on : List Fv) (tk : Nat → Int) (w : World) (hC : CirAt w A1 n s2 so Ak ns ws on tk) :
    Calls Tryz.prog 135 #[.agg #[.slice A1 n c1, .slice s2.A s2.n s2.c, .slice s3.A s3.n s3.c, .slice so.A so.n so.c, .slice Ak n ck]] w fun e w' => ∃ val, e = .returned (.tuple #[val, .bool (feedZ n (wiL ns ws) tk so.n (on.map (feW ns))).isSome]) ∧ SolAt w' w.heap.size n ns on so (feedZ n (wiL ns ws) tk so.n (on.map (feW ns))) val ∧ Below w.heap.size w w' := by
  have hb1 := ((Below.refl w.heap.size w).alloc (Nat.le_refl _) (.cells #[.slice A1 n c1, .slice s2.A s2.n s2.c, .slice s3.A s3.n s3.c, .slice so.A so.n so.c, .slice Ak n ck] 134)).alloc (by simp) (.cells #[.slice none 0 0, .slice none 0 0, .int .i64 0] 136)
  have q0 : Rw ((w.alloc (.cells #[.slice A1 n c1, .slice s2.A s2.n s2.c, .slice s3.A s3.n s3.c, .slice so.A so.n so.c, .slice Ak n ck] 134)).alloc (.cells #[.slice none 0 0, .slice none 0 0, .int .i64 0] 136)) w.heap.size 134 #[.slice A1 n c1, .slice s2.A s2.n s2.c, .slice s3.A s3.n s3.c, .slice so.A so.n so.c, .slice Ak n ck] := (Rw.new w #[.slice A1 n c1, .slice s2.A s2.n s2.c, .slice s3.A s3.n s3.c, .slice so.A so.n so.c, .slice Ak n ck] 134).alloc _
  have q1 : Rw ((w.alloc (.cells #[.slice A1 n c1, .slice s2.A s2.n s2.c, .slice s3.A s3.n s3.c, .slice so.A so.n so.c, .slice Ak n ck] 134)).alloc (.cells #[.slice none 0 0, .slice none 0 0, .int .i64 0] 136)) (w.heap.size + 1) 136 #[.slice none 0 0, .slice none 0 0, .int .i64 0] := by
    have := Rw.new (w.alloc (.cells #[.slice A1 n c1, .slice s2.A s2.n s2.c, .slice s3.A s3.n s3.c, .slice so.A so.n so.c, .slice Ak n ck] 134)) #[.slice none 0 0, .slice none 0 0, .int .i64 0] 136; rwa [World.size_alloc] at this
  have e3 := q0.cell 3
  obtain ⟨W1, hW1⟩ : ∃ z, (w.alloc (.cells #[.slice A1 n c1, .slice s2.A s2.n s2.c, .slice s3.A s3.n s3.c, .slice so.A so.n so.c, .slice Ak n ck] 134)).alloc (.cells #[.slice none 0 0, .slice none 0 0, .int .i64 0] 136) = z := ⟨_, rfl⟩
  rw [hW1] at hb1 q0 q1 e3
  have HI1 := Lib.hid (show FdI A1 n c1 s2 s3 so Ak ck ns ws on tk w 0 so.A so.n on W1 from ⟨rfl, hC.lo, fun _ h => h, hC.fe, Nat.le_refl _, (hC.O.below hb1).more (fun _ _ h => h) hb1.size, q0, q1, hb1⟩)
  have HC := Lib.hid hC
  have hso := hC.lo2
  clear hb1 q0 q1 hC
  go_enter Tryz.func135, Tryz.ntmps135
  go_wp2
  clear e3
  go_loopw [4, 16] (fun s4 s16 wr => ∃ (i : Nat) (A : Option Addr) (m c : Nat) (gl : List Fv), i ≤ so.n ∧ s16 = .int .i64 (i : Int) ∧ s4 = .slice A m c ∧ FdI A1 n c1 s2 s3 so Ak ck ns ws on tk w i A m gl wr) (fun _ s16 _ => so.n - (intOf s16).toNat)
  case atStart => exact ⟨0, so.A, so.n, so.c, on, Nat.zero_le _, rfl, rfl, HI1.out⟩
  case round =>
    obtain ⟨wo, hwo⟩ : ∃ z, z = wr := ⟨_, rfl⟩
    subst hwo
    obtain ⟨i, Ag, m, c, gl, hi, rfl, rfl, hfl⟩ := hrel
    by_cases hin : i < so.n
    · have hii : (i : Int) < (so.n : Int) := by omega
      have hi0 : (0 : Int) ≤ (i : Int) := by omega
      obtain ⟨hf0, hgl, hgm, hfe, hms, hS, hr0, hr1, hbr⟩ := hfl
      have HF0 := Lib.hid hf0; have HGL := Lib.hid hgl; have HGM := Lib.hid hgm; have HFE := Lib.hid hfe; have HS := Lib.hid hS; have HR0 := Lib.hid hr0; have HR1 := Lib.hid hr1; have HBR := Lib.hid hbr; have HI := Lib.hid hin; have HMS := Lib.hid hms
      have hc4 := HC.out.below hbr
      have hn10 := HC.out.n10
      have m4 := hr0.cell
      have HROWS := Lib.hid (rows_any A1 s2.A Ak c1 s2.n s2.c ck s3 ⟨so.A, so.n, so.c⟩ ns ws tk n wo hc4.ln (by omega) hc4.lw hc4.lw2 hc4.N hc4.W hc4.T hc4.htk hc4.hws)
      clear hf0 hgl hgm hfe hS hr0 hr1 hbr hin hc4
      go_wp2_with fail
      (with_reducible refine (HROWS.out).mono ?_)
      rintro e w5 ⟨rb, bs, rfl, hmx, hb5⟩
      have HJ0 := Lib.hid (show FdJ n ns ws tk wo rb bs gl 0 w5 from ⟨hmx.congr (fun i j _ _ => by rw [List.take_zero, List.map_nil, augF_nil]), hb5⟩)
      clear hmx hb5 m4
      go_wp2
      go_loopw [22] (fun s22 wq => ∃ (k : Nat), k ≤ m ∧ s22 = .int .i64 (k : Int) ∧ FdJ n ns ws tk wo rb bs gl k wq) (fun s22 _ => m - (intOf s22).toNat)
      case atStart => exact ⟨0, Nat.zero_le _, rfl, HJ0.out⟩
      case round =>
        obtain ⟨wq, hwq⟩ : ∃ z, z = wr := ⟨_, rfl⟩
        subst hwq
        obtain ⟨k, hk, rfl, hfj⟩ := hrel
        by_cases hkm : k < m
        · have hkI : (k : Int) < (m : Int) := by omega
          have hkI0 : (0 : Int) ≤ (k : Int) := by omega
          have hkg : k < gl.length := by have := HGL.out; omega
          obtain ⟨hmx, hbq⟩ := hfj
          obtain ⟨b, o, hA, gb, c0, c1', c2, c3⟩ := feed_at (HS.out.below hbq) hkg
          obtain ⟨x, hxx⟩ : ∃ g, gl[k] = g := ⟨_, rfl⟩
          rw [hxx] at c0 c1' c2 c3
          have hxm : x ∈ gl := by rw [← hxx]; exact List.getElem_mem hkg
          have HTK := Lib.hid (show (gl.take (k + 1)).map (feW ns) = (gl.take k).map (feW ns) ++ [feW ns x] from by rw [List.take_succ_eq_append_getElem hkg, List.map_append, hxx]; rfl)
          obtain ⟨hx1, hx2, hx3, hx4, hx5⟩ := HC.out.hon x (HGM.out x hxm)
          have hkl := List.idxOf_lt_length_iff.2 hx1
          have hnl : (nI ns).length = n := by unfold nI; rw [List.length_map, HC.out.ln]
          rw [hnl] at hkl
          have hix : ixI (nI ns) x.pl = ((nI ns).idxOf x.pl : Int) := by unfold ixI; rw [if_pos hx1]
          obtain ⟨kk, hkk⟩ : ∃ k, (nI ns).idxOf x.pl = k := ⟨_, rfl⟩
          rw [hkk] at hkl hix
          have hfeT : FeOk n ((gl.take k).map (feW ns)) := by
            have hsub : ((gl.take k).map (feW ns)).Sublist (gl.map (feW ns)) := (List.take_sublist k gl).map _
            exact ⟨fun f hf => HFE.out.f f (hsub.subset hf), HFE.out.nd.sublist hsub⟩
          have hsm : ∀ i, i < n → SmR n n (augF n (wiL ns ws) tk ((gl.take k).map (feW ns)) i) := fun i hi => augF_small HC.out.cir HC.out.htk hfeT hi
          have hbk := cell_bd hsm hkl (show kk < n + 1 by omega)
          have hbn := cell_bd hsm hkl (show n < n + 1 by omega)
          obtain ⟨F, hF⟩ : ∃ F, augF n (wiL ns ws) tk ((gl.take k).map (feW ns)) = F := ⟨_, rfl⟩
          rw [hF] at hmx hbk hbn
          have HF := Lib.hid hF; have HKL := Lib.hid hkl; have HKK := Lib.hid hkk
          obtain ⟨vk, hvk⟩ : ∃ g, F kk kk = g := ⟨_, rfl⟩
          obtain ⟨vn, hvn⟩ : ∃ g, F kk n = g := ⟨_, rfl⟩
          rw [hvk] at hbk
          rw [hvn] at hbn
          have HVK := Lib.hid hvk; have HVN := Lib.hid hvn
          have hsv : 0 ≤ x.siem * x.volts ∧ x.siem * x.volts ≤ 4000 := by
            rcases (show x.siem = 1 ∨ x.siem = 2 ∨ x.siem = 3 ∨ x.siem = 4 by omega) with e | e | e | e <;> rw [e] <;> omega
          have hw1 : IntKind.i64.wrap (vk + x.siem) = vk + x.siem := by rw [IntKind.wrap_i64]; omega
          have hw2 : IntKind.i64.wrap (x.siem * x.volts) = x.siem * x.volts := by rw [IntKind.wrap_i64]; omega
          have hw3 : IntKind.i64.wrap (vn + x.siem * x.volts) = vn + x.siem * x.volts := by rw [IntKind.wrap_i64]; omega
          have hb6 := hbq.alloc hbq.size (.cells #[.int .i64 x.pl, .int .i64 x.volts, .int .i64 x.siem, .int .i64 x.limit] 58)
          have hm6 := hmx.alloc (.cells #[.int .i64 x.pl, .int .i64 x.volts, .int .i64 x.siem, .int .i64 x.limit] 58)
          have q6 := Rw.new wq #[.int .i64 x.pl, .int .i64 x.volts, .int .i64 x.siem, .int .i64 x.limit] 58
          have HZQ := Lib.hid hbq.size
          have HNB := Lib.hid (show bs kk < wq.heap.size from (hmx.q kk hkl).lt)
          have HKM := Lib.hid hkm
          subst hA
          clear hmx hbq gb hxx hxm hx1 hnl hkk hsm hF hvk hvn hfeT hkg hkm
          go_upto_region 8 with (fail)
          obtain ⟨W6, hW6⟩ : ∃ z, wq.alloc (.cells #[.int .i64 x.pl, .int .i64 x.volts, .int .i64 x.siem, .int .i64 x.limit] 58) = z := ⟨_, rfl⟩
          rw [hW6] at hb6 hm6 q6 ⊢
          obtain ⟨fb, hfb⟩ : ∃ fb, wq.heap.size = fb := ⟨_, rfl⟩
          rw [hfb] at q6 HZQ HNB ⊢
          have HB6 := Lib.hid hb6; have HM6 := Lib.hid hm6; have HQ6 := Lib.hid q6
          have hc6 := HC.out.below (HBR.out.trans (hb6.mono HBR.out.size))
          have HIX := Lib.hid (show Calls Tryz.prog 95 #[.agg #[.slice A1 n c1, .slice s2.A s2.n s2.c, .slice s3.A s3.n s3.c, .slice so.A so.n so.c, .slice Ak n ck], .int .i64 x.pl] W6 fun e w' => e = .returned (.int .i64 (kk : Int)) ∧ Below W6.heap.size W6 w' from by
            rw [← hix]
            exact cindex_any ⟨A1, n, c1⟩ s2 s3 so ⟨Ak, n, ck⟩ ns x.pl W6 hc6.ln (by show n ≤ 1000000; omega) hc6.N)
          have m6 := (HR0.out.below hb6 HR0.out.lt).cell
          have x6 := q6.cell
          clear hb6 hm6 q6 hc6 hW6 hfb c0 c1' c2 c3
          go_wp2_with fail
          (with_reducible refine (HIX.out).mono ?_)
          rintro e w7 ⟨rfl, hb7⟩
          have hb7' := HB6.out.trans (hb7.mono HB6.out.size)
          have hm7 := HM6.out.below hb7 (Nat.le_refl _)
          have q7 := HQ6.out.below hb7 HQ6.out.lt
          have hr7 := HR0.out.below hb7' HR0.out.lt
          have m7 := hr7.cell; have x7 := q7.cell
          have hkl := HKL.out
          have hki : (kk : Int) < (n : Int) := by omega
          have hk0 : (0 : Int) ≤ (kk : Int) := by omega
          have hkn1 : (kk : Int) < (n : Int) + 1 := by omega
          have hrow := hm7.row hkl hkl
          have ckk := (hm7.q kk hkl).cell (show kk < n + 1 by omega)
          have fkk := (hm7.q kk hkl).frozen kk
          rw [HVK.out] at ckk
          have HB7 := Lib.hid hb7'; have HM7 := Lib.hid hm7; have HQ7 := Lib.hid q7; have HR7 := Lib.hid hr7
          clear hb7 hb7' hm7 q7 hr7 m6 x6
          go_upto_region 9 with (fail)
          refine wp_region_noPanic ?_
          go_region
          refine NoPanic.normal ?_
          have hm8 := (HM7.out.set (i := kk) HKL.out kk (vk + x.siem)).drewN 1
          have hb8 : Below wo.heap.size wo ((w7.setCell ⟨bs kk, kk, none⟩ (.int .i64 (vk + x.siem))).drew) := (HB7.out.setCell (p := ⟨bs kk, kk, none⟩) (HM7.out.lo2 kk HKL.out) _).drew
          have hnb1 : fb ≠ bs kk := by have := HNB.out; omega
          have q8 : Rw ((w7.setCell ⟨bs kk, kk, none⟩ (.int .i64 (vk + x.siem))).drew) fb 58 #[.int .i64 x.pl, .int .i64 x.volts, .int .i64 x.siem, .int .i64 x.limit] := (HQ7.out.far (k := bs kk) kk _ hnb1).drew
          obtain ⟨W8, hW8⟩ : ∃ z, (w7.setCell ⟨bs kk, kk, none⟩ (.int .i64 (vk + x.siem))).drew = z := ⟨_, rfl⟩
          replace hm8 : Mx ((w7.setCell ⟨bs kk, kk, none⟩ (.int .i64 (vk + x.siem))).drew) wo.heap.size rb bs n (n + 1) n (fun i' j' => if i' = kk ∧ j' = kk then vk + x.siem else F i' j') := hm8
          rw [hW8] at hm8 hb8 q8 ⊢
          have hkl8 := HKL.out
          have hr8 := HR0.out.below hb8 HR0.out.lt
          have m8 := hr8.cell; have x8 := q8.cell
          have hrow8 := hm8.row hkl8 hkl8
          have hcn8 : W8.cell? ⟨bs kk, n, none⟩ = some (.int .i64 vn) := by
            have h := (hm8.q kk hkl8).cell (show n < n + 1 by omega)
            rw [if_neg (by omega), HVN.out] at h; exact h
          have fn8 := (hm8.q kk hkl8).frozen n
          have hn0 : (0 : Int) ≤ (n : Int) := by omega
          have hnn1 : (n : Int) < (n : Int) + 1 := by omega
          have HM8 := Lib.hid hm8; have HB8 := Lib.hid hb8
          clear hm8 hb8 hr8 q8 hW8 m7 x7 hrow ckk fkk hnb1
          go_upto_region 10 with (fail)
          refine wp_region_noPanic ?_
          go_region
          refine NoPanic.normal ?_
          have hfk : (feW ns x).k = kk := HKK.out
          have HJ9 := Lib.hid (show FdJ n ns ws tk wo rb bs gl (k + 1) ((W8.setCell ⟨bs kk, n, none⟩ (.int .i64 (vn + x.siem * x.volts))).drew) from by
            refine ⟨((HM8.out.set (i := kk) HKL.out n (vn + x.siem * x.volts)).drewN 1).congr (fun u j hu hj => ?_), (HB8.out.setCell (p := ⟨bs kk, n, none⟩) (HM8.out.lo2 kk HKL.out) _).drew⟩
            rw [HTK.out, augF_snoc n _ _ _ _ (by rw [hfk]; exact HKL.out), HF.out, hfk, HVN.out, HVK.out]
            rfl)
          clear hfk hrow8 hcn8 fn8 m8 x8
          go_wp2
          refine ⟨⟨k + 1, by have := HKM.out; omega, by simp, HJ9.out⟩, ?_⟩
          have := HKM.out; simp [intOf] <;> omega
        · have hkI : ¬ (k : Int) < (m : Int) := by omega
          obtain rfl : k = m := by omega
          obtain ⟨hmx, hbq⟩ := hfj
          have htk : gl.take k = gl := List.take_of_length_le (by have := HGL.out; omega)
          rw [htk] at hmx
          have hsm : ∀ i, i < n → SmR n n (augF n (wiL ns ws) tk (gl.map (feW ns)) i) := fun i hi => augF_small HC.out.cir HC.out.htk HFE.out hi
          have hbnd := aug_bd HC.out.n10 hsm
          obtain ⟨A, hA⟩ : ∃ A, augF n (wiL ns ws) tk (gl.map (feW ns)) = A := ⟨_, rfl⟩
          have HA := Lib.hid hA
          rw [hA] at hmx hsm hbnd
          have HCR := Lib.hid (cramer_any n n rb _ A HC.out.n10 hsm wo.heap.size wq hmx)
          have HB8 := Lib.hid hbq
          have HBND := Lib.hid hbnd
          clear hmx hbq htk hsm hA hbnd
          go_wp2_with fail
          (with_reducible refine (HCR.out).mono ?_)
          rintro e w8 ⟨Av, cv, rfl, hov, hb9⟩
          obtain ⟨d, hd⟩ : ∃ d, cramD A n = d := ⟨_, rfl⟩
          rw [hd] at HBND ⊢
          have HD := Lib.hid hd
          have HOV := Lib.hid hov
          have HB9 := Lib.hid (HBR.out.trans ((HB8.out.trans (hb9.mono HB8.out.size)).mono HBR.out.size))
          have HBC := Lib.hid (HB8.out.trans (hb9.mono HB8.out.size))
          clear hd hov hb9
          go_upto_region 13 with (fail)
          have hr9 := Rw.new w8 #[.slice Av n cv, .slice none 0 0, .int .i64 d] 136
          have hb9 := HB9.out.alloc HB9.out.size (.cells #[.slice Av n cv, .slice none 0 0, .int .i64 d] 136)
          have hbc9 := HBC.out.alloc HBC.out.size (.cells #[.slice Av n cv, .slice none 0 0, .int .i64 d] 136)
          have hov9 := HOV.out.alloc (.cells #[.slice Av n cv, .slice none 0 0, .int .i64 d] 136)
          have hov9l := (hov9.lower (base' := w.heap.size) (by have := HBR.out.size; have := HB8.out.size; omega))
          obtain ⟨W9, hW9⟩ : ∃ z, w8.alloc (.cells #[.slice Av n cv, .slice none 0 0, .int .i64 d] 136) = z := ⟨_, rfl⟩
          rw [hW9] at hr9 hb9 hbc9 hov9 hov9l ⊢
          obtain ⟨sb, hsb⟩ : ∃ z, w8.heap.size = z := ⟨_, rfl⟩
          rw [hsb] at hr9 ⊢
          have hvl : ((List.range n).map (cramN A n)).length = n := by simp
          have hV9 : Sl W9 W9.heap.size 1 CI Av ((List.range n).map (cramN A n)) := Own.sl (f := fI) (size := 1) (fun _ => rfl) hov9l (A := Av) (c := cv) (by rw [hvl])
          have q9 := HR0.out.below hbc9 HR0.out.lt
          have hz9 := HR1.out.below hbc9 HR1.out.lt
          have hc9 := HC.out.below hb9
          have HR9 := Lib.hid hr9; have HB9' := Lib.hid hb9; have HOV9 := Lib.hid hov9; have HV9 := Lib.hid hV9; have HQ9 := Lib.hid q9; have HZ9 := Lib.hid hz9; have HC9 := Lib.hid hc9
          have hcO' := ((HS.out.below hbc9).more (fun _ _ h => h) hbc9.size)
          have HF := Lib.hid (filterF5_any Ag k c gl (fun f => decide (cramN A n ((nI ns).idxOf f.pl) < f.volts * d)) sb w.heap.size W9 HGL.out (by have := HMS.out; omega) hcO' (fun wx hbx y hy => by
            have hcx := HC9.out.below hbx
            have hy5 := HC9.out.hon y (HGM.out y hy)
            have hdb := HBND.out.2
            have hyd : -9223372036854775808 ≤ y.volts * d ∧ y.volts * d ≤ 9223372036854775807 := by
              have h1 : (-300000000000000) * 1000 ≤ y.volts * d := by
                rcases Int.le_total 0 d with hp | hp
                · exact Int.le_trans (by decide) (Int.mul_nonneg (by omega) hp)
                · have := Int.mul_le_mul (show y.volts ≤ 1000 by omega) (show -d ≤ 300000000000000 by omega) (by omega) (by decide)
                  rw [Int.mul_neg] at this; omega
              have h2 : y.volts * d ≤ 1000 * 300000000000000 := by
                rcases Int.le_total 0 d with hp | hp
                · exact Int.mul_le_mul (by omega) (by omega) hp (by decide)
                · have := Int.mul_nonneg (show 0 ≤ y.volts by omega) (show 0 ≤ -d by omega)
                  rw [Int.mul_neg] at this; omega
              omega
            exact clos150_any sb w.heap.size Av n cv (.slice none 0 0) d (cramN A n) ⟨A1, n, c1⟩ s2 s3 so ⟨Ak, n, ck⟩ ns y wx hcx.ln rfl (by have := hcx.n10; omega) hcx.N ((HV9.out.below hbx).more (fun _ _ h => h) hbx.size) (HR9.out.below hbx HR9.out.lt) (HQ9.out.below hbx HQ9.out.lt) hy5.1 hyd.1 hyd.2))
          have m9 := q9.cell
          clear hr9 hb9 hbc9 hov9 hov9l hvl hV9 q9 hz9 hc9 hcO' hW9 hsb
          go_wp2_with fail
          (with_reducible refine (HF.out).mono ?_)
          rintro e w10 ⟨A2, c2, rfl, ho2, hb10⟩
          have hlz : (gl.filter (fun f => decide (cramN A n ((nI ns).idxOf f.pl) < f.volts * d))).length ≤ k := by have := List.length_filter_le (fun f => decide (cramN A n ((nI ns).idxOf f.pl) < f.volts * d)) gl; have := HGL.out; omega
          have hflt : ((gl.map (feW ns)).filter (fun g => decide (cramN A n g.k < g.volt * cramD A n))) = (gl.filter (fun f => decide (cramN A n ((nI ns).idxOf f.pl) < f.volts * d))).map (feW ns) := by
            rw [List.filter_map, HD.out]; rfl
          have HFE2 := Lib.hid (show FeOk n ((gl.filter (fun f => decide (cramN A n ((nI ns).idxOf f.pl) < f.volts * d))).map (feW ns)) from by rw [← hflt]; exact HFE.out.filter _)
          obtain ⟨gl2, hgl2⟩ : ∃ z, gl.filter (fun f => decide (cramN A n ((nI ns).idxOf f.pl) < f.volts * d)) = z := ⟨_, rfl⟩
          have HGM2 := Lib.hid (show ∀ y ∈ gl2, y ∈ on from fun y hy => by rw [← hgl2] at hy; exact HGM.out y (List.mem_filter.1 hy).1)
          rw [hgl2] at hlz hflt HFE2 ho2
          rw [hgl2]
          obtain ⟨m, hm⟩ : ∃ m, gl2.length = m := ⟨_, rfl⟩
          have hfl0 := HF0.out
          rw [show so.n - i = (so.n - (i + 1)) + 1 from by have := HI.out; omega, feedZ, HA.out] at hfl0
          (try simp only [] at hfl0)
          rw [hflt, List.length_map, List.length_map, hm, HGL.out] at hfl0
          have HS2 := Lib.hid (show Sl w10 w10.heap.size 4 CF A2 gl2 from Own.sl (f := fFv) (size := 4) (fun _ => rfl) ho2 (A := A2) (c := c2) rfl)
          rw [hm] at hlz ho2 ⊢
          have HM := Lib.hid hm
          have HB10 := Lib.hid (HB9'.out.trans (hb10.mono HB9'.out.size))
          have HB10' := Lib.hid hb10
          have HR10 := Lib.hid (HR9.out.below hb10 HR9.out.lt); have HQ10 := Lib.hid (HQ9.out.below hb10 HQ9.out.lt); have HZ10 := Lib.hid (HZ9.out.below hb10 HZ9.out.lt)
          by_cases hm0 : m = k
          · have hmi : (m : Int) = (k : Int) := by omega
            rw [if_pos hm0, HD.out] at hfl0
            have HFL := Lib.hid hfl0
            have x0 := HR10.out.cell; have y0 := HQ10.out.cell
            have hc10 := HC.out.below HB10.out
            have hcO := hc10.O
            have HWA := Lib.hid (withAmps_any Av n cv d (cramN A n) ⟨A1, n, c1⟩ s2 s3 so ⟨Ak, n, ck⟩ ns on w10 hc10.ln rfl (by have := hc10.n10; omega) hc10.lo hc10.lo2 hc10.N hcO ((HV9.out.below HB10'.out).more (fun _ _ h => h) HB10'.out.size) (fun y hy => by
                have hy5 := HC9.out.hon y hy
                have hdb := HBND.out.2
                have h1 : (-300000000000000) * 1000 ≤ y.volts * d := by
                  rcases Int.le_total 0 d with hp | hp
                  · exact Int.le_trans (by decide) (Int.mul_nonneg (by omega) hp)
                  · have := Int.mul_le_mul (show y.volts ≤ 1000 by omega) (show -d ≤ 300000000000000 by omega) (by omega) (by decide)
                    rw [Int.mul_neg] at this; omega
                have h2 : y.volts * d ≤ 1000 * 300000000000000 := by
                  rcases Int.le_total 0 d with hp | hp
                  · exact Int.mul_le_mul (by omega) (by omega) hp (by decide)
                  · have := Int.mul_nonneg (show 0 ≤ y.volts by omega) (show 0 ≤ -d by omega)
                    rw [Int.mul_neg] at this; omega
                exact ⟨hy5.1, by omega, by omega, by omega, by omega⟩) (fun k hk => by have := HBND.out.1 k hk; omega))
            clear hfl0 hlz hflt hm ho2 hb10 hc10 hcO m9 hgl2 hm0
            go_wp2_with fail
            (with_reducible refine (HWA.out).mono ?_)
            rintro e w11 ⟨A3, c3, rfl, ho3, hb11⟩
            have z11 := HZ10.out.below hb11 HZ10.out.lt
            have zc := z11.cell; have zf := z11.frozen
            have hz0 := HB10.out.size
            have h3 := set3 (w := w11) (k := w.heap.size + 1) (v0 := .slice Av n cv) (v1 := .slice A3 so.n c3) (v2 := .int .i64 d)
            have HOE := Lib.hid (show Own (((w11.setCell ⟨w.heap.size + 1, 0, none⟩ (.slice Av n cv)).setCell ⟨w.heap.size + 1, 1, none⟩ (.slice A3 so.n c3)).setCell ⟨w.heap.size + 1, 2, none⟩ (.int .i64 d)) w.heap.size 3 1 fI (.slice A3 so.n c3) (on.map (ampZ ns (cramN A n) d)) from (ho3.of_blocks (fun k hk => h3.2.1 k (by have := (ho3.lt k hk).1; have := HZ10.out.lt; omega))).lower (by omega))
            have HOV2 := Lib.hid (show Own (((w11.setCell ⟨w.heap.size + 1, 0, none⟩ (.slice Av n cv)).setCell ⟨w.heap.size + 1, 1, none⟩ (.slice A3 so.n c3)).setCell ⟨w.heap.size + 1, 2, none⟩ (.int .i64 d)) w.heap.size 3 1 fI (.slice Av n cv) ((List.range n).map (cramN A n)) from by
              have h1 := (HOV9.out.below HB10'.out (Nat.le_refl _)).below hb11 (Nat.le_refl _)
              exact (h1.of_blocks (fun k hk => h3.2.1 k (by have := (h1.lt k hk).1; have := HB8.out.size; have := HR1.out.lt; omega))).lower (by have := HB8.out.size; have := HR1.out.lt; omega))
            have HBE := Lib.hid ((HB10.out.trans (hb11.mono HB10.out.size)).trans (h3.2.2 w.heap.size (by omega)))
            have HR3 := Lib.hid (h3.1 136 _ _ _ z11)
            clear h3 z11 ho3 hb11 x0 y0
            go_wp2
            (try simp only [Exit.inBlock, Exit.then])
            refine bodyPost_ret (res_ct rfl _ _ (w.heap.size + 1) 136 _ _ (.bool true) rfl rfl HR3.out Tryz.underlying136 rfl rfl) rfl ?_
            rw [← HFL.out]
            exact ⟨_, rfl, ⟨Av, A3, cv, c3, rfl, HOV2.out, HOE.out⟩, HBE.out⟩
          · rw [if_neg hm0] at hfl0
            have hmi : ¬ (m : Int) = (k : Int) := by omega
            have HFN := Lib.hid (show FdI A1 n c1 s2 s3 so Ak ck ns ws on tk w (i + 1) A2 m gl2 w10 from ⟨hfl0, hm, HGM2.out, HFE2.out, by have := HMS.out; omega, HS2.out, HQ10.out, HZ10.out, HB10.out⟩)
            clear hfl0 hlz hflt hm ho2 hb10 m9 hgl2 hm0
            go_wp2
            refine ⟨⟨i + 1, A2, m, c2, gl2, by have := HI.out; omega, by simp, rfl, HFN.out⟩, ?_⟩
            have := HI.out; simp [intOf] <;> omega
    · have hii : ¬ (i : Int) < (so.n : Int) := by omega
      obtain ⟨hf0, -, -, -, -, -, hr0, hr1, hbr⟩ := hfl
      have hie : so.n - i = 0 := by omega
      rw [hie] at hf0
      have HF0 := Lib.hid (show feedZ n (wiL ns ws) tk so.n (on.map (feW ns)) = none from hf0.symm)
      have zc := hr1.cell; have zf := hr1.frozen
      have h3 := set3 (w := wo) (k := w.heap.size + 1) (v0 := .slice none 0 0) (v1 := .slice none 0 0) (v2 := .int .i64 0)
      have HBE := Lib.hid (hbr.trans (h3.2.2 w.heap.size (by omega)))
      have HR3 := Lib.hid (h3.1 136 _ _ _ hr1)
      clear h3 hf0 hr0 hr1 hbr hie hin hi
      go_wp2
      (try simp only [Exit.inBlock, Exit.then])
      refine bodyPost_ret (res_ct rfl _ _ (w.heap.size + 1) 136 _ _ (.bool false) rfl rfl HR3.out Tryz.underlying136 rfl rfl) rfl ?_
      rw [HF0.out]
      exact ⟨_, rfl, rfl, HBE.out⟩
end Go.Proofs.YtbnfnpakibkboaaGreat

namespace Go.Proofs.YtbnfnpakibkboaaGreat
set_option linter.unusedVariables false
set_option linter.unusedSimpArgs false
open Go.RowKit

set_option maxRecDepth 100000 in
set_option maxHeartbeats 4000000 in
theorem nz133_any (x : Int) (w : World) : Calls Tryz.prog 133 #[.int .i64 x] w fun e w' => e = .returned (.bool (x != 0)) ∧ w = w' := by
  go_enter Tryz.func133, Tryz.ntmps133
  go_wp2
  go_ret
  exact ⟨by first | rfl | simp, rfl⟩
set_option maxRecDepth 100000 in
set_option maxHeartbeats 4000000 in
theorem index144_any (A : Option Addr) (n c : Nat) (l : List Int) (w : World) (hn : l.length = n) (hm : n ≤ 1000000) (hS : Sl w w.heap.size 1 CI A l) :
    Calls Tryz.prog 144 #[.slice A n c, .func (.func 133) #[] #[]] w fun e w' => (∃ r : Int, e = .returned (.int .i64 r) ∧ decide (0 ≤ r) = l.any (fun x => x != 0)) ∧ w = w' := by
  have HS := Lib.hid hS; have HN := Lib.hid hn
  clear hS hn
  go_enter Tryz.func144, Tryz.ntmps144
  go_wp2
  go_loopw [8] (fun sl wr => ∃ i : Nat, i ≤ n ∧ sl = .int .i64 (i : Int) ∧ (l.take i).any (fun x => x != 0) = false ∧ w = wr) (fun sl _ => n - (intOf sl).toNat)
  case atStart => exact ⟨0, Nat.zero_le _, rfl, rfl, rfl⟩
  case round =>
    obtain ⟨i, hi, rfl, hb, rfl⟩ := hrel
    have HB := Lib.hid hb
    clear hb
    by_cases hin : i < n
    · have hii : (i : Int) < (n : Int) := by omega
      have hi0 : (0 : Int) ≤ (i : Int) := by omega
      have hil : i < l.length := by have := HN.out; omega
      obtain ⟨b, o, rfl, gb, c0⟩ := int_at HS.out hil
      obtain ⟨g, hg⟩ : ∃ g, l[i] = g := ⟨_, rfl⟩
      rw [hg] at c0
      have HI := Lib.hid hin
      have HG := Lib.hid (show g ∈ l from by rw [← hg]; exact List.getElem_mem hil)
      have HTK := Lib.hid (show (l.take (i + 1)).any (fun x => x != 0) = (g != 0) from by
        rw [List.take_succ_eq_append_getElem hil, List.any_append, HB.out, hg]; simp)
      have HC := Lib.hid (nz133_any g w)
      obtain ⟨y, hy⟩ : ∃ y, (g != 0) = y := ⟨_, rfl⟩
      rw [hy] at HC HTK
      have HY := Lib.hid hy
      clear hil hg hy
      go_wp2_with fail
      (with_reducible refine (HC.out).mono ?_)
      rintro e w3 ⟨rfl, rfl⟩
      cases y with
      | true =>
        go_wp2
        go_ret
        refine ⟨⟨(i : Int), by first | rfl | simp, ?_⟩, rfl⟩
        rw [decide_eq_true (show (0 : Int) ≤ (i : Int) by omega)]
        exact (List.any_eq_true.2 ⟨g, HG.out, HY.out⟩).symm
      | false =>
        go_wp2
        go_roundw
        case rel => exact ⟨i + 1, by have := HI.out; omega, by simp, HTK.out, by first | rfl | trivial⟩
        case measure => have := HI.out; simp [intOf] <;> omega
    · have hii : ¬ (i : Int) < (n : Int) := by omega
      have HE := Lib.hid (show l.any (fun x => x != 0) = false from by have := HB.out; rwa [List.take_of_length_le (by have := HN.out; omega)] at this)
      go_wp2
      go_ret
      exact ⟨⟨-1, by first | rfl | simp, by rw [HE.out]; rfl⟩, rfl⟩
set_option maxRecDepth 100000 in
set_option maxHeartbeats 4000000 in
theorem any132_any (A : Option Addr) (n c : Nat) (l : List Int) (w : World) (hn : l.length = n) (hm : n ≤ 1000000) (hS : Sl w w.heap.size 1 CI A l) :
    Calls Tryz.prog 132 #[.slice A n c, .func (.func 133) #[] #[]] w fun e w' => e = .returned (.bool (l.any (fun x => x != 0))) ∧ w = w' := by
  have HI := Lib.hid (index144_any A n c l w hn hm hS)
  clear hS hn
  go_enter Tryz.func132, Tryz.ntmps132
  go_wp2_with fail
  (with_reducible refine (HI.out).mono ?_)
  rintro e w3 ⟨⟨r, rfl, hr⟩, rfl⟩
  have HE := Lib.hid hr
  clear hr
  go_wp2
  go_ret
  exact ⟨by rw [← HE.out]; first | done | rfl | simp, rfl⟩
end Go.Proofs.YtbnfnpakibkboaaGreat

namespace Go.Proofs.YtbnfnpakibkboaaGreat
set_option linter.unusedVariables false
set_option linter.unusedSimpArgs false
open Go.RowKit

theorem sumI_total (n : Nat) (tk : Nat → Int) : sumI ((List.range n).map tk) = total n tk := by
  unfold total sumL
  rfl
def SlvAt (w : World) (base n : Nat) (ns : List Nat) (ws : List Wv) (on : List Fv) (so : Sc) (tk : Nat → Int) (val : Value) (ok : Bool) : Prop :=
  (on = [] ∧ ok = !((List.range n).map tk).any (fun x => x != 0) ∧ ∃ (Av : Option Addr) (cv : Nat), val = .agg #[.slice Av n cv, .slice none 0 0, .int .i64 1] ∧ Own w base 3 1 fI (.slice Av n cv) ((List.range n).map (fun _ => 0))) ∨
  (on ≠ [] ∧ total n tk < 0 ∧ ok = false ∧ val = .agg #[.slice none 0 0, .slice none 0 0, .int .i64 0]) ∨
  (on ≠ [] ∧ total n tk = 0 ∧ ok = (floatZ n (wiL ns ws) tk (on.map (feW ns)) (on.map (feW ns))).isSome ∧ SolAt w base n ns on so (floatZ n (wiL ns ws) tk (on.map (feW ns)) (on.map (feW ns))) val) ∨
  (on ≠ [] ∧ 0 < total n tk ∧ ok = (feedZ n (wiL ns ws) tk so.n (on.map (feW ns))).isSome ∧ SolAt w base n ns on so (feedZ n (wiL ns ws) tk so.n (on.map (feW ns))) val)
set_option maxRecDepth 100000 in
set_option maxHeartbeats 8000000 in
theorem solve_any (A1 : Option Addr) (n c1 : Nat) (s2 s3 so : Sc) (Ak : Option Addr) (ck : Nat) (ns : List Nat) (ws : List Wv) (on : List Fv) (tk : Nat → Int) (w : World) (hC : CirAt w A1 n s2 so Ak ns ws on tk) :
    Calls Tryz.prog 109 #[.agg #[.slice A1 n c1, .slice s2.A s2.n s2.c, .slice s3.A s3.n s3.c, .slice so.A so.n so.c, .slice Ak n ck]] w fun e w' => ∃ val ok, e = .returned (.tuple #[val, .bool ok]) ∧ SlvAt w' w.heap.size n ns ws on so tk val ok ∧ Below w.heap.size w w' := by
  have hb1 := ((Below.refl w.heap.size w).alloc (Nat.le_refl _) (.cells #[.slice A1 n c1, .slice s2.A s2.n s2.c, .slice s3.A s3.n s3.c, .slice so.A so.n so.c, .slice Ak n ck] 134)).alloc (by simp) (.cells #[.slice none 0 0, .slice none 0 0, .int .i64 0] 136)
  have q0 : Rw ((w.alloc (.cells #[.slice A1 n c1, .slice s2.A s2.n s2.c, .slice s3.A s3.n s3.c, .slice so.A so.n so.c, .slice Ak n ck] 134)).alloc (.cells #[.slice none 0 0, .slice none 0 0, .int .i64 0] 136)) w.heap.size 134 #[.slice A1 n c1, .slice s2.A s2.n s2.c, .slice s3.A s3.n s3.c, .slice so.A so.n so.c, .slice Ak n ck] := (Rw.new w #[.slice A1 n c1, .slice s2.A s2.n s2.c, .slice s3.A s3.n s3.c, .slice so.A so.n so.c, .slice Ak n ck] 134).alloc _
  have q1 : Rw ((w.alloc (.cells #[.slice A1 n c1, .slice s2.A s2.n s2.c, .slice s3.A s3.n s3.c, .slice so.A so.n so.c, .slice Ak n ck] 134)).alloc (.cells #[.slice none 0 0, .slice none 0 0, .int .i64 0] 136)) (w.heap.size + 1) 136 #[.slice none 0 0, .slice none 0 0, .int .i64 0] := by
    have := Rw.new (w.alloc (.cells #[.slice A1 n c1, .slice s2.A s2.n s2.c, .slice s3.A s3.n s3.c, .slice so.A so.n so.c, .slice Ak n ck] 134)) #[.slice none 0 0, .slice none 0 0, .int .i64 0] 136; rwa [World.size_alloc] at this
  have m0 := q0.cell; have z0 := q1.cell; have zf0 := q1.frozen
  have hz1 : ((w.alloc (.cells #[.slice A1 n c1, .slice s2.A s2.n s2.c, .slice s3.A s3.n s3.c, .slice so.A so.n so.c, .slice Ak n ck] 134)).alloc (.cells #[.slice none 0 0, .slice none 0 0, .int .i64 0] 136)).heap.size = w.heap.size + 2 := by simp
  obtain ⟨W1, hW1⟩ : ∃ z, (w.alloc (.cells #[.slice A1 n c1, .slice s2.A s2.n s2.c, .slice s3.A s3.n s3.c, .slice so.A so.n so.c, .slice Ak n ck] 134)).alloc (.cells #[.slice none 0 0, .slice none 0 0, .int .i64 0] 136) = z := ⟨_, rfl⟩
  rw [hW1] at hb1 q0 q1 m0 z0 zf0 hz1
  have hc1 := hC.below hb1
  have HB1 := Lib.hid hb1; have HQ := Lib.hid q0; have HZ := Lib.hid q1; have HC := Lib.hid hc1; have HC0 := Lib.hid hC
  have hTL : ((List.range n).map tk).length = n := by simp
  have hlo := hC.lo
  have hn10 := hC.n10
  obtain ⟨i0, hi0, hz0', hz1', hz2'⟩ := info_parts info3
  have hmk := fun W : World => run_mk (P := Tryz.prog) 40 3 i0 _ 1 Tryz.underlying40 hi0 hz0' hz1' (n : Int) (n : Int) n n rfl rfl (by omega) (by rw [hz2']; omega) (by omega) W
  by_cases hon : on = []
  · have hs0 : so.n = 0 := by rw [hon] at hlo; simpa using hlo.symm
    have hs0' : (so.n : Int) = 0 := by omega
    have HA := Lib.hid (any132_any Ak n ck ((List.range n).map tk) W1 hTL (by omega) hc1.T)
    obtain ⟨y, hy⟩ : ∃ y, ((List.range n).map tk).any (fun x => x != 0) = y := ⟨_, rfl⟩
    rw [hy] at HA
    have HY := Lib.hid hy
    have HON := Lib.hid hon
    clear hb1 q0 q1 hC hc1 hTL hlo hon hy hs0
    go_enter Tryz.func109, Tryz.ntmps109
    go_wp2_with fail
    (with_reducible refine (HA.out).mono ?_)
    rintro e w3 ⟨rfl, rfl⟩
    have hfu := Own.full (f := fI) (size := 1) W1 (w.heap.size + 2) 3 (0 : Int) (.int .i64 0) n rfl (fun _ => rfl) (by decide) (by omega) (by unfold maxLen; omega)
    have hmk1 := hmk W1
    have za := HZ.out.alloc (.cells (madeCells (Value.int .i64 0).cells (n * 1)) 3)
    have hba := HB1.out.alloc HB1.out.size (.cells (madeCells (Value.int .i64 0).cells (n * 1)) 3)
    obtain ⟨W2, hW2⟩ : ∃ z, W1.alloc (.cells (madeCells (Value.int .i64 0).cells (n * 1)) 3) = z := ⟨_, rfl⟩
    rw [hW2] at hfu hmk1 za hba
    obtain ⟨mb, hmb⟩ : ∃ z, W1.heap.size = z := ⟨_, rfl⟩
    rw [hmb] at hfu hmk1
    have zc := za.cell; have zf := za.frozen
    have h3 := set3 (w := W2) (k := w.heap.size + 1) (v0 := .slice (some ⟨mb, 0, none⟩) n n) (v1 := .slice none 0 0) (v2 := .int .i64 1)
    have hsz := HZ.out.lt
    have HBE := Lib.hid (hba.trans (h3.2.2 w.heap.size (by omega)))
    have HR3 := Lib.hid (h3.1 136 _ _ _ za)
    have HO := Lib.hid (show Own (((W2.setCell ⟨w.heap.size + 1, 0, none⟩ (.slice (some ⟨mb, 0, none⟩) n n)).setCell ⟨w.heap.size + 1, 1, none⟩ (.slice none 0 0)).setCell ⟨w.heap.size + 1, 2, none⟩ (.int .i64 1)) w.heap.size 3 1 fI (.slice (some ⟨mb, 0, none⟩) n n) ((List.range n).map (fun _ => 0)) from by
      have e1 : (List.range n).map (fun _ => (0 : Int)) = List.replicate n 0 := by rw [List.map_const', List.length_range]
      rw [e1]
      exact (hfu.of_blocks (fun k hk => h3.2.1 k (by have := (hfu.lt k hk).1; omega))).lower (by omega))
    clear h3 za hfu z0 zf0 hz1 hW1 hmk hW2 hba hmb
    go_wp2
    (try simp only [Exit.inBlock, Exit.then])
    refine bodyPost_ret (res_ct rfl _ _ (w.heap.size + 1) 136 _ _ (.bool (!y)) rfl rfl HR3.out Tryz.underlying136 rfl rfl) rfl ?_
    exact ⟨_, _, rfl, .inl ⟨HON.out, by rw [HY.out], some ⟨mb, 0, none⟩, n, rfl, HO.out⟩, HBE.out⟩
  · have hs0 : 0 < so.n := by rw [← hlo]; exact List.length_pos_iff.2 hon
    have hs0' : ¬ (so.n : Int) = 0 := by omega
    have HON := Lib.hid hon
    have HT := Lib.hid (total_any ⟨A1, n, c1⟩ s2 s3 so ⟨Ak, n, ck⟩ ((List.range n).map tk) W1 hTL (by show n ≤ 1000; omega) (fun x hx => by obtain ⟨j, _, rfl⟩ := List.mem_map.1 hx; exact hC.htk j) hc1.T)
    rw [sumI_total] at HT
    obtain ⟨tt, htt⟩ : ∃ t, total n tk = t := ⟨_, rfl⟩
    rw [htt] at HT
    have HTT := Lib.hid htt
    clear hb1 q0 q1 hC hc1 hTL hlo hon htt hmk z0 zf0
    go_enter Tryz.func109, Tryz.ntmps109
    go_wp2_with fail
    (with_reducible refine (HT.out).mono ?_)
    rintro e w4 ⟨rfl, hb4⟩
    have HBT := Lib.hid hb4
    have q4 := HQ.out.below hb4 HQ.out.lt
    have z4 := HZ.out.below hb4 HZ.out.lt
    have hc4 := HC.out.below hb4
    have m4 := q4.cell
    rcases Int.lt_trichotomy tt 0 with hlt | heq | hgt
    · have z4c := z4.cell; have z4f := z4.frozen
      have h3 := set3 (w := w4) (k := w.heap.size + 1) (v0 := .slice none 0 0) (v1 := .slice none 0 0) (v2 := .int .i64 0)
      have HBE := Lib.hid ((HB1.out.trans (hb4.mono HB1.out.size)).trans (h3.2.2 w.heap.size (by omega)))
      have HR3 := Lib.hid (h3.1 136 _ _ _ z4)
      clear h3 z4 hb4 q4 hc4 m0
      go_wp2
      (try simp only [Exit.inBlock, Exit.then])
      refine bodyPost_ret (res_ct rfl _ _ (w.heap.size + 1) 136 _ _ (.bool false) rfl rfl HR3.out Tryz.underlying136 rfl rfl) rfl ?_
      exact ⟨_, _, rfl, .inr (.inl ⟨HON.out, by rw [HTT.out]; exact hlt, rfl, rfl⟩), HBE.out⟩
    · have hnl : ¬ tt < 0 := by omega
      have HFL := Lib.hid (float_any A1 n c1 s2 s3 so Ak ck ns ws on tk w4 hc4)
      clear z4 hb4 q4 hc4 m0
      go_wp2_with fail
      (with_reducible refine (HFL.out).mono ?_)
      rintro e w5 ⟨val, rfl, hsol, hb5⟩
      have z5 := HZ.out.below (HBT.out.trans (hb5.mono HBT.out.size)) HZ.out.lt
      have zc := z5.cell; have zf := z5.frozen
      have hz0 := HZ.out.lt
      obtain ⟨r, hr⟩ : ∃ r, floatZ n (wiL ns ws) tk (on.map (feW ns)) (on.map (feW ns)) = r := ⟨_, rfl⟩
      have HRZ := Lib.hid hr
      rw [hr] at hsol
      rw [hr]
      clear hr
      cases r with
      | some q =>
        obtain ⟨v, d⟩ := q
        obtain ⟨B1, B2, d1, d2, rfl, ho1, ho2⟩ := hsol
        have h3 := set3 (w := w5) (k := w.heap.size + 1) (v0 := .slice B1 n d1) (v1 := .slice B2 so.n d2) (v2 := .int .i64 d)
        have HO1 := Lib.hid (show Own (((w5.setCell ⟨w.heap.size + 1, 0, none⟩ (.slice B1 n d1)).setCell ⟨w.heap.size + 1, 1, none⟩ (.slice B2 so.n d2)).setCell ⟨w.heap.size + 1, 2, none⟩ (.int .i64 d)) w.heap.size 3 1 fI (.slice B1 n d1) ((List.range n).map v) from (ho1.of_blocks (fun k hk => h3.2.1 k (by have := (ho1.lt k hk).1; have := HBT.out.size; omega))).lower (by have := HBT.out.size; omega))
        have HO2 := Lib.hid (show Own (((w5.setCell ⟨w.heap.size + 1, 0, none⟩ (.slice B1 n d1)).setCell ⟨w.heap.size + 1, 1, none⟩ (.slice B2 so.n d2)).setCell ⟨w.heap.size + 1, 2, none⟩ (.int .i64 d)) w.heap.size 3 1 fI (.slice B2 so.n d2) (on.map (ampZ ns v d)) from (ho2.of_blocks (fun k hk => h3.2.1 k (by have := (ho2.lt k hk).1; have := HBT.out.size; omega))).lower (by have := HBT.out.size; omega))
        have HBE := Lib.hid (((HB1.out.trans (HBT.out.mono HB1.out.size)).trans (hb5.mono (HB1.out.trans (HBT.out.mono HB1.out.size)).size)).trans (h3.2.2 w.heap.size (by omega)))
        have HR3 := Lib.hid (h3.1 136 _ _ _ z5)
        clear h3 z5 ho1 ho2 hb5
        go_wp2
        (try simp only [Exit.inBlock, Exit.then])
        refine bodyPost_ret (res_ct rfl _ _ (w.heap.size + 1) 136 _ _ (.bool true) rfl rfl HR3.out Tryz.underlying136 rfl rfl) rfl ?_
        refine ⟨_, _, rfl, ?_, HBE.out⟩
        unfold SlvAt
        exact .inr (.inr (.inl ⟨HON.out, by rw [HTT.out]; exact heq, by rw [HRZ.out]; rfl, by rw [HRZ.out]; exact ⟨B1, B2, d1, d2, rfl, HO1.out, HO2.out⟩⟩))
      | none =>
        obtain rfl := hsol
        have h3 := set3 (w := w5) (k := w.heap.size + 1) (v0 := .slice none 0 0) (v1 := .slice none 0 0) (v2 := .int .i64 0)
        have HBE := Lib.hid (((HB1.out.trans (HBT.out.mono HB1.out.size)).trans (hb5.mono (HB1.out.trans (HBT.out.mono HB1.out.size)).size)).trans (h3.2.2 w.heap.size (by omega)))
        have HR3 := Lib.hid (h3.1 136 _ _ _ z5)
        clear h3 z5 hb5
        go_wp2
        (try simp only [Exit.inBlock, Exit.then])
        refine bodyPost_ret (res_ct rfl _ _ (w.heap.size + 1) 136 _ _ (.bool false) rfl rfl HR3.out Tryz.underlying136 rfl rfl) rfl ?_
        refine ⟨_, _, rfl, ?_, HBE.out⟩
        unfold SlvAt
        exact .inr (.inr (.inl ⟨HON.out, by rw [HTT.out]; exact heq, by rw [HRZ.out]; rfl, by rw [HRZ.out]; exact rfl⟩))
    · have hnl : ¬ tt < 0 := by omega
      have hne : ¬ tt = 0 := by omega
      have HFE := Lib.hid (feed_any A1 n c1 s2 s3 so Ak ck ns ws on tk w4 hc4)
      clear z4 hb4 q4 hc4 m0
      go_wp2_with fail
      (with_reducible refine (HFE.out).mono ?_)
      rintro e w5 ⟨val, rfl, hsol, hb5⟩
      have z5 := HZ.out.below (HBT.out.trans (hb5.mono HBT.out.size)) HZ.out.lt
      have zc := z5.cell; have zf := z5.frozen
      have hz0 := HZ.out.lt
      obtain ⟨r, hr⟩ : ∃ r, feedZ n (wiL ns ws) tk so.n (on.map (feW ns)) = r := ⟨_, rfl⟩
      have HRZ := Lib.hid hr
      rw [hr] at hsol
      rw [hr]
      clear hr
      cases r with
      | some q =>
        obtain ⟨v, d⟩ := q
        obtain ⟨B1, B2, d1, d2, rfl, ho1, ho2⟩ := hsol
        have h3 := set3 (w := w5) (k := w.heap.size + 1) (v0 := .slice B1 n d1) (v1 := .slice B2 so.n d2) (v2 := .int .i64 d)
        have HO1 := Lib.hid (show Own (((w5.setCell ⟨w.heap.size + 1, 0, none⟩ (.slice B1 n d1)).setCell ⟨w.heap.size + 1, 1, none⟩ (.slice B2 so.n d2)).setCell ⟨w.heap.size + 1, 2, none⟩ (.int .i64 d)) w.heap.size 3 1 fI (.slice B1 n d1) ((List.range n).map v) from (ho1.of_blocks (fun k hk => h3.2.1 k (by have := (ho1.lt k hk).1; have := HBT.out.size; omega))).lower (by have := HBT.out.size; omega))
        have HO2 := Lib.hid (show Own (((w5.setCell ⟨w.heap.size + 1, 0, none⟩ (.slice B1 n d1)).setCell ⟨w.heap.size + 1, 1, none⟩ (.slice B2 so.n d2)).setCell ⟨w.heap.size + 1, 2, none⟩ (.int .i64 d)) w.heap.size 3 1 fI (.slice B2 so.n d2) (on.map (ampZ ns v d)) from (ho2.of_blocks (fun k hk => h3.2.1 k (by have := (ho2.lt k hk).1; have := HBT.out.size; omega))).lower (by have := HBT.out.size; omega))
        have HBE := Lib.hid (((HB1.out.trans (HBT.out.mono HB1.out.size)).trans (hb5.mono (HB1.out.trans (HBT.out.mono HB1.out.size)).size)).trans (h3.2.2 w.heap.size (by omega)))
        have HR3 := Lib.hid (h3.1 136 _ _ _ z5)
        clear h3 z5 ho1 ho2 hb5
        go_wp2
        (try simp only [Exit.inBlock, Exit.then])
        refine bodyPost_ret (res_ct rfl _ _ (w.heap.size + 1) 136 _ _ (.bool true) rfl rfl HR3.out Tryz.underlying136 rfl rfl) rfl ?_
        refine ⟨_, _, rfl, ?_, HBE.out⟩
        unfold SlvAt
        exact .inr (.inr (.inr ⟨HON.out, by rw [HTT.out]; exact hgt, by rw [HRZ.out]; rfl, by rw [HRZ.out]; exact ⟨B1, B2, d1, d2, rfl, HO1.out, HO2.out⟩⟩))
      | none =>
        obtain rfl := hsol
        have h3 := set3 (w := w5) (k := w.heap.size + 1) (v0 := .slice none 0 0) (v1 := .slice none 0 0) (v2 := .int .i64 0)
        have HBE := Lib.hid (((HB1.out.trans (HBT.out.mono HB1.out.size)).trans (hb5.mono (HB1.out.trans (HBT.out.mono HB1.out.size)).size)).trans (h3.2.2 w.heap.size (by omega)))
        have HR3 := Lib.hid (h3.1 136 _ _ _ z5)
        clear h3 z5 hb5
        go_wp2
        (try simp only [Exit.inBlock, Exit.then])
        refine bodyPost_ret (res_ct rfl _ _ (w.heap.size + 1) 136 _ _ (.bool false) rfl rfl HR3.out Tryz.underlying136 rfl rfl) rfl ?_
        refine ⟨_, _, rfl, ?_, HBE.out⟩
        unfold SlvAt
        exact .inr (.inr (.inr ⟨HON.out, by rw [HTT.out]; exact hgt, by rw [HRZ.out]; rfl, by rw [HRZ.out]; exact rfl⟩))
end Go.Proofs.YtbnfnpakibkboaaGreat

namespace Go.Proofs.YtbnfnpakibkboaaGreat
set_option linter.unusedVariables false
set_option linter.unusedSimpArgs false
open Go.RowKit

theorem eq_nil26 (c : Nat) (w : World) : Sem.run Tryz.prog (binOp .eql 26 (.slice none 0 c) (.slice none 0 0)) w = .ok (.bool true) w := by kernel_rfl
theorem ne_nil26 (ad : Addr) (n c : Nat) (w : World) : Sem.run Tryz.prog (binOp .eql 26 (.slice (some ad) n c) (.slice none 0 0)) w = .ok (.bool false) w := by kernel_rfl
theorem fB_len : ∀ x : Bool, (fB x).length = 1 := fun _ => rfl
theorem fB_one : ∀ x : Bool, ∀ u ∈ fB x, u.oneCell' = true := fun x u hu => by
  rw [List.mem_singleton.1 hu]; rfl
set_option maxRecDepth 100000 in
set_option maxHeartbeats 4000000 in
theorem clone_any (A : Option Addr) (n c : Nat) (l : List Bool) (w : World) (hn : l.length = n) (hm : n ≤ 1000000) (hS : Sl w w.heap.size 1 CB A l) :
    Calls Tryz.prog 88 #[.slice A n c] w fun e w' => ∃ (A2 : Option Addr) (c2 : Nat), e = .returned (.slice A2 n c2) ∧ Own w' w.heap.size 4 1 fB (.slice A2 n c2) l ∧ Below w.heap.size w w' := by
  obtain ⟨i4, hi4, hz4, hs4, hy4⟩ := info_parts info4
  cases A with
  | none =>
    have hl : l = [] := by
      rcases Classical.em (l = []) with h | h
      · exact h
      · obtain ⟨b, o, e, _⟩ := hS h; cases e
    subst hl
    have hn0 : n = 0 := hn.symm
    subst hn0
    clear hn hS
    have heq := eq_nil26 c w
    go_enter Tryz.func88, Tryz.ntmps88
    go_wp2
    go_ret
    exact ⟨none, 0, rfl, Own.nil _ _ _ _ _, Below.refl _ _⟩
  | some ad =>
    have ho := Own.made (base := w.heap.size) (e := 4) (size := 1) (f := fB) w #[] 0 (Nat.le_refl _) (by unfold maxLen; omega) rfl
    have hSa : Sl (w.alloc (.cells #[] 4)) w.heap.size 1 (fun x cs => cs = fB x) (some ad) l := (hS.below ((Below.refl w.heap.size w).alloc (Nat.le_refl _) (.cells #[] 4)))
    have HS := Lib.hid hSa; have HO := Lib.hid ho; have HN := Lib.hid hn
    clear hS ho hSa hn
    have heq := ne_nil26 ad n c w
    go_enter Tryz.func88, Tryz.ntmps88
    go_wp2_with (at_builtin; go_must (refine wpList_app _ rfl (.tmp 5) (.tmp 6) _ rfl w.heap.size 4 i4 _ 1 1 Tryz.underlying26 hi4 hz4 hs4 hy4 rfl (by omega) fB_len fB_one (.slice (some ⟨w.heap.size, 0, none⟩) 0 0) [] rfl HO.out _ (some ad) l c (by rw [HN.out]; rfl) HS.out (by have := HN.out; unfold maxLen; simp only [List.length_nil]; omega) (by have := HN.out; simp only [List.length_nil]; omega) (by simp) (fun _ => .inr ⟨_, rfl⟩) ?_)
                 intro v2 w6 o2 gr2 at2 ne2
                 go_must (have HP := Lib.hid (And.intro o2 (bGrown ((Below.refl w.heap.size w).alloc (Nat.le_refl _) (.cells #[] 4)) gr2 (fun b hb => by have := (HO.out.lt b hb).1; exact this) (by simp))))
                 clear o2 gr2 at2 ne2)
    go_ret
    obtain ⟨A2, c2, hv, _, _, _⟩ := HP.out.1.form
    rw [List.nil_append, HN.out] at hv
    subst hv
    exact ⟨A2, c2, rfl, HP.out.1, HP.out.2⟩
end Go.Proofs.YtbnfnpakibkboaaGreat
