/- Contract of the specification: what a car touches. -/
import Derived.Test.YtekambdnmaompaaGreatJ6
import Derived.Test.YtekambdnmaompaaGreatJ7
namespace Go.Proofs.YtekambdnmaompaaGreat.SW
set_option linter.unusedVariables false
set_option linter.unusedSimpArgs false
open Go.RowKit

/-- does a strip lie in a part -/
def tq (x : C3) (L : List S) (k : Nat) : Bool := decide (x.frm < ((lenTo L (k + 1) : Nat) : Int)) && decide (((lenTo L k : Nat) : Int) < x.to)
def rpartK (x : C3) (L : List S) (k : Nat) : List (Int × Nat) := ((List.range k).filter (tq x L)).map fun j => (x.rail, j)
def rpart (p : Pl) (x : C3) : List (Int × Nat) := rpartK x (lnR p x.rail) ((lnR p x.rail).length - 1)
/-- the specification's list of strips that a car touches: rail and segment -/
def rtouched (p : Pl) (l : List C3) : List (Int × Nat) := l.flatMap (rpart p)
def fQ (q : Int × Nat) : List Value := [.int .i64 q.1, .int .i64 (q.2 : Int)]
theorem fQ_len (q : Int × Nat) : (fQ q).length = 2 := rfl
theorem fQ_one (q : Int × Nat) : ∀ u ∈ fQ q, u.oneCell' = true := by simp [fQ, Value.oneCell']
theorem rpartK_succ (x : C3) (L : List S) (k : Nat) : rpartK x L (k + 1) = rpartK x L k ++ (if tq x L k = true then [(x.rail, k)] else []) := by
  unfold rpartK
  rw [List.range_succ, List.filter_append, List.map_append]
  congr 1
  cases h : tq x L k <;> simp [List.filter_cons, h]
theorem rpartK_len (x : C3) (L : List S) (k : Nat) : (rpartK x L k).length ≤ k := by
  unfold rpartK
  rw [List.length_map]
  have := List.length_filter_le (tq x L) (List.range k)
  rwa [List.length_range] at this
theorem rtouched_take {p : Pl} {l : List C3} {i : Nat} {x : C3} (h : l[i]? = some x) : rtouched p (l.take (i + 1)) = rtouched p (l.take i) ++ rpart p x := by
  obtain ⟨hi, e⟩ := List.getElem?_eq_some_iff.1 h
  unfold rtouched
  rw [List.take_succ_eq_append_getElem hi, List.flatMap_append, e]
  simp
theorem cover_rlo {p : Pl} (hV : Vld p) {x : C3} (h : coverB p x = true) : ∃ (r : Nat) (L : List S), x.rail = (r : Int) ∧ lnR p x.rail = L ∧ RlOk p r L := by
  unfold coverB at h
  rw [Bool.and_eq_true] at h
  have h3 := of_decide_eq_true h.1
  obtain ⟨r, hr⟩ := Int.eq_ofNat_of_zero_le h3.1
  have hrl : r < p.rails.length := by omega
  exact ⟨r, _, hr, by rw [hr, lnR_eq hrl], Vld.rl hV hrl⟩
theorem rtouched_len {p : Pl} (hV : Vld p) : ∀ (l : List C3), l.all (coverB p) = true → (rtouched p l).length ≤ 41 * l.length
  | [], _ => by simp [rtouched]
  | x :: l, h => by
    rw [List.all_cons, Bool.and_eq_true] at h
    have h1 := rtouched_len hV l h.2
    obtain ⟨r, L, hr, hL, ho⟩ := cover_rlo hV h.1
    have h2 := rpartK_len x (lnR p x.rail) ((lnR p x.rail).length - 1)
    rw [hL] at h2
    have h3 := ho.le
    have e : rtouched p (x :: l) = rpart p x ++ rtouched p l := by simp [rtouched]
    rw [e, List.length_append, List.length_cons]
    unfold rpart
    rw [hL]
    omega
theorem info34 : (Tryz.prog.info? 34).map (fun i => (i.zero, i.size, i.bytes)) = some (some (.agg #[.int .i64 0, .int .i64 0]), 2, 16) := by kernel_rfl
set_option maxRecDepth 100000 in
set_option maxHeartbeats 8000000 in
theorem rtouched_any (A A2 AP : Option Addr) (c c2 ca n : Nat) (p : Pl) (l : List C3) (w : World) (hP : PlAt w w.heap.size A c A2 c2 p) (hV : Vld p) (hS : Sl w w.heap.size 3 CC AP l) (hn : l.length = n) (hC : l.all (coverB p) = true) (hn3 : n ≤ 300) :
    Calls Tryz.prog 76 #[.agg #[.slice A p.nodes.length c, .slice A2 p.rails.length c2], .slice AP n ca] w fun e w' => ∃ v, e = .returned v ∧ Own w' w.heap.size 34 2 fQ v (rtouched p l) ∧ Below w.heap.size w w' := by
  obtain ⟨i0, hi, hz0, hz1, hz2⟩ := info_parts info34
  have hb1 := (Below.refl _ w).alloc (Nat.le_refl _) (.cells #[.slice A p.nodes.length c, .slice A2 p.rails.length c2] 25)
  have q1 := Rw.new w #[.slice A p.nodes.length c, .slice A2 p.rails.length c2] 25
  have hzz : (w.alloc (.cells #[.slice A p.nodes.length c, .slice A2 p.rails.length c2] 25)).heap.size = w.heap.size + 1 := by simp
  obtain ⟨W1, hW1⟩ : ∃ z, w.alloc (.cells #[.slice A p.nodes.length c, .slice A2 p.rails.length c2] 25) = z := ⟨_, rfl⟩
  rw [hW1] at hb1 q1 hzz
  have HB1 := Lib.hid hb1
  have HZ1 := Lib.hid hzz
  have HR := Lib.hid (show ∀ wx, Below W1.heap.size W1 wx → Rw wx w.heap.size 25 #[.slice A p.nodes.length c, .slice A2 p.rails.length c2] from fun wx h => q1.below h (by omega))
  have HPB := Lib.hid (show ∀ wx, Below W1.heap.size W1 wx → PlAt wx wx.heap.size A c A2 c2 p from fun wx h => ((hP.below hb1).below (h.mono hb1.size)).more (Nat.le_trans hb1.size h.size))
  have HSP := Lib.hid (show ∀ wx, Below W1.heap.size W1 wx → ∀ i x, l[i]? = some x → ∃ b off, AP = some ⟨b, off, none⟩ ∧ b < W1.heap.size ∧ wx.cell? ⟨b, off + i * 3, none⟩ = some (.int .i64 x.rail) ∧ wx.cell? ⟨b, off + i * 3 + 1, none⟩ = some (.int .i64 x.frm) ∧ wx.cell? ⟨b, off + i * 3 + 2, none⟩ = some (.int .i64 x.to) from fun wx hx i x hp => by
    obtain ⟨hi, e⟩ := List.getElem?_eq_some_iff.1 hp
    obtain ⟨b, off, cs, eA, hb, hcc, hc⟩ := hS.at_ hi
    unfold CC at hcc
    subst hcc
    rw [e] at hc
    have hbb := hb1.trans (hx.mono hb1.size)
    exact ⟨b, off, eA, Nat.lt_of_lt_of_le hb hb1.size, (hbb.cell (p := ⟨b, off + i * 3, none⟩) hb).trans (hc 0 _ rfl), (hbb.cell (p := ⟨b, off + i * 3 + 1, none⟩) hb).trans (hc 1 _ rfl), (hbb.cell (p := ⟨b, off + i * 3 + 2, none⟩) hb).trans (hc 2 _ rfl)⟩)
  have HN := Lib.hid hn
  have HV := Lib.hid hV
  have HCX := Lib.hid (show ∀ i x, l[i]? = some x → coverB p x = true from fun i x h => by
    rw [List.all_eq_true] at hC; exact hC x (List.mem_of_getElem? h))
  have HCL := Lib.hid (show ∀ i, (rtouched p (l.take i)).length ≤ 41 * n from fun i => by
    have h1 := rtouched_len hV (l.take i) (by rw [List.all_eq_true] at hC ⊢; exact fun x hx => hC x (List.mem_of_mem_take hx))
    have h2 : (l.take i).length ≤ l.length := by rw [List.length_take]; omega
    omega)
  clear hb1 q1 hP hS hn hV hC hzz
  go_enter Tryz.func76, Tryz.ntmps76
  go_wp2
  go_loopw [5, 6] (fun s5 s6 wr => ∃ i : Nat, i ≤ n ∧ s6 = .int .i64 (i : Int) ∧ Own wr W1.heap.size 34 2 fQ s5 (rtouched p (l.take i)) ∧ Below W1.heap.size W1 wr) (fun _ s6 _ => n - (intOf s6).toNat)
  case atStart => exact ⟨0, Nat.zero_le _, rfl, by simpa [rtouched] using Own.nil _ _ _ _ _, Below.refl _ _⟩
  case round =>
    obtain ⟨i, hin0, rfl, hown, hb⟩ := hrel
    have HO := Lib.hid hown; have HB := Lib.hid hb
    clear hown
    by_cases hin : i < n
    · obtain ⟨x, hpart⟩ : ∃ z, l[i]? = some z := ⟨_, List.getElem?_eq_getElem (by have := HN.out; omega)⟩
      obtain ⟨b, off, eA, hbl, -, -, -⟩ := HSP.out _ hb i x hpart
      subst eA
      obtain ⟨r, L, hr, hLn, hL⟩ := cover_rlo HV.out (HCX.out i x hpart)
      have HL := Lib.hid hL
      obtain ⟨m, hm⟩ : ∃ m, L.length = m + 1 := ⟨L.length - 1, by have := hL.le; omega⟩
      have hm1 : 1 ≤ m ∧ m ≤ 41 := by have := hL.le; omega
      have HMM := Lib.hid (And.intro hm hm1)
      have HXR := Lib.hid hr
      have HNXT := Lib.hid (show rtouched p (l.take (i + 1)) = rtouched p (l.take i) ++ rpartK x L m from by
        rw [rtouched_take hpart]; unfold rpart; rw [hLn, hm]; rfl)
      have hST := fun (W : World) (hW : PlAt W W.heap.size A c A2 c2 p) => rStrips_any A A2 c c2 p r m W hW hL.hr (by have := hL.len; omega) (by omega)
      have HST := Lib.hid hST
      have HPC := Lib.hid (fun (k : Nat) (hk : k < m) (W : World) (hW : PlAt W W.heap.size A c A2 c2 p) => rPlace_any A A2 c c2 p r k L W hW hL (by omega))
      have HCELL := Lib.hid (show ∀ wx, Below W1.heap.size W1 wx → (wx.cell? ⟨w.heap.size, 0, none⟩ = some (.slice A p.nodes.length c) ∧ wx.cell? ⟨w.heap.size, 1, none⟩ = some (.slice A2 p.rails.length c2) ∧ wx.cell? ⟨b, off + i * 3, none⟩ = some (.int .i64 (r : Int))) from fun wx hwx => by
        have q2 := HR.out _ hwx
        obtain ⟨b', off', eA, -, k0, -, -⟩ := HSP.out _ hwx i x hpart
        obtain ⟨rfl, rfl⟩ : b = b' ∧ off = off' := by simpa using eA
        rw [hr] at k0
        exact ⟨q2.cell 0, q2.cell 1, k0⟩)
      have HCEL2 := Lib.hid (show ∀ wx, Below W1.heap.size W1 wx → wx.cell? ⟨b, off + i * 3 + 1, none⟩ = some (.int .i64 x.frm) ∧ wx.cell? ⟨b, off + i * 3 + 2, none⟩ = some (.int .i64 x.to) from fun wx hwx => by
        obtain ⟨b', off', eA, -, -, k1, k2⟩ := HSP.out _ hwx i x hpart
        obtain ⟨rfl, rfl⟩ : b = b' ∧ off = off' := by simpa using eA
        exact ⟨k1, k2⟩)
      have g1 : (i : Int) < (n : Int) := by omega
      have g0 : (0 : Int) ≤ (i : Int) := by omega
      have hbnd : i ≤ 300 := by omega
      clear hb hpart hL hST hr hLn hm hm1
      go_wp2
      go_loopw [5, 7] (fun s5 s7 wr => ∃ k : Nat, k ≤ m ∧ s7 = .int .i64 (k : Int) ∧ Own wr W1.heap.size 34 2 fQ s5 (rtouched p (l.take i) ++ rpartK x L k) ∧ Below W1.heap.size W1 wr) (fun _ s7 _ => m - (intOf s7).toNat)
      case atStart => exact ⟨0, Nat.zero_le _, rfl, by simpa [rpartK] using HO.out, HB.out⟩
      case round =>
        obtain ⟨k, hk, rfl, hown, hb⟩ := hrel
        obtain ⟨wb, rfl⟩ : ∃ z, z = wr := ⟨_, rfl⟩
        have HO2 := Lib.hid hown; have HB2 := Lib.hid hb
        clear hown hb
        by_cases hkm : k < m
        · have hkm' : (k : Int) < (m : Int) := by omega
          go_upto_region 6 with (fail)
          have hbq : Below wb.heap.size wb wb.drew := (Below.refl _ _).drew
          have HS := Lib.hid (HCELL.out _ (HB2.out.trans (hbq.mono HB2.out.size)))
          refine wp_region_held_drew (S := fun wx => wx.cell? ⟨w.heap.size, 0, none⟩ = some (.slice A p.nodes.length c) ∧ wx.cell? ⟨w.heap.size, 1, none⟩ = some (.slice A2 p.rails.length c2) ∧ wx.cell? ⟨b, off + i * 3, none⟩ = some (.int .i64 (r : Int))) (by kernel_rfl) HS.out (fun _ => ?_)
          refine hTake (i := 0) (d := 17) (v := .int .i64 (k : Int)) rfl rfl (by kernel_rfl) (by kernel_rfl) (by kernel_rfl) (fun _ _ _ h => h) (Or.inl ⟨rfl, ?gr⟩) HS.out ?_
          case gr =>
            rintro W' ⟨s0, s1, s2⟩
            go_simp
          simp only [Act.put, List.setIfInBounds_toArray, List.set_cons_zero, List.set_cons_succ]
          refine hTake (i := 1) (d := 18) (v := .agg #[.slice A p.nodes.length c, .slice A2 p.rails.length c2]) rfl rfl (by kernel_rfl) (by kernel_rfl) (by kernel_rfl) (fun _ _ _ h => h) (Or.inl ⟨rfl, ?gr⟩) HS.out ?_
          case gr =>
            rintro W' ⟨s0, s1, s2⟩
            go_simp
          simp only [Act.put, List.setIfInBounds_toArray, List.set_cons_zero, List.set_cons_succ]
          refine hTake (i := 2) (d := 19) (v := .slice (some ⟨b, off, none⟩) n ca) rfl rfl (by kernel_rfl) (by kernel_rfl) (by kernel_rfl) (fun _ _ _ h => h) (Or.inl ⟨rfl, ?gr⟩) HS.out ?_
          case gr =>
            rintro W' ⟨s0, s1, s2⟩
            go_simp
          simp only [Act.put, List.setIfInBounds_toArray, List.set_cons_zero, List.set_cons_succ]
          refine hTake (i := 3) (d := 20) (v := .int .i64 (i : Int)) rfl rfl (by kernel_rfl) (by kernel_rfl) (by kernel_rfl) (fun _ _ _ h => h) (Or.inl ⟨rfl, ?gr⟩) HS.out ?_
          case gr =>
            rintro W' ⟨s0, s1, s2⟩
            go_simp
          simp only [Act.put, List.setIfInBounds_toArray, List.set_cons_zero, List.set_cons_succ]
          refine hTake (i := 4) (d := 21) (v := .pointer (some ⟨b, off + i * 3, none⟩)) rfl rfl (by kernel_rfl) (by kernel_rfl) (by kernel_rfl) (fun _ _ _ h => h) (Or.inl ⟨rfl, ?gr⟩) HS.out ?_
          case gr =>
            rintro W' ⟨s0, s1, s2⟩
            go_simp
          simp only [Act.put, List.setIfInBounds_toArray, List.set_cons_zero, List.set_cons_succ]
          refine hTake (i := 5) (d := 22) (v := .pointer (some ⟨b, off + i * 3, none⟩)) rfl rfl (by kernel_rfl) (by kernel_rfl) (by kernel_rfl) (fun _ _ _ h => h) (Or.inl ⟨rfl, ?gr⟩) HS.out ?_
          case gr =>
            rintro W' ⟨s0, s1, s2⟩
            go_simp
          simp only [Act.put, List.setIfInBounds_toArray, List.set_cons_zero, List.set_cons_succ]
          refine hTake (i := 6) (d := 23) (v := .int .i64 (r : Int)) rfl rfl (by kernel_rfl) (by kernel_rfl) (by kernel_rfl) (fun _ _ _ h => h) (Or.inl ⟨rfl, ?gr⟩) HS.out ?_
          case gr =>
            rintro W' ⟨s0, s1, s2⟩
            go_simp
          simp only [Act.put, List.setIfInBounds_toArray, List.set_cons_zero, List.set_cons_succ]
          refine wpAnyH_ready (rs := [7]) (by kernel_rfl) (by simp) ?_
          refine AllReadyH.cons rfl (fun K hK => ?_) AllReadyH.nil
          rw [if_pos (by rfl)]
          go_simp
          go_at_call 20
          (with_reducible refine (HST.out _ (HPB.out _ (HB2.out.trans (hbq.mono HB2.out.size)))).mono ?_)
          rintro e wc ⟨rfl, hbc⟩
          replace hbq := hbq.trans (hbc.mono hbq.size)
          have HS := Lib.hid (HCELL.out _ (HB2.out.trans (hbq.mono HB2.out.size)))
          clear hbc
          refine hK.out _ _ HS.out (fun _ => ?_)
          clear hK K
          try simp only [Act.put, List.setIfInBounds_toArray, List.set_cons_zero, List.set_cons_succ]
          refine hTake (i := 8) (d := 25) (v := .bool true) rfl rfl (by kernel_rfl) (by kernel_rfl) (by kernel_rfl) (fun _ _ _ h => h) (Or.inl ⟨rfl, ?gr⟩) HS.out ?_
          case gr =>
            rintro W' ⟨s0, s1, s2⟩
            go_simp
          simp only [Act.put, List.setIfInBounds_toArray, List.set_cons_zero, List.set_cons_succ]
          refine wpAnyH_done (by kernel_rfl) ?_ _

          have HO3 := Lib.hid (HO2.out.below hbq (Nat.le_refl _))
          have HB3 := Lib.hid (HB2.out.trans (hbq.mono HB2.out.size))
          have HPCK := Lib.hid (HPC.out k hkm)
          have HS1 := Lib.hid (rpartK_succ x L k)
          have HLL := Lib.hid (show (rtouched p (l.take i) ++ rpartK x L k).length ≤ 12400 from by
            have h1 := HCL.out i; have h2 := rpartK_len x L k; have h3 := HMM.out; rw [List.length_append]; omega)
          obtain ⟨f0, hf0⟩ : ∃ z, ((lenTo L k : Nat) : Int) = z := ⟨_, rfl⟩
          obtain ⟨f1, hf1⟩ : ∃ z, ((lenTo L (k + 1) : Nat) : Int) = z := ⟨_, rfl⟩
          rw [hf0, hf1] at HPCK
          have HTQ := Lib.hid (show tq x L k = (decide (x.frm < f1) && decide (f0 < x.to)) from by unfold tq; rw [hf0, hf1])
          clear hbq HS hf0 hf1
          obtain ⟨c0, c1, c2'⟩ := HCELL.out _ HB3.out
          have hb5 := (Below.refl _ wc).alloc (Nat.le_refl _) (.cells #[.int .i64 (r : Int), .int .i64 (k : Int)] 34)
          have q5 := Rw.new wc #[.int .i64 (r : Int), .int .i64 (k : Int)] 34
          have hz5 : (wc.alloc (.cells #[.int .i64 (r : Int), .int .i64 (k : Int)] 34)).heap.size = wc.heap.size + 1 := by simp
          obtain ⟨W5, hW5⟩ : ∃ z, wc.alloc (.cells #[.int .i64 (r : Int), .int .i64 (k : Int)] 34) = z := ⟨_, rfl⟩
          rw [hW5] at hb5 q5 hz5
          have HB5 := Lib.hid (HB3.out.trans (hb5.mono HB3.out.size))
          have HO5 := Lib.hid (HO3.out.below hb5 (Nat.le_refl _))
          have HQ5 := Lib.hid (show ∀ wx, Below W5.heap.size W5 wx → Rw wx wc.heap.size 34 #[.int .i64 (r : Int), .int .i64 (k : Int)] from fun wx h => q5.below h (by omega))
          obtain ⟨c5, c6, -⟩ := HCELL.out _ HB5.out
          have c7 := q5.cell 0; have c8 := q5.cell 1
          clear hb5 q5 hz5
          go_wp2_with fail
          refine (HPCK.out _ (HPB.out _ HB5.out)).mono ?_
          rintro e w6 ⟨rfl, hb6⟩
          have HB6 := Lib.hid (HB5.out.trans (hb6.mono HB5.out.size))
          have HO6 := Lib.hid (HO5.out.below hb6 (Nat.le_refl _))
          obtain ⟨c3, c4⟩ := HCEL2.out _ HB6.out
          have q6 := HQ5.out _ hb6
          have c0 := q6.cell 0; have c1 := q6.cell 1
          have hk41 : k ≤ 41 := by have := HMM.out; omega
          clear hb6 q6 hW5 c2' c5 c6 c7 c8
          by_cases hfr : x.frm < f1
          · by_cases hto : f0 < x.to
            · have HTT := Lib.hid (show tq x L k = true from by rw [HTQ.out, decide_eq_true hfr, decide_eq_true hto]; rfl)
              have HNV := Lib.hid (show (#[.int .i64 (r : Int), .int .i64 (k : Int)] : Array Value) = (fQ (x.rail, k)).toArray from by unfold fQ; rw [HXR.out])
              go_wp2_with (at_builtin; go_must (refine wpList_app _ rfl (.tmp 57) (.tmp 59) _ rfl W1.heap.size 34 i0 _ 2 16 Tryz.underlying138 hi hz0 hz1 hz2 rfl (by omega) fQ_len fQ_one u5 _ rfl (HO6.out.alloc _) _ _ [(x.rail, k)] 1 rfl (Sl.new _ _ _ _ HNV.out) (by simp only [maxLen, List.length_cons, List.length_nil]; have := HLL.out; omega) (by simp only [List.length_cons, List.length_nil]; have := HLL.out; omega) (by have := HB6.out.size; simp; omega) (fun _ => .inr ⟨_, rfl⟩) ?_); intro v2 w8 o2 gr2 at2 ne2)
              have hB8 := (HB6.out.alloc HB6.out.size (.cells #[.int .i64 (r : Int), .int .i64 (k : Int)] 34)).grown gr2 (by have := HB6.out.size; simp; omega) (fun q hq => (HO6.out.lt q hq).1)
              go_roundw
              case rel => exact ⟨k + 1, by omega, vi (by omega), by rw [HS1.out, if_pos HTT.out, ← List.append_assoc]; exact o2, hB8⟩
              case measure => simp [intOf] <;> omega
            · have HTT := Lib.hid (show tq x L k ≠ true from by rw [HTQ.out, decide_eq_false hto]; simp)
              go_wp2
              go_roundw
              case rel => exact ⟨k + 1, by omega, vi (by omega), by rw [HS1.out, if_neg HTT.out, List.append_nil]; exact HO6.out, HB6.out⟩
              case measure => simp [intOf] <;> omega
          · have HTT := Lib.hid (show tq x L k ≠ true from by rw [HTQ.out, decide_eq_false hfr]; simp)
            go_wp2
            go_roundw
            case rel => exact ⟨k + 1, by omega, vi (by omega), by rw [HS1.out, if_neg HTT.out, List.append_nil]; exact HO6.out, HB6.out⟩
            case measure => simp [intOf] <;> omega
        · obtain rfl : k = m := by omega
          have hkm' : ¬ (k : Int) < (k : Int) := by omega
          go_upto_region 6 with (fail)
          have hbq : Below wb.heap.size wb wb.drew := (Below.refl _ _).drew
          have HS := Lib.hid (HCELL.out _ (HB2.out.trans (hbq.mono HB2.out.size)))
          refine wp_region_held_drew (S := fun wx => wx.cell? ⟨w.heap.size, 0, none⟩ = some (.slice A p.nodes.length c) ∧ wx.cell? ⟨w.heap.size, 1, none⟩ = some (.slice A2 p.rails.length c2) ∧ wx.cell? ⟨b, off + i * 3, none⟩ = some (.int .i64 (r : Int))) (by kernel_rfl) HS.out (fun _ => ?_)
          refine hTake (i := 0) (d := 17) (v := .int .i64 (k : Int)) rfl rfl (by kernel_rfl) (by kernel_rfl) (by kernel_rfl) (fun _ _ _ h => h) (Or.inl ⟨rfl, ?gr⟩) HS.out ?_
          case gr =>
            rintro W' ⟨s0, s1, s2⟩
            go_simp
          simp only [Act.put, List.setIfInBounds_toArray, List.set_cons_zero, List.set_cons_succ]
          refine hTake (i := 1) (d := 18) (v := .agg #[.slice A p.nodes.length c, .slice A2 p.rails.length c2]) rfl rfl (by kernel_rfl) (by kernel_rfl) (by kernel_rfl) (fun _ _ _ h => h) (Or.inl ⟨rfl, ?gr⟩) HS.out ?_
          case gr =>
            rintro W' ⟨s0, s1, s2⟩
            go_simp
          simp only [Act.put, List.setIfInBounds_toArray, List.set_cons_zero, List.set_cons_succ]
          refine hTake (i := 2) (d := 19) (v := .slice (some ⟨b, off, none⟩) n ca) rfl rfl (by kernel_rfl) (by kernel_rfl) (by kernel_rfl) (fun _ _ _ h => h) (Or.inl ⟨rfl, ?gr⟩) HS.out ?_
          case gr =>
            rintro W' ⟨s0, s1, s2⟩
            go_simp
          simp only [Act.put, List.setIfInBounds_toArray, List.set_cons_zero, List.set_cons_succ]
          refine hTake (i := 3) (d := 20) (v := .int .i64 (i : Int)) rfl rfl (by kernel_rfl) (by kernel_rfl) (by kernel_rfl) (fun _ _ _ h => h) (Or.inl ⟨rfl, ?gr⟩) HS.out ?_
          case gr =>
            rintro W' ⟨s0, s1, s2⟩
            go_simp
          simp only [Act.put, List.setIfInBounds_toArray, List.set_cons_zero, List.set_cons_succ]
          refine hTake (i := 4) (d := 21) (v := .pointer (some ⟨b, off + i * 3, none⟩)) rfl rfl (by kernel_rfl) (by kernel_rfl) (by kernel_rfl) (fun _ _ _ h => h) (Or.inl ⟨rfl, ?gr⟩) HS.out ?_
          case gr =>
            rintro W' ⟨s0, s1, s2⟩
            go_simp
          simp only [Act.put, List.setIfInBounds_toArray, List.set_cons_zero, List.set_cons_succ]
          refine hTake (i := 5) (d := 22) (v := .pointer (some ⟨b, off + i * 3, none⟩)) rfl rfl (by kernel_rfl) (by kernel_rfl) (by kernel_rfl) (fun _ _ _ h => h) (Or.inl ⟨rfl, ?gr⟩) HS.out ?_
          case gr =>
            rintro W' ⟨s0, s1, s2⟩
            go_simp
          simp only [Act.put, List.setIfInBounds_toArray, List.set_cons_zero, List.set_cons_succ]
          refine hTake (i := 6) (d := 23) (v := .int .i64 (r : Int)) rfl rfl (by kernel_rfl) (by kernel_rfl) (by kernel_rfl) (fun _ _ _ h => h) (Or.inl ⟨rfl, ?gr⟩) HS.out ?_
          case gr =>
            rintro W' ⟨s0, s1, s2⟩
            go_simp
          simp only [Act.put, List.setIfInBounds_toArray, List.set_cons_zero, List.set_cons_succ]
          refine wpAnyH_ready (rs := [7]) (by kernel_rfl) (by simp) ?_
          refine AllReadyH.cons rfl (fun K hK => ?_) AllReadyH.nil
          rw [if_pos (by rfl)]
          go_simp
          go_at_call 20
          (with_reducible refine (HST.out _ (HPB.out _ (HB2.out.trans (hbq.mono HB2.out.size)))).mono ?_)
          rintro e wc ⟨rfl, hbc⟩
          replace hbq := hbq.trans (hbc.mono hbq.size)
          have HS := Lib.hid (HCELL.out _ (HB2.out.trans (hbq.mono HB2.out.size)))
          clear hbc
          refine hK.out _ _ HS.out (fun _ => ?_)
          clear hK K
          try simp only [Act.put, List.setIfInBounds_toArray, List.set_cons_zero, List.set_cons_succ]
          refine hTake (i := 8) (d := 25) (v := .bool false) rfl rfl (by kernel_rfl) (by kernel_rfl) (by kernel_rfl) (fun _ _ _ h => h) (Or.inl ⟨rfl, ?gr⟩) HS.out ?_
          case gr =>
            rintro W' ⟨s0, s1, s2⟩
            go_simp
          simp only [Act.put, List.setIfInBounds_toArray, List.set_cons_zero, List.set_cons_succ]
          refine wpAnyH_done (by kernel_rfl) ?_ _

          have HO3 := Lib.hid (HO2.out.below hbq (Nat.le_refl _))
          have HB3 := Lib.hid (HB2.out.trans (hbq.mono HB2.out.size))
          clear hbq HS
          go_wp2
          go_roundw
          case rel => exact ⟨i + 1, by omega, vi (by omega), by rw [HNXT.out]; exact HO3.out, HB3.out⟩
          case measure => simp [intOf] <;> omega
    · obtain rfl : i = n := by omega
      have HFIN := Lib.hid (show rtouched p (l.take i) = rtouched p l from by rw [List.take_of_length_le (by rw [HN.out]; omega)])
      clear hb
      go_wp2
      go_ret
      exact ⟨_, rfl, by rw [← HFIN.out]; exact HO.out.lower (by have := HZ1.out; omega), HB1.out.trans (HB.out.mono HB1.out.size)⟩
end Go.Proofs.YtekambdnmaompaaGreat.SW
