/- Contract of the specification: Covers. -/
import Derived.Test.YtekambdnmaompaaGreatJ6
namespace Go.Proofs.YtekambdnmaompaaGreat.SW
set_option linter.unusedVariables false
set_option linter.unusedSimpArgs false
open Go.RowKit

def touchB (p : Pl) (l : List C3) : Bool := l.all (coverB p) && decide (l.length ≤ 100)
theorem touchB_iff {p : Pl} {l : List C3} : touchB p l = true ↔ TouchOk p l := by
  unfold touchB TouchOk
  rw [Bool.and_eq_true, decide_eq_true_iff]
  exact And.comm
theorem all_take_snoc {α : Type} {f : α → Bool} {l : List α} {i : Nat} {x : α} (h : l[i]? = some x) : (l.take (i + 1)).all f = ((l.take i).all f && f x) := by
  obtain ⟨hi, e⟩ := List.getElem?_eq_some_iff.1 h
  rw [List.take_succ_eq_append_getElem hi, List.all_append, e]
  simp
theorem all_not {α : Type} {f : α → Bool} {l : List α} {i : Nat} {x : α} (h : l[i]? = some x) (hf : f x = false) : l.all f = false := by
  cases ha : l.all f with
  | false => rfl
  | true =>
    rw [List.all_eq_true] at ha
    rw [ha x (List.mem_of_getElem? h)] at hf
    cases hf
theorem rCov_len (A A2 : Option Addr) (c c2 : Nat) (p : Pl) (r : Int) (w : World) (hP : PlAt w w.heap.size A c A2 c2 p) (hV : Vld p) (hr : railIn p r = true) :
    Calls Tryz.prog 44 #[.agg #[.slice A p.nodes.length c, .slice A2 p.rails.length c2], .int .i64 r] w fun e w' => e = .returned (.int .i64 (lastEn p r)) ∧ Below w.heap.size w w' := by
  have h3 := of_decide_eq_true hr
  obtain ⟨n, rfl⟩ := Int.eq_ofNat_of_zero_le h3.1
  have hrl : n < p.rails.length := by omega
  have hL := Vld.rl hV hrl
  have := rLength_any A A2 c c2 p n w hP hL.hr hL.h1 hL.h2 hL.hs hL.hR
  have e : lastEn p (n : Int) = ((lenOf (lineOf p p.rails[n]) : Nat) : Int) := by unfold lastEn; rw [lnR_eq hrl]; rfl
  rw [e]
  exact this
theorem hTk {P : Program} {ops : Array Oper} {Q : Exit → Act → World → Prop} {md : Region.Mode} {S : World → Prop} {i : Nat} {d : Tmp} {oi : Oper} {v : Value} {fuel : Nat} {listed : Array Bool} {a : Act} {w : World} (hi : ops[i]? = some oi) (hd : oi.dst = some d)
    (hy : YieldsIf P ops S oi v a) (hS : S w) (h : wpAnyH P md ops Q S fuel (listed.setIfInBounds i true) (a.put (some d) v) w)
    (hs : Region.noSelect ops = true := by kernel_rfl) (hf : Region.free md ops listed i = true := by kernel_rfl) (hr : (Region.ready md ops listed).contains i = true := by kernel_rfl)
    (hQ : ∀ c a w, Q (.panic c) (a.put (some d) v) w → Q (.panic c) a w := by exact fun _ _ _ h => h) : wpAnyH P md ops Q S (fuel + 1) listed a w := hTake hi hd hs hf hr hQ hy hS h
theorem sB {α : Type} {l : List α} {i : Nat} {a : α} : l.toArray.setIfInBounds i a = (l.set i a).toArray := List.setIfInBounds_toArray _ _ _
theorem sZ {α : Type} {l : List α} {x a : α} : (x :: l).set 0 a = a :: l := List.set_cons_zero
theorem sS {α : Type} {l : List α} {x a : α} {i : Nat} : (x :: l).set (i + 1) a = x :: l.set i a := List.set_cons_succ
set_option maxRecDepth 100000 in
set_option maxHeartbeats 8000000 in
theorem rCovers_any (A A2 AP : Option Addr) (c c2 ca n : Nat) (p : Pl) (l : List C3) (w : World) (hP : PlAt w w.heap.size A c A2 c2 p) (hV : Vld p) (hS : Sl w w.heap.size 3 CC AP l) (hn : l.length = n) (hn3 : n ≤ 300) :
    Calls Tryz.prog 42 #[.agg #[.slice A p.nodes.length c, .slice A2 p.rails.length c2], .slice AP n ca] w fun e w' => e = .returned (.bool (touchB p l)) ∧ Below w.heap.size w w' := by
  have hrm := hP.rm; have hrc := hP.rc
  obtain ⟨N, hN⟩ : ∃ z, p.rails.length = z := ⟨_, rfl⟩
  have HIN := Lib.hid (show ∀ (r : Int) (w : World), Calls Tryz.prog 64 #[.int .i64 r, .int .i64 0, .int .i64 ((N : Int) - 1)] w fun e w' => e = .returned (.bool (railIn p r)) ∧ w = w' from fun r w => by
    have := rin_any r 0 ((N : Int) - 1) w
    rwa [show inB r 0 ((N : Int) - 1) = railIn p r by unfold inB railIn; rw [← Bool.decide_and, hN]; exact decide_eq_decide.2 (by omega)] at this)
  have hb1 := (Below.refl _ w).alloc (Nat.le_refl _) (.cells #[.slice A p.nodes.length c, .slice A2 N c2] 25)
  have q1 := Rw.new w #[.slice A p.nodes.length c, .slice A2 N c2] 25
  have hzz : (w.alloc (.cells #[.slice A p.nodes.length c, .slice A2 N c2] 25)).heap.size = w.heap.size + 1 := by simp
  obtain ⟨W1, hW1⟩ : ∃ z, w.alloc (.cells #[.slice A p.nodes.length c, .slice A2 N c2] 25) = z := ⟨_, rfl⟩
  rw [hW1] at hb1 q1 hzz
  have HB1 := Lib.hid hb1
  have HR := Lib.hid (show ∀ wx, Below W1.heap.size W1 wx → Rw wx w.heap.size 25 #[.slice A p.nodes.length c, .slice A2 N c2] from fun wx h => q1.below h (by omega))
  have HLN := Lib.hid (show ∀ (r : Int), railIn p r = true → ∀ wx, Below W1.heap.size W1 wx → Calls Tryz.prog 44 #[.agg #[.slice A p.nodes.length c, .slice A2 N c2], .int .i64 r] wx fun e w' => e = .returned (.int .i64 (lastEn p r)) ∧ Below wx.heap.size wx w' from fun r hr wx h => by
    rw [← hN]
    exact rCov_len A A2 c c2 p r wx (((hP.below hb1).below (h.mono hb1.size)).more (Nat.le_trans hb1.size h.size)) hV hr)
  have HSP := Lib.hid (show ∀ wx, Below W1.heap.size W1 wx → ∀ i x, l[i]? = some x → ∃ b off, AP = some ⟨b, off, none⟩ ∧ b < wx.heap.size ∧ wx.cell? ⟨b, off + i * 3, none⟩ = some (.int .i64 x.rail) ∧ wx.cell? ⟨b, off + i * 3 + 1, none⟩ = some (.int .i64 x.frm) ∧ wx.cell? ⟨b, off + i * 3 + 2, none⟩ = some (.int .i64 x.to) from fun wx hx i x hp => by
    obtain ⟨hi, e⟩ := List.getElem?_eq_some_iff.1 hp
    obtain ⟨b, off, cs, eA, hb, hcc, hc⟩ := hS.at_ hi
    unfold CC at hcc
    subst hcc
    rw [e] at hc
    have hbb := hb1.trans (hx.mono hb1.size)
    exact ⟨b, off, eA, Nat.lt_of_lt_of_le hb hbb.size, (hbb.cell (p := ⟨b, off + i * 3, none⟩) hb).trans (hc 0 _ rfl), (hbb.cell (p := ⟨b, off + i * 3 + 1, none⟩) hb).trans (hc 1 _ rfl), (hbb.cell (p := ⟨b, off + i * 3 + 2, none⟩) hb).trans (hc 2 _ rfl)⟩)
  have HN := Lib.hid hn
  have HBAD := Lib.hid (show ∀ i x, l[i]? = some x → coverB p x = false → touchB p l = false from fun i x hp hc => by unfold touchB; rw [all_not hp hc]; rfl)
  have w1' : IntKind.i64.wrap ((N : Int) - 1) = (N : Int) - 1 := by rw [IntKind.wrap_i64]; omega
  rw [hN]
  clear hb1 q1 hP hS hn hV hN hrm hrc
  go_enter Tryz.func42, Tryz.ntmps42
  go_wp2
  go_loopw [5] (fun s5 wr => ∃ i : Nat, i ≤ n ∧ s5 = .int .i64 (i : Int) ∧ (l.take i).all (coverB p) = true ∧ Below W1.heap.size W1 wr) (fun s5 _ => n - (intOf s5).toNat)
  case atStart => exact ⟨0, Nat.zero_le _, rfl, by simp, Below.refl _ _⟩
  case round =>
    obtain ⟨i, hi, rfl, hall, hb⟩ := hrel
    obtain ⟨wb, rfl⟩ : ∃ z, z = wr := ⟨_, rfl⟩
    have HALL := Lib.hid hall; have HB := Lib.hid hb
    clear hall
    by_cases hin : i < n
    · obtain ⟨x, hpart⟩ : ∃ z, l[i]? = some z := ⟨_, List.getElem?_eq_getElem (by have := HN.out; omega)⟩
      obtain ⟨b, off, eA, hbl, k0, k1, k2⟩ := HSP.out wb hb i x hpart
      subst eA
      have HPT := Lib.hid hpart
      have q1 := HR.out _ hb
      have HCELL := Lib.hid (show ∀ wx, Below wb.heap.size wb wx → wx.cell? ⟨w.heap.size, 0, none⟩ = some (.slice A p.nodes.length c) ∧ wx.cell? ⟨w.heap.size, 1, none⟩ = some (.slice A2 N c2) ∧ wx.cell? ⟨b, off + i * 3, none⟩ = some (.int .i64 x.rail) ∧ wx.cell? ⟨b, off + i * 3 + 1, none⟩ = some (.int .i64 x.frm) ∧ wx.cell? ⟨b, off + i * 3 + 2, none⟩ = some (.int .i64 x.to) from fun wx hwx => by
        have q2 := q1.below hwx q1.lt
        exact ⟨q2.cell 0, q2.cell 1, (hwx.cell (p := ⟨b, off + i * 3, none⟩) hbl).trans k0, (hwx.cell (p := ⟨b, off + i * 3 + 1, none⟩) hbl).trans k1, (hwx.cell (p := ⟨b, off + i * 3 + 2, none⟩) hbl).trans k2⟩)
      have g1 : (i : Int) < (n : Int) := by omega
      have g0 : (0 : Int) ≤ (i : Int) := by omega
      have HIR := Lib.hid (HIN.out x.rail)
      have hii : i ≤ 300 := by omega
      clear hb q1 k0 k1 k2 hpart
      cases hri : railIn p x.rail with
      | false =>
        rw [hri] at HIR
        have HNO := Lib.hid (HBAD.out i x HPT.out (by unfold coverB; rw [hri]; rfl))
        clear hri
        go_upto_region 4 with (fail)
        have hbq : Below wb.heap.size wb wb.drew := (Below.refl _ _).drew
        have HS := Lib.hid (HCELL.out _ hbq)
        refine wp_region_held_drew (S := fun wx => wx.cell? ⟨w.heap.size, 0, none⟩ = some (.slice A p.nodes.length c) ∧ wx.cell? ⟨w.heap.size, 1, none⟩ = some (.slice A2 N c2) ∧ wx.cell? ⟨b, off + i * 3, none⟩ = some (.int .i64 x.rail) ∧ wx.cell? ⟨b, off + i * 3 + 1, none⟩ = some (.int .i64 x.frm) ∧ wx.cell? ⟨b, off + i * 3 + 2, none⟩ = some (.int .i64 x.to)) (by kernel_rfl) HS.out (fun _ => ?_)
        refine hTk (i := 0) (d := 12) (v := .slice (some ⟨b, off, none⟩) n ca) rfl rfl (Or.inl ⟨rfl, by rintro W' ⟨s0, s1, s2, s3, s4⟩; go_simp⟩) HS.out ?_
        simp only [Act.put, sB, sZ, sS]
        refine hTk (i := 1) (d := 13) (v := .int .i64 (i : Int)) rfl rfl (Or.inl ⟨rfl, by rintro W' ⟨s0, s1, s2, s3, s4⟩; go_simp⟩) HS.out ?_
        simp only [Act.put, sB, sZ, sS]
        refine hTk (i := 2) (d := 14) (v := .pointer (some ⟨b, off + i * 3, none⟩)) rfl rfl (Or.inl ⟨rfl, by rintro W' ⟨s0, s1, s2, s3, s4⟩; go_simp⟩) HS.out ?_
        simp only [Act.put, sB, sZ, sS]
        refine hTk (i := 3) (d := 15) (v := .pointer (some ⟨b, off + i * 3, none⟩)) rfl rfl (Or.inl ⟨rfl, by rintro W' ⟨s0, s1, s2, s3, s4⟩; go_simp⟩) HS.out ?_
        simp only [Act.put, sB, sZ, sS]
        refine hTk (i := 4) (d := 16) (v := .int .i64 x.rail) rfl rfl (Or.inl ⟨rfl, by rintro W' ⟨s0, s1, s2, s3, s4⟩; go_simp⟩) HS.out ?_
        simp only [Act.put, sB, sZ, sS]
        refine hTk (i := 5) (d := 17) (v := .pointer (some ⟨w.heap.size, 1, none⟩)) rfl rfl (Or.inl ⟨rfl, by rintro W' ⟨s0, s1, s2, s3, s4⟩; go_simp⟩) HS.out ?_
        simp only [Act.put, sB, sZ, sS]
        refine hTk (i := 6) (d := 18) (v := .slice A2 N c2) rfl rfl (Or.inl ⟨rfl, by rintro W' ⟨s0, s1, s2, s3, s4⟩; go_simp⟩) HS.out ?_
        simp only [Act.put, sB, sZ, sS]
        refine hTk (i := 7) (d := 19) (v := .int .i64 (N : Int)) rfl rfl (Or.inl ⟨rfl, by rintro W' ⟨s0, s1, s2, s3, s4⟩; go_simp⟩) HS.out ?_
        simp only [Act.put, sB, sZ, sS]
        refine hTk (i := 8) (d := 20) (v := .int .i64 ((N : Int) - 1)) rfl rfl (Or.inl ⟨rfl, by rintro W' ⟨s0, s1, s2, s3, s4⟩; go_simp⟩) HS.out ?_
        simp only [Act.put, sB, sZ, sS]
        refine wpAnyH_ready (rs := [9]) (by kernel_rfl) (by simp) ?_
        refine AllReadyH.cons rfl (fun K hK => ?_) AllReadyH.nil
        rw [if_pos (by rfl)]
        go_simp
        go_at_call 64
        (with_reducible refine (HIR.out _).mono ?_)
        rintro e v1 ⟨rfl, rfl⟩
        refine hK.out _ _ HS.out (fun _ => ?_)
        clear hK K
        try simp only [Act.put, sB, sZ, sS]
        refine hTk (i := 10) (d := 22) (v := .bool true) rfl rfl (Or.inl ⟨rfl, by rintro W' ⟨s0, s1, s2, s3, s4⟩; go_simp⟩) HS.out ?_
        simp only [Act.put, sB, sZ, sS]
        refine hTk (i := 11) (d := 23) (v := .bool true) rfl rfl (Or.inl ⟨rfl, by rintro W' ⟨s0, s1, s2, s3, s4⟩; go_simp⟩) HS.out ?_
        simp only [Act.put, sB, sZ, sS]
        refine hTk (i := 12) (d := 24) (v := undef) rfl rfl (Or.inr ⟨rfl, rfl⟩) HS.out ?_
        simp only [Act.put, sB, sZ, sS]
        refine hTk (i := 13) (d := 25) (v := undef) rfl rfl (Or.inr ⟨rfl, rfl⟩) HS.out ?_
        simp only [Act.put, sB, sZ, sS]
        refine hTk (i := 14) (d := 26) (v := undef) rfl rfl (Or.inr ⟨rfl, rfl⟩) HS.out ?_
        simp only [Act.put, sB, sZ, sS]
        refine hTk (i := 15) (d := 27) (v := undef) rfl rfl (Or.inr ⟨rfl, rfl⟩) HS.out ?_
        simp only [Act.put, sB, sZ, sS]
        refine hTk (i := 16) (d := 28) (v := undef) rfl rfl (Or.inr ⟨rfl, rfl⟩) HS.out ?_
        simp only [Act.put, sB, sZ, sS]
        refine hTk (i := 17) (d := 29) (v := undef) rfl rfl (Or.inr ⟨rfl, rfl⟩) HS.out ?_
        simp only [Act.put, sB, sZ, sS]
        refine hTk (i := 18) (d := 30) (v := .bool true) rfl rfl (Or.inl ⟨rfl, by rintro W' ⟨s0, s1, s2, s3, s4⟩; go_simp⟩) HS.out ?_
        simp only [Act.put, sB, sZ, sS]
        refine hTk (i := 19) (d := 31) (v := .bool true) rfl rfl (Or.inl ⟨rfl, by rintro W' ⟨s0, s1, s2, s3, s4⟩; go_simp⟩) HS.out ?_
        simp only [Act.put, sB, sZ, sS]
        refine hTk (i := 20) (d := 32) (v := undef) rfl rfl (Or.inr ⟨rfl, rfl⟩) HS.out ?_
        simp only [Act.put, sB, sZ, sS]
        refine hTk (i := 21) (d := 33) (v := undef) rfl rfl (Or.inr ⟨rfl, rfl⟩) HS.out ?_
        simp only [Act.put, sB, sZ, sS]
        refine hTk (i := 22) (d := 34) (v := undef) rfl rfl (Or.inr ⟨rfl, rfl⟩) HS.out ?_
        simp only [Act.put, sB, sZ, sS]
        refine hTk (i := 23) (d := 35) (v := undef) rfl rfl (Or.inr ⟨rfl, rfl⟩) HS.out ?_
        simp only [Act.put, sB, sZ, sS]
        refine hTk (i := 24) (d := 36) (v := undef) rfl rfl (Or.inr ⟨rfl, rfl⟩) HS.out ?_
        simp only [Act.put, sB, sZ, sS]
        refine hTk (i := 25) (d := 37) (v := undef) rfl rfl (Or.inr ⟨rfl, rfl⟩) HS.out ?_
        simp only [Act.put, sB, sZ, sS]
        refine hTk (i := 26) (d := 38) (v := undef) rfl rfl (Or.inr ⟨rfl, rfl⟩) HS.out ?_
        simp only [Act.put, sB, sZ, sS]
        refine hTk (i := 27) (d := 39) (v := undef) rfl rfl (Or.inr ⟨rfl, rfl⟩) HS.out ?_
        simp only [Act.put, sB, sZ, sS]
        refine hTk (i := 28) (d := 40) (v := undef) rfl rfl (Or.inr ⟨rfl, rfl⟩) HS.out ?_
        simp only [Act.put, sB, sZ, sS]
        refine hTk (i := 29) (d := 41) (v := undef) rfl rfl (Or.inr ⟨rfl, rfl⟩) HS.out ?_
        simp only [Act.put, sB, sZ, sS]
        refine hTk (i := 30) (d := 42) (v := undef) rfl rfl (Or.inr ⟨rfl, rfl⟩) HS.out ?_
        simp only [Act.put, sB, sZ, sS]
        refine hTk (i := 31) (d := 43) (v := .bool true) rfl rfl (Or.inl ⟨rfl, by rintro W' ⟨s0, s1, s2, s3, s4⟩; go_simp⟩) HS.out ?_
        simp only [Act.put, sB, sZ, sS]
        refine hTk (i := 32) (d := 44) (v := .bool true) rfl rfl (Or.inl ⟨rfl, by rintro W' ⟨s0, s1, s2, s3, s4⟩; go_simp⟩) HS.out ?_
        simp only [Act.put, sB, sZ, sS]
        refine hTk (i := 33) (d := 45) (v := undef) rfl rfl (Or.inr ⟨rfl, rfl⟩) HS.out ?_
        simp only [Act.put, sB, sZ, sS]
        refine hTk (i := 34) (d := 46) (v := undef) rfl rfl (Or.inr ⟨rfl, rfl⟩) HS.out ?_
        simp only [Act.put, sB, sZ, sS]
        refine hTk (i := 35) (d := 47) (v := undef) rfl rfl (Or.inr ⟨rfl, rfl⟩) HS.out ?_
        simp only [Act.put, sB, sZ, sS]
        refine hTk (i := 36) (d := 48) (v := undef) rfl rfl (Or.inr ⟨rfl, rfl⟩) HS.out ?_
        simp only [Act.put, sB, sZ, sS]
        refine hTk (i := 37) (d := 49) (v := undef) rfl rfl (Or.inr ⟨rfl, rfl⟩) HS.out ?_
        simp only [Act.put, sB, sZ, sS]
        refine hTk (i := 38) (d := 50) (v := undef) rfl rfl (Or.inr ⟨rfl, rfl⟩) HS.out ?_
        simp only [Act.put, sB, sZ, sS]
        refine hTk (i := 39) (d := 51) (v := undef) rfl rfl (Or.inr ⟨rfl, rfl⟩) HS.out ?_
        simp only [Act.put, sB, sZ, sS]
        refine hTk (i := 40) (d := 52) (v := undef) rfl rfl (Or.inr ⟨rfl, rfl⟩) HS.out ?_
        simp only [Act.put, sB, sZ, sS]
        refine hTk (i := 41) (d := 53) (v := undef) rfl rfl (Or.inr ⟨rfl, rfl⟩) HS.out ?_
        simp only [Act.put, sB, sZ, sS]
        refine hTk (i := 42) (d := 54) (v := undef) rfl rfl (Or.inr ⟨rfl, rfl⟩) HS.out ?_
        simp only [Act.put, sB, sZ, sS]
        refine hTk (i := 43) (d := 55) (v := undef) rfl rfl (Or.inr ⟨rfl, rfl⟩) HS.out ?_
        simp only [Act.put, sB, sZ, sS]
        refine hTk (i := 44) (d := 56) (v := undef) rfl rfl (Or.inr ⟨rfl, rfl⟩) HS.out ?_
        simp only [Act.put, sB, sZ, sS]
        refine hTk (i := 45) (d := 57) (v := undef) rfl rfl (Or.inr ⟨rfl, rfl⟩) HS.out ?_
        simp only [Act.put, sB, sZ, sS]
        refine hTk (i := 46) (d := 58) (v := .bool true) rfl rfl (Or.inl ⟨rfl, by rintro W' ⟨s0, s1, s2, s3, s4⟩; go_simp⟩) HS.out ?_
        simp only [Act.put, sB, sZ, sS]
        refine wpAnyH_done (by kernel_rfl) ?_ _

        clear HS
        go_wp2
        go_ret
        exact ⟨by rw [HNO.out]; rfl, HB1.out.trans ((HB.out.trans (hbq.mono HB.out.size)).mono HB1.out.size)⟩
      | true =>
        rw [hri] at HIR
        have HRI := Lib.hid hri
        clear hri
        by_cases hf0 : x.frm < 0
        · have HNO := Lib.hid (HBAD.out i x HPT.out (by unfold coverB; rw [HRI.out]; simp [hf0]))
          go_upto_region 4 with (fail)
          have hbq : Below wb.heap.size wb wb.drew := (Below.refl _ _).drew
          have HS := Lib.hid (HCELL.out _ hbq)
          refine wp_region_held_drew (S := fun wx => wx.cell? ⟨w.heap.size, 0, none⟩ = some (.slice A p.nodes.length c) ∧ wx.cell? ⟨w.heap.size, 1, none⟩ = some (.slice A2 N c2) ∧ wx.cell? ⟨b, off + i * 3, none⟩ = some (.int .i64 x.rail) ∧ wx.cell? ⟨b, off + i * 3 + 1, none⟩ = some (.int .i64 x.frm) ∧ wx.cell? ⟨b, off + i * 3 + 2, none⟩ = some (.int .i64 x.to)) (by kernel_rfl) HS.out (fun _ => ?_)
          refine hTk (i := 0) (d := 12) (v := .slice (some ⟨b, off, none⟩) n ca) rfl rfl (Or.inl ⟨rfl, by rintro W' ⟨s0, s1, s2, s3, s4⟩; go_simp⟩) HS.out ?_
          simp only [Act.put, sB, sZ, sS]
          refine hTk (i := 1) (d := 13) (v := .int .i64 (i : Int)) rfl rfl (Or.inl ⟨rfl, by rintro W' ⟨s0, s1, s2, s3, s4⟩; go_simp⟩) HS.out ?_
          simp only [Act.put, sB, sZ, sS]
          refine hTk (i := 2) (d := 14) (v := .pointer (some ⟨b, off + i * 3, none⟩)) rfl rfl (Or.inl ⟨rfl, by rintro W' ⟨s0, s1, s2, s3, s4⟩; go_simp⟩) HS.out ?_
          simp only [Act.put, sB, sZ, sS]
          refine hTk (i := 3) (d := 15) (v := .pointer (some ⟨b, off + i * 3, none⟩)) rfl rfl (Or.inl ⟨rfl, by rintro W' ⟨s0, s1, s2, s3, s4⟩; go_simp⟩) HS.out ?_
          simp only [Act.put, sB, sZ, sS]
          refine hTk (i := 4) (d := 16) (v := .int .i64 x.rail) rfl rfl (Or.inl ⟨rfl, by rintro W' ⟨s0, s1, s2, s3, s4⟩; go_simp⟩) HS.out ?_
          simp only [Act.put, sB, sZ, sS]
          refine hTk (i := 5) (d := 17) (v := .pointer (some ⟨w.heap.size, 1, none⟩)) rfl rfl (Or.inl ⟨rfl, by rintro W' ⟨s0, s1, s2, s3, s4⟩; go_simp⟩) HS.out ?_
          simp only [Act.put, sB, sZ, sS]
          refine hTk (i := 6) (d := 18) (v := .slice A2 N c2) rfl rfl (Or.inl ⟨rfl, by rintro W' ⟨s0, s1, s2, s3, s4⟩; go_simp⟩) HS.out ?_
          simp only [Act.put, sB, sZ, sS]
          refine hTk (i := 7) (d := 19) (v := .int .i64 (N : Int)) rfl rfl (Or.inl ⟨rfl, by rintro W' ⟨s0, s1, s2, s3, s4⟩; go_simp⟩) HS.out ?_
          simp only [Act.put, sB, sZ, sS]
          refine hTk (i := 8) (d := 20) (v := .int .i64 ((N : Int) - 1)) rfl rfl (Or.inl ⟨rfl, by rintro W' ⟨s0, s1, s2, s3, s4⟩; go_simp⟩) HS.out ?_
          simp only [Act.put, sB, sZ, sS]
          refine wpAnyH_ready (rs := [9]) (by kernel_rfl) (by simp) ?_
          refine AllReadyH.cons rfl (fun K hK => ?_) AllReadyH.nil
          rw [if_pos (by rfl)]
          go_simp
          go_at_call 64
          (with_reducible refine (HIR.out _).mono ?_)
          rintro e v1 ⟨rfl, rfl⟩
          refine hK.out _ _ HS.out (fun _ => ?_)
          clear hK K
          try simp only [Act.put, sB, sZ, sS]
          refine hTk (i := 10) (d := 22) (v := .bool false) rfl rfl (Or.inl ⟨rfl, by rintro W' ⟨s0, s1, s2, s3, s4⟩; go_simp⟩) HS.out ?_
          simp only [Act.put, sB, sZ, sS]
          refine hTk (i := 11) (d := 23) (v := .bool false) rfl rfl (Or.inl ⟨rfl, by rintro W' ⟨s0, s1, s2, s3, s4⟩; go_simp⟩) HS.out ?_
          simp only [Act.put, sB, sZ, sS]
          refine hTk (i := 12) (d := 24) (v := .slice (some ⟨b, off, none⟩) n ca) rfl rfl (Or.inl ⟨rfl, by rintro W' ⟨s0, s1, s2, s3, s4⟩; go_simp⟩) HS.out ?_
          simp only [Act.put, sB, sZ, sS]
          refine hTk (i := 13) (d := 25) (v := .int .i64 (i : Int)) rfl rfl (Or.inl ⟨rfl, by rintro W' ⟨s0, s1, s2, s3, s4⟩; go_simp⟩) HS.out ?_
          simp only [Act.put, sB, sZ, sS]
          refine hTk (i := 14) (d := 26) (v := .pointer (some ⟨b, off + i * 3, none⟩)) rfl rfl (Or.inl ⟨rfl, by rintro W' ⟨s0, s1, s2, s3, s4⟩; go_simp⟩) HS.out ?_
          simp only [Act.put, sB, sZ, sS]
          refine hTk (i := 15) (d := 27) (v := .pointer (some ⟨b, off + i * 3 + 1, none⟩)) rfl rfl (Or.inl ⟨rfl, by rintro W' ⟨s0, s1, s2, s3, s4⟩; go_simp⟩) HS.out ?_
          simp only [Act.put, sB, sZ, sS]
          refine hTk (i := 16) (d := 28) (v := .int .i64 x.frm) rfl rfl (Or.inl ⟨rfl, by rintro W' ⟨s0, s1, s2, s3, s4⟩; go_simp⟩) HS.out ?_
          simp only [Act.put, sB, sZ, sS]
          refine hTk (i := 17) (d := 29) (v := .bool true) rfl rfl (Or.inl ⟨rfl, by rintro W' ⟨s0, s1, s2, s3, s4⟩; go_simp⟩) HS.out ?_
          simp only [Act.put, sB, sZ, sS]
          refine hTk (i := 18) (d := 30) (v := .bool true) rfl rfl (Or.inl ⟨rfl, by rintro W' ⟨s0, s1, s2, s3, s4⟩; go_simp⟩) HS.out ?_
          simp only [Act.put, sB, sZ, sS]
          refine hTk (i := 19) (d := 31) (v := .bool true) rfl rfl (Or.inl ⟨rfl, by rintro W' ⟨s0, s1, s2, s3, s4⟩; go_simp⟩) HS.out ?_
          simp only [Act.put, sB, sZ, sS]
          refine hTk (i := 20) (d := 32) (v := undef) rfl rfl (Or.inr ⟨rfl, rfl⟩) HS.out ?_
          simp only [Act.put, sB, sZ, sS]
          refine hTk (i := 21) (d := 33) (v := undef) rfl rfl (Or.inr ⟨rfl, rfl⟩) HS.out ?_
          simp only [Act.put, sB, sZ, sS]
          refine hTk (i := 22) (d := 34) (v := undef) rfl rfl (Or.inr ⟨rfl, rfl⟩) HS.out ?_
          simp only [Act.put, sB, sZ, sS]
          refine hTk (i := 23) (d := 35) (v := undef) rfl rfl (Or.inr ⟨rfl, rfl⟩) HS.out ?_
          simp only [Act.put, sB, sZ, sS]
          refine hTk (i := 24) (d := 36) (v := undef) rfl rfl (Or.inr ⟨rfl, rfl⟩) HS.out ?_
          simp only [Act.put, sB, sZ, sS]
          refine hTk (i := 25) (d := 37) (v := undef) rfl rfl (Or.inr ⟨rfl, rfl⟩) HS.out ?_
          simp only [Act.put, sB, sZ, sS]
          refine hTk (i := 26) (d := 38) (v := undef) rfl rfl (Or.inr ⟨rfl, rfl⟩) HS.out ?_
          simp only [Act.put, sB, sZ, sS]
          refine hTk (i := 27) (d := 39) (v := undef) rfl rfl (Or.inr ⟨rfl, rfl⟩) HS.out ?_
          simp only [Act.put, sB, sZ, sS]
          refine hTk (i := 28) (d := 40) (v := undef) rfl rfl (Or.inr ⟨rfl, rfl⟩) HS.out ?_
          simp only [Act.put, sB, sZ, sS]
          refine hTk (i := 29) (d := 41) (v := undef) rfl rfl (Or.inr ⟨rfl, rfl⟩) HS.out ?_
          simp only [Act.put, sB, sZ, sS]
          refine hTk (i := 30) (d := 42) (v := undef) rfl rfl (Or.inr ⟨rfl, rfl⟩) HS.out ?_
          simp only [Act.put, sB, sZ, sS]
          refine hTk (i := 31) (d := 43) (v := .bool true) rfl rfl (Or.inl ⟨rfl, by rintro W' ⟨s0, s1, s2, s3, s4⟩; go_simp⟩) HS.out ?_
          simp only [Act.put, sB, sZ, sS]
          refine hTk (i := 32) (d := 44) (v := .bool true) rfl rfl (Or.inl ⟨rfl, by rintro W' ⟨s0, s1, s2, s3, s4⟩; go_simp⟩) HS.out ?_
          simp only [Act.put, sB, sZ, sS]
          refine hTk (i := 33) (d := 45) (v := undef) rfl rfl (Or.inr ⟨rfl, rfl⟩) HS.out ?_
          simp only [Act.put, sB, sZ, sS]
          refine hTk (i := 34) (d := 46) (v := undef) rfl rfl (Or.inr ⟨rfl, rfl⟩) HS.out ?_
          simp only [Act.put, sB, sZ, sS]
          refine hTk (i := 35) (d := 47) (v := undef) rfl rfl (Or.inr ⟨rfl, rfl⟩) HS.out ?_
          simp only [Act.put, sB, sZ, sS]
          refine hTk (i := 36) (d := 48) (v := undef) rfl rfl (Or.inr ⟨rfl, rfl⟩) HS.out ?_
          simp only [Act.put, sB, sZ, sS]
          refine hTk (i := 37) (d := 49) (v := undef) rfl rfl (Or.inr ⟨rfl, rfl⟩) HS.out ?_
          simp only [Act.put, sB, sZ, sS]
          refine hTk (i := 38) (d := 50) (v := undef) rfl rfl (Or.inr ⟨rfl, rfl⟩) HS.out ?_
          simp only [Act.put, sB, sZ, sS]
          refine hTk (i := 39) (d := 51) (v := undef) rfl rfl (Or.inr ⟨rfl, rfl⟩) HS.out ?_
          simp only [Act.put, sB, sZ, sS]
          refine hTk (i := 40) (d := 52) (v := undef) rfl rfl (Or.inr ⟨rfl, rfl⟩) HS.out ?_
          simp only [Act.put, sB, sZ, sS]
          refine hTk (i := 41) (d := 53) (v := undef) rfl rfl (Or.inr ⟨rfl, rfl⟩) HS.out ?_
          simp only [Act.put, sB, sZ, sS]
          refine hTk (i := 42) (d := 54) (v := undef) rfl rfl (Or.inr ⟨rfl, rfl⟩) HS.out ?_
          simp only [Act.put, sB, sZ, sS]
          refine hTk (i := 43) (d := 55) (v := undef) rfl rfl (Or.inr ⟨rfl, rfl⟩) HS.out ?_
          simp only [Act.put, sB, sZ, sS]
          refine hTk (i := 44) (d := 56) (v := undef) rfl rfl (Or.inr ⟨rfl, rfl⟩) HS.out ?_
          simp only [Act.put, sB, sZ, sS]
          refine hTk (i := 45) (d := 57) (v := undef) rfl rfl (Or.inr ⟨rfl, rfl⟩) HS.out ?_
          simp only [Act.put, sB, sZ, sS]
          refine hTk (i := 46) (d := 58) (v := .bool true) rfl rfl (Or.inl ⟨rfl, by rintro W' ⟨s0, s1, s2, s3, s4⟩; go_simp⟩) HS.out ?_
          simp only [Act.put, sB, sZ, sS]
          refine wpAnyH_done (by kernel_rfl) ?_ _

          clear HS
          go_wp2
          go_ret
          exact ⟨by rw [HNO.out]; rfl, HB1.out.trans ((HB.out.trans (hbq.mono HB.out.size)).mono HB1.out.size)⟩
        · by_cases hft : x.to ≤ x.frm
          · have HNO := Lib.hid (HBAD.out i x HPT.out (by unfold coverB; rw [HRI.out]; simp [hft]))
            go_upto_region 4 with (fail)
            have hbq : Below wb.heap.size wb wb.drew := (Below.refl _ _).drew
            have HS := Lib.hid (HCELL.out _ hbq)
            refine wp_region_held_drew (S := fun wx => wx.cell? ⟨w.heap.size, 0, none⟩ = some (.slice A p.nodes.length c) ∧ wx.cell? ⟨w.heap.size, 1, none⟩ = some (.slice A2 N c2) ∧ wx.cell? ⟨b, off + i * 3, none⟩ = some (.int .i64 x.rail) ∧ wx.cell? ⟨b, off + i * 3 + 1, none⟩ = some (.int .i64 x.frm) ∧ wx.cell? ⟨b, off + i * 3 + 2, none⟩ = some (.int .i64 x.to)) (by kernel_rfl) HS.out (fun _ => ?_)
            refine hTk (i := 0) (d := 12) (v := .slice (some ⟨b, off, none⟩) n ca) rfl rfl (Or.inl ⟨rfl, by rintro W' ⟨s0, s1, s2, s3, s4⟩; go_simp⟩) HS.out ?_
            simp only [Act.put, sB, sZ, sS]
            refine hTk (i := 1) (d := 13) (v := .int .i64 (i : Int)) rfl rfl (Or.inl ⟨rfl, by rintro W' ⟨s0, s1, s2, s3, s4⟩; go_simp⟩) HS.out ?_
            simp only [Act.put, sB, sZ, sS]
            refine hTk (i := 2) (d := 14) (v := .pointer (some ⟨b, off + i * 3, none⟩)) rfl rfl (Or.inl ⟨rfl, by rintro W' ⟨s0, s1, s2, s3, s4⟩; go_simp⟩) HS.out ?_
            simp only [Act.put, sB, sZ, sS]
            refine hTk (i := 3) (d := 15) (v := .pointer (some ⟨b, off + i * 3, none⟩)) rfl rfl (Or.inl ⟨rfl, by rintro W' ⟨s0, s1, s2, s3, s4⟩; go_simp⟩) HS.out ?_
            simp only [Act.put, sB, sZ, sS]
            refine hTk (i := 4) (d := 16) (v := .int .i64 x.rail) rfl rfl (Or.inl ⟨rfl, by rintro W' ⟨s0, s1, s2, s3, s4⟩; go_simp⟩) HS.out ?_
            simp only [Act.put, sB, sZ, sS]
            refine hTk (i := 5) (d := 17) (v := .pointer (some ⟨w.heap.size, 1, none⟩)) rfl rfl (Or.inl ⟨rfl, by rintro W' ⟨s0, s1, s2, s3, s4⟩; go_simp⟩) HS.out ?_
            simp only [Act.put, sB, sZ, sS]
            refine hTk (i := 6) (d := 18) (v := .slice A2 N c2) rfl rfl (Or.inl ⟨rfl, by rintro W' ⟨s0, s1, s2, s3, s4⟩; go_simp⟩) HS.out ?_
            simp only [Act.put, sB, sZ, sS]
            refine hTk (i := 7) (d := 19) (v := .int .i64 (N : Int)) rfl rfl (Or.inl ⟨rfl, by rintro W' ⟨s0, s1, s2, s3, s4⟩; go_simp⟩) HS.out ?_
            simp only [Act.put, sB, sZ, sS]
            refine hTk (i := 8) (d := 20) (v := .int .i64 ((N : Int) - 1)) rfl rfl (Or.inl ⟨rfl, by rintro W' ⟨s0, s1, s2, s3, s4⟩; go_simp⟩) HS.out ?_
            simp only [Act.put, sB, sZ, sS]
            refine wpAnyH_ready (rs := [9]) (by kernel_rfl) (by simp) ?_
            refine AllReadyH.cons rfl (fun K hK => ?_) AllReadyH.nil
            rw [if_pos (by rfl)]
            go_simp
            go_at_call 64
            (with_reducible refine (HIR.out _).mono ?_)
            rintro e v1 ⟨rfl, rfl⟩
            refine hK.out _ _ HS.out (fun _ => ?_)
            clear hK K
            try simp only [Act.put, sB, sZ, sS]
            refine hTk (i := 10) (d := 22) (v := .bool false) rfl rfl (Or.inl ⟨rfl, by rintro W' ⟨s0, s1, s2, s3, s4⟩; go_simp⟩) HS.out ?_
            simp only [Act.put, sB, sZ, sS]
            refine hTk (i := 11) (d := 23) (v := .bool false) rfl rfl (Or.inl ⟨rfl, by rintro W' ⟨s0, s1, s2, s3, s4⟩; go_simp⟩) HS.out ?_
            simp only [Act.put, sB, sZ, sS]
            refine hTk (i := 12) (d := 24) (v := .slice (some ⟨b, off, none⟩) n ca) rfl rfl (Or.inl ⟨rfl, by rintro W' ⟨s0, s1, s2, s3, s4⟩; go_simp⟩) HS.out ?_
            simp only [Act.put, sB, sZ, sS]
            refine hTk (i := 13) (d := 25) (v := .int .i64 (i : Int)) rfl rfl (Or.inl ⟨rfl, by rintro W' ⟨s0, s1, s2, s3, s4⟩; go_simp⟩) HS.out ?_
            simp only [Act.put, sB, sZ, sS]
            refine hTk (i := 14) (d := 26) (v := .pointer (some ⟨b, off + i * 3, none⟩)) rfl rfl (Or.inl ⟨rfl, by rintro W' ⟨s0, s1, s2, s3, s4⟩; go_simp⟩) HS.out ?_
            simp only [Act.put, sB, sZ, sS]
            refine hTk (i := 15) (d := 27) (v := .pointer (some ⟨b, off + i * 3 + 1, none⟩)) rfl rfl (Or.inl ⟨rfl, by rintro W' ⟨s0, s1, s2, s3, s4⟩; go_simp⟩) HS.out ?_
            simp only [Act.put, sB, sZ, sS]
            refine hTk (i := 16) (d := 28) (v := .int .i64 x.frm) rfl rfl (Or.inl ⟨rfl, by rintro W' ⟨s0, s1, s2, s3, s4⟩; go_simp⟩) HS.out ?_
            simp only [Act.put, sB, sZ, sS]
            refine hTk (i := 17) (d := 29) (v := .bool false) rfl rfl (Or.inl ⟨rfl, by rintro W' ⟨s0, s1, s2, s3, s4⟩; go_simp⟩) HS.out ?_
            simp only [Act.put, sB, sZ, sS]
            refine hTk (i := 18) (d := 30) (v := .bool false) rfl rfl (Or.inl ⟨rfl, by rintro W' ⟨s0, s1, s2, s3, s4⟩; go_simp⟩) HS.out ?_
            simp only [Act.put, sB, sZ, sS]
            refine hTk (i := 19) (d := 31) (v := .bool false) rfl rfl (Or.inl ⟨rfl, by rintro W' ⟨s0, s1, s2, s3, s4⟩; go_simp⟩) HS.out ?_
            simp only [Act.put, sB, sZ, sS]
            refine hTk (i := 20) (d := 32) (v := .slice (some ⟨b, off, none⟩) n ca) rfl rfl (Or.inl ⟨rfl, by rintro W' ⟨s0, s1, s2, s3, s4⟩; go_simp⟩) HS.out ?_
            simp only [Act.put, sB, sZ, sS]
            refine hTk (i := 21) (d := 33) (v := .int .i64 (i : Int)) rfl rfl (Or.inl ⟨rfl, by rintro W' ⟨s0, s1, s2, s3, s4⟩; go_simp⟩) HS.out ?_
            simp only [Act.put, sB, sZ, sS]
            refine hTk (i := 22) (d := 34) (v := .pointer (some ⟨b, off + i * 3, none⟩)) rfl rfl (Or.inl ⟨rfl, by rintro W' ⟨s0, s1, s2, s3, s4⟩; go_simp⟩) HS.out ?_
            simp only [Act.put, sB, sZ, sS]
            refine hTk (i := 23) (d := 35) (v := .pointer (some ⟨b, off + i * 3 + 1, none⟩)) rfl rfl (Or.inl ⟨rfl, by rintro W' ⟨s0, s1, s2, s3, s4⟩; go_simp⟩) HS.out ?_
            simp only [Act.put, sB, sZ, sS]
            refine hTk (i := 24) (d := 36) (v := .int .i64 x.frm) rfl rfl (Or.inl ⟨rfl, by rintro W' ⟨s0, s1, s2, s3, s4⟩; go_simp⟩) HS.out ?_
            simp only [Act.put, sB, sZ, sS]
            refine hTk (i := 25) (d := 37) (v := .slice (some ⟨b, off, none⟩) n ca) rfl rfl (Or.inl ⟨rfl, by rintro W' ⟨s0, s1, s2, s3, s4⟩; go_simp⟩) HS.out ?_
            simp only [Act.put, sB, sZ, sS]
            refine hTk (i := 26) (d := 38) (v := .int .i64 (i : Int)) rfl rfl (Or.inl ⟨rfl, by rintro W' ⟨s0, s1, s2, s3, s4⟩; go_simp⟩) HS.out ?_
            simp only [Act.put, sB, sZ, sS]
            refine hTk (i := 27) (d := 39) (v := .pointer (some ⟨b, off + i * 3, none⟩)) rfl rfl (Or.inl ⟨rfl, by rintro W' ⟨s0, s1, s2, s3, s4⟩; go_simp⟩) HS.out ?_
            simp only [Act.put, sB, sZ, sS]
            refine hTk (i := 28) (d := 40) (v := .pointer (some ⟨b, off + i * 3 + 2, none⟩)) rfl rfl (Or.inl ⟨rfl, by rintro W' ⟨s0, s1, s2, s3, s4⟩; go_simp⟩) HS.out ?_
            simp only [Act.put, sB, sZ, sS]
            refine hTk (i := 29) (d := 41) (v := .int .i64 x.to) rfl rfl (Or.inl ⟨rfl, by rintro W' ⟨s0, s1, s2, s3, s4⟩; go_simp⟩) HS.out ?_
            simp only [Act.put, sB, sZ, sS]
            refine hTk (i := 30) (d := 42) (v := .bool true) rfl rfl (Or.inl ⟨rfl, by rintro W' ⟨s0, s1, s2, s3, s4⟩; go_simp⟩) HS.out ?_
            simp only [Act.put, sB, sZ, sS]
            refine hTk (i := 31) (d := 43) (v := .bool true) rfl rfl (Or.inl ⟨rfl, by rintro W' ⟨s0, s1, s2, s3, s4⟩; go_simp⟩) HS.out ?_
            simp only [Act.put, sB, sZ, sS]
            refine hTk (i := 32) (d := 44) (v := .bool true) rfl rfl (Or.inl ⟨rfl, by rintro W' ⟨s0, s1, s2, s3, s4⟩; go_simp⟩) HS.out ?_
            simp only [Act.put, sB, sZ, sS]
            refine hTk (i := 33) (d := 45) (v := undef) rfl rfl (Or.inr ⟨rfl, rfl⟩) HS.out ?_
            simp only [Act.put, sB, sZ, sS]
            refine hTk (i := 34) (d := 46) (v := undef) rfl rfl (Or.inr ⟨rfl, rfl⟩) HS.out ?_
            simp only [Act.put, sB, sZ, sS]
            refine hTk (i := 35) (d := 47) (v := undef) rfl rfl (Or.inr ⟨rfl, rfl⟩) HS.out ?_
            simp only [Act.put, sB, sZ, sS]
            refine hTk (i := 36) (d := 48) (v := undef) rfl rfl (Or.inr ⟨rfl, rfl⟩) HS.out ?_
            simp only [Act.put, sB, sZ, sS]
            refine hTk (i := 37) (d := 49) (v := undef) rfl rfl (Or.inr ⟨rfl, rfl⟩) HS.out ?_
            simp only [Act.put, sB, sZ, sS]
            refine hTk (i := 38) (d := 50) (v := undef) rfl rfl (Or.inr ⟨rfl, rfl⟩) HS.out ?_
            simp only [Act.put, sB, sZ, sS]
            refine hTk (i := 39) (d := 51) (v := undef) rfl rfl (Or.inr ⟨rfl, rfl⟩) HS.out ?_
            simp only [Act.put, sB, sZ, sS]
            refine hTk (i := 40) (d := 52) (v := undef) rfl rfl (Or.inr ⟨rfl, rfl⟩) HS.out ?_
            simp only [Act.put, sB, sZ, sS]
            refine hTk (i := 41) (d := 53) (v := undef) rfl rfl (Or.inr ⟨rfl, rfl⟩) HS.out ?_
            simp only [Act.put, sB, sZ, sS]
            refine hTk (i := 42) (d := 54) (v := undef) rfl rfl (Or.inr ⟨rfl, rfl⟩) HS.out ?_
            simp only [Act.put, sB, sZ, sS]
            refine hTk (i := 43) (d := 55) (v := undef) rfl rfl (Or.inr ⟨rfl, rfl⟩) HS.out ?_
            simp only [Act.put, sB, sZ, sS]
            refine hTk (i := 44) (d := 56) (v := undef) rfl rfl (Or.inr ⟨rfl, rfl⟩) HS.out ?_
            simp only [Act.put, sB, sZ, sS]
            refine hTk (i := 45) (d := 57) (v := undef) rfl rfl (Or.inr ⟨rfl, rfl⟩) HS.out ?_
            simp only [Act.put, sB, sZ, sS]
            refine hTk (i := 46) (d := 58) (v := .bool true) rfl rfl (Or.inl ⟨rfl, by rintro W' ⟨s0, s1, s2, s3, s4⟩; go_simp⟩) HS.out ?_
            simp only [Act.put, sB, sZ, sS]
            refine wpAnyH_done (by kernel_rfl) ?_ _

            clear HS
            go_wp2
            go_ret
            exact ⟨by rw [HNO.out]; rfl, HB1.out.trans ((HB.out.trans (hbq.mono HB.out.size)).mono HB1.out.size)⟩
          · have HLX := Lib.hid (HLN.out x.rail HRI.out)
            obtain ⟨le, hle⟩ : ∃ z, lastEn p x.rail = z := ⟨_, rfl⟩
            rw [hle] at HLX
            by_cases hbig : le < x.to
            · have HNO := Lib.hid (HBAD.out i x HPT.out (by unfold coverB; rw [HRI.out, hle]; simp [hbig]))
              clear hle
              go_upto_region 4 with (fail)
              have hbq : Below wb.heap.size wb wb.drew := (Below.refl _ _).drew
              have HS := Lib.hid (HCELL.out _ hbq)
              refine wp_region_held_drew (S := fun wx => wx.cell? ⟨w.heap.size, 0, none⟩ = some (.slice A p.nodes.length c) ∧ wx.cell? ⟨w.heap.size, 1, none⟩ = some (.slice A2 N c2) ∧ wx.cell? ⟨b, off + i * 3, none⟩ = some (.int .i64 x.rail) ∧ wx.cell? ⟨b, off + i * 3 + 1, none⟩ = some (.int .i64 x.frm) ∧ wx.cell? ⟨b, off + i * 3 + 2, none⟩ = some (.int .i64 x.to)) (by kernel_rfl) HS.out (fun _ => ?_)
              refine hTk (i := 0) (d := 12) (v := .slice (some ⟨b, off, none⟩) n ca) rfl rfl (Or.inl ⟨rfl, by rintro W' ⟨s0, s1, s2, s3, s4⟩; go_simp⟩) HS.out ?_
              simp only [Act.put, sB, sZ, sS]
              refine hTk (i := 1) (d := 13) (v := .int .i64 (i : Int)) rfl rfl (Or.inl ⟨rfl, by rintro W' ⟨s0, s1, s2, s3, s4⟩; go_simp⟩) HS.out ?_
              simp only [Act.put, sB, sZ, sS]
              refine hTk (i := 2) (d := 14) (v := .pointer (some ⟨b, off + i * 3, none⟩)) rfl rfl (Or.inl ⟨rfl, by rintro W' ⟨s0, s1, s2, s3, s4⟩; go_simp⟩) HS.out ?_
              simp only [Act.put, sB, sZ, sS]
              refine hTk (i := 3) (d := 15) (v := .pointer (some ⟨b, off + i * 3, none⟩)) rfl rfl (Or.inl ⟨rfl, by rintro W' ⟨s0, s1, s2, s3, s4⟩; go_simp⟩) HS.out ?_
              simp only [Act.put, sB, sZ, sS]
              refine hTk (i := 4) (d := 16) (v := .int .i64 x.rail) rfl rfl (Or.inl ⟨rfl, by rintro W' ⟨s0, s1, s2, s3, s4⟩; go_simp⟩) HS.out ?_
              simp only [Act.put, sB, sZ, sS]
              refine hTk (i := 5) (d := 17) (v := .pointer (some ⟨w.heap.size, 1, none⟩)) rfl rfl (Or.inl ⟨rfl, by rintro W' ⟨s0, s1, s2, s3, s4⟩; go_simp⟩) HS.out ?_
              simp only [Act.put, sB, sZ, sS]
              refine hTk (i := 6) (d := 18) (v := .slice A2 N c2) rfl rfl (Or.inl ⟨rfl, by rintro W' ⟨s0, s1, s2, s3, s4⟩; go_simp⟩) HS.out ?_
              simp only [Act.put, sB, sZ, sS]
              refine hTk (i := 7) (d := 19) (v := .int .i64 (N : Int)) rfl rfl (Or.inl ⟨rfl, by rintro W' ⟨s0, s1, s2, s3, s4⟩; go_simp⟩) HS.out ?_
              simp only [Act.put, sB, sZ, sS]
              refine hTk (i := 8) (d := 20) (v := .int .i64 ((N : Int) - 1)) rfl rfl (Or.inl ⟨rfl, by rintro W' ⟨s0, s1, s2, s3, s4⟩; go_simp⟩) HS.out ?_
              simp only [Act.put, sB, sZ, sS]
              refine wpAnyH_ready (rs := [9]) (by kernel_rfl) (by simp) ?_
              refine AllReadyH.cons rfl (fun K hK => ?_) AllReadyH.nil
              rw [if_pos (by rfl)]
              go_simp
              go_at_call 64
              (with_reducible refine (HIR.out _).mono ?_)
              rintro e v1 ⟨rfl, rfl⟩
              refine hK.out _ _ HS.out (fun _ => ?_)
              clear hK K
              try simp only [Act.put, sB, sZ, sS]
              refine hTk (i := 10) (d := 22) (v := .bool false) rfl rfl (Or.inl ⟨rfl, by rintro W' ⟨s0, s1, s2, s3, s4⟩; go_simp⟩) HS.out ?_
              simp only [Act.put, sB, sZ, sS]
              refine hTk (i := 11) (d := 23) (v := .bool false) rfl rfl (Or.inl ⟨rfl, by rintro W' ⟨s0, s1, s2, s3, s4⟩; go_simp⟩) HS.out ?_
              simp only [Act.put, sB, sZ, sS]
              refine hTk (i := 12) (d := 24) (v := .slice (some ⟨b, off, none⟩) n ca) rfl rfl (Or.inl ⟨rfl, by rintro W' ⟨s0, s1, s2, s3, s4⟩; go_simp⟩) HS.out ?_
              simp only [Act.put, sB, sZ, sS]
              refine hTk (i := 13) (d := 25) (v := .int .i64 (i : Int)) rfl rfl (Or.inl ⟨rfl, by rintro W' ⟨s0, s1, s2, s3, s4⟩; go_simp⟩) HS.out ?_
              simp only [Act.put, sB, sZ, sS]
              refine hTk (i := 14) (d := 26) (v := .pointer (some ⟨b, off + i * 3, none⟩)) rfl rfl (Or.inl ⟨rfl, by rintro W' ⟨s0, s1, s2, s3, s4⟩; go_simp⟩) HS.out ?_
              simp only [Act.put, sB, sZ, sS]
              refine hTk (i := 15) (d := 27) (v := .pointer (some ⟨b, off + i * 3 + 1, none⟩)) rfl rfl (Or.inl ⟨rfl, by rintro W' ⟨s0, s1, s2, s3, s4⟩; go_simp⟩) HS.out ?_
              simp only [Act.put, sB, sZ, sS]
              refine hTk (i := 16) (d := 28) (v := .int .i64 x.frm) rfl rfl (Or.inl ⟨rfl, by rintro W' ⟨s0, s1, s2, s3, s4⟩; go_simp⟩) HS.out ?_
              simp only [Act.put, sB, sZ, sS]
              refine hTk (i := 17) (d := 29) (v := .bool false) rfl rfl (Or.inl ⟨rfl, by rintro W' ⟨s0, s1, s2, s3, s4⟩; go_simp⟩) HS.out ?_
              simp only [Act.put, sB, sZ, sS]
              refine hTk (i := 18) (d := 30) (v := .bool false) rfl rfl (Or.inl ⟨rfl, by rintro W' ⟨s0, s1, s2, s3, s4⟩; go_simp⟩) HS.out ?_
              simp only [Act.put, sB, sZ, sS]
              refine hTk (i := 19) (d := 31) (v := .bool false) rfl rfl (Or.inl ⟨rfl, by rintro W' ⟨s0, s1, s2, s3, s4⟩; go_simp⟩) HS.out ?_
              simp only [Act.put, sB, sZ, sS]
              refine hTk (i := 20) (d := 32) (v := .slice (some ⟨b, off, none⟩) n ca) rfl rfl (Or.inl ⟨rfl, by rintro W' ⟨s0, s1, s2, s3, s4⟩; go_simp⟩) HS.out ?_
              simp only [Act.put, sB, sZ, sS]
              refine hTk (i := 21) (d := 33) (v := .int .i64 (i : Int)) rfl rfl (Or.inl ⟨rfl, by rintro W' ⟨s0, s1, s2, s3, s4⟩; go_simp⟩) HS.out ?_
              simp only [Act.put, sB, sZ, sS]
              refine hTk (i := 22) (d := 34) (v := .pointer (some ⟨b, off + i * 3, none⟩)) rfl rfl (Or.inl ⟨rfl, by rintro W' ⟨s0, s1, s2, s3, s4⟩; go_simp⟩) HS.out ?_
              simp only [Act.put, sB, sZ, sS]
              refine hTk (i := 23) (d := 35) (v := .pointer (some ⟨b, off + i * 3 + 1, none⟩)) rfl rfl (Or.inl ⟨rfl, by rintro W' ⟨s0, s1, s2, s3, s4⟩; go_simp⟩) HS.out ?_
              simp only [Act.put, sB, sZ, sS]
              refine hTk (i := 24) (d := 36) (v := .int .i64 x.frm) rfl rfl (Or.inl ⟨rfl, by rintro W' ⟨s0, s1, s2, s3, s4⟩; go_simp⟩) HS.out ?_
              simp only [Act.put, sB, sZ, sS]
              refine hTk (i := 25) (d := 37) (v := .slice (some ⟨b, off, none⟩) n ca) rfl rfl (Or.inl ⟨rfl, by rintro W' ⟨s0, s1, s2, s3, s4⟩; go_simp⟩) HS.out ?_
              simp only [Act.put, sB, sZ, sS]
              refine hTk (i := 26) (d := 38) (v := .int .i64 (i : Int)) rfl rfl (Or.inl ⟨rfl, by rintro W' ⟨s0, s1, s2, s3, s4⟩; go_simp⟩) HS.out ?_
              simp only [Act.put, sB, sZ, sS]
              refine hTk (i := 27) (d := 39) (v := .pointer (some ⟨b, off + i * 3, none⟩)) rfl rfl (Or.inl ⟨rfl, by rintro W' ⟨s0, s1, s2, s3, s4⟩; go_simp⟩) HS.out ?_
              simp only [Act.put, sB, sZ, sS]
              refine hTk (i := 28) (d := 40) (v := .pointer (some ⟨b, off + i * 3 + 2, none⟩)) rfl rfl (Or.inl ⟨rfl, by rintro W' ⟨s0, s1, s2, s3, s4⟩; go_simp⟩) HS.out ?_
              simp only [Act.put, sB, sZ, sS]
              refine hTk (i := 29) (d := 41) (v := .int .i64 x.to) rfl rfl (Or.inl ⟨rfl, by rintro W' ⟨s0, s1, s2, s3, s4⟩; go_simp⟩) HS.out ?_
              simp only [Act.put, sB, sZ, sS]
              refine hTk (i := 30) (d := 42) (v := .bool false) rfl rfl (Or.inl ⟨rfl, by rintro W' ⟨s0, s1, s2, s3, s4⟩; go_simp⟩) HS.out ?_
              simp only [Act.put, sB, sZ, sS]
              refine hTk (i := 31) (d := 43) (v := .bool false) rfl rfl (Or.inl ⟨rfl, by rintro W' ⟨s0, s1, s2, s3, s4⟩; go_simp⟩) HS.out ?_
              simp only [Act.put, sB, sZ, sS]
              refine hTk (i := 32) (d := 44) (v := .bool false) rfl rfl (Or.inl ⟨rfl, by rintro W' ⟨s0, s1, s2, s3, s4⟩; go_simp⟩) HS.out ?_
              simp only [Act.put, sB, sZ, sS]
              refine hTk (i := 33) (d := 45) (v := .slice (some ⟨b, off, none⟩) n ca) rfl rfl (Or.inl ⟨rfl, by rintro W' ⟨s0, s1, s2, s3, s4⟩; go_simp⟩) HS.out ?_
              simp only [Act.put, sB, sZ, sS]
              refine hTk (i := 34) (d := 46) (v := .int .i64 (i : Int)) rfl rfl (Or.inl ⟨rfl, by rintro W' ⟨s0, s1, s2, s3, s4⟩; go_simp⟩) HS.out ?_
              simp only [Act.put, sB, sZ, sS]
              refine hTk (i := 35) (d := 47) (v := .pointer (some ⟨b, off + i * 3, none⟩)) rfl rfl (Or.inl ⟨rfl, by rintro W' ⟨s0, s1, s2, s3, s4⟩; go_simp⟩) HS.out ?_
              simp only [Act.put, sB, sZ, sS]
              refine hTk (i := 36) (d := 48) (v := .pointer (some ⟨b, off + i * 3 + 2, none⟩)) rfl rfl (Or.inl ⟨rfl, by rintro W' ⟨s0, s1, s2, s3, s4⟩; go_simp⟩) HS.out ?_
              simp only [Act.put, sB, sZ, sS]
              refine hTk (i := 37) (d := 49) (v := .int .i64 x.to) rfl rfl (Or.inl ⟨rfl, by rintro W' ⟨s0, s1, s2, s3, s4⟩; go_simp⟩) HS.out ?_
              simp only [Act.put, sB, sZ, sS]
              refine hTk (i := 38) (d := 50) (v := .agg #[.slice A p.nodes.length c, .slice A2 N c2]) rfl rfl (Or.inl ⟨rfl, by rintro W' ⟨s0, s1, s2, s3, s4⟩; go_simp⟩) HS.out ?_
              simp only [Act.put, sB, sZ, sS]
              refine hTk (i := 39) (d := 51) (v := .slice (some ⟨b, off, none⟩) n ca) rfl rfl (Or.inl ⟨rfl, by rintro W' ⟨s0, s1, s2, s3, s4⟩; go_simp⟩) HS.out ?_
              simp only [Act.put, sB, sZ, sS]
              refine hTk (i := 40) (d := 52) (v := .int .i64 (i : Int)) rfl rfl (Or.inl ⟨rfl, by rintro W' ⟨s0, s1, s2, s3, s4⟩; go_simp⟩) HS.out ?_
              simp only [Act.put, sB, sZ, sS]
              refine hTk (i := 41) (d := 53) (v := .pointer (some ⟨b, off + i * 3, none⟩)) rfl rfl (Or.inl ⟨rfl, by rintro W' ⟨s0, s1, s2, s3, s4⟩; go_simp⟩) HS.out ?_
              simp only [Act.put, sB, sZ, sS]
              refine hTk (i := 42) (d := 54) (v := .pointer (some ⟨b, off + i * 3, none⟩)) rfl rfl (Or.inl ⟨rfl, by rintro W' ⟨s0, s1, s2, s3, s4⟩; go_simp⟩) HS.out ?_
              simp only [Act.put, sB, sZ, sS]
              refine hTk (i := 43) (d := 55) (v := .int .i64 x.rail) rfl rfl (Or.inl ⟨rfl, by rintro W' ⟨s0, s1, s2, s3, s4⟩; go_simp⟩) HS.out ?_
              simp only [Act.put, sB, sZ, sS]
              refine wpAnyH_ready (rs := [44]) (by kernel_rfl) (by simp) ?_
              refine AllReadyH.cons rfl (fun K hK => ?_) AllReadyH.nil
              rw [if_pos (by rfl)]
              go_simp
              go_at_call 44
              (with_reducible refine (HLX.out _ (HB.out.trans (hbq.mono HB.out.size))).mono ?_)
              rintro e wc ⟨rfl, hbc⟩
              replace hbq := hbq.trans (hbc.mono hbq.size)
              have HS := Lib.hid (HCELL.out _ hbq)
              clear hbc
              refine hK.out _ _ HS.out (fun _ => ?_)
              clear hK K
              try simp only [Act.put, sB, sZ, sS]
              refine hTk (i := 45) (d := 57) (v := .bool true) rfl rfl (Or.inl ⟨rfl, by rintro W' ⟨s0, s1, s2, s3, s4⟩; go_simp⟩) HS.out ?_
              simp only [Act.put, sB, sZ, sS]
              refine hTk (i := 46) (d := 58) (v := .bool true) rfl rfl (Or.inl ⟨rfl, by rintro W' ⟨s0, s1, s2, s3, s4⟩; go_simp⟩) HS.out ?_
              simp only [Act.put, sB, sZ, sS]
              refine wpAnyH_done (by kernel_rfl) ?_ _

              clear HS
              go_wp2
              go_ret
              exact ⟨by rw [HNO.out]; rfl, HB1.out.trans ((HB.out.trans (hbq.mono HB.out.size)).mono HB1.out.size)⟩
            · have HYES := Lib.hid (show coverB p x = true from by unfold coverB; rw [HRI.out, hle]; simp [hf0, hft, hbig])
              clear hle
              go_upto_region 4 with (fail)
              have hbq : Below wb.heap.size wb wb.drew := (Below.refl _ _).drew
              have HS := Lib.hid (HCELL.out _ hbq)
              refine wp_region_held_drew (S := fun wx => wx.cell? ⟨w.heap.size, 0, none⟩ = some (.slice A p.nodes.length c) ∧ wx.cell? ⟨w.heap.size, 1, none⟩ = some (.slice A2 N c2) ∧ wx.cell? ⟨b, off + i * 3, none⟩ = some (.int .i64 x.rail) ∧ wx.cell? ⟨b, off + i * 3 + 1, none⟩ = some (.int .i64 x.frm) ∧ wx.cell? ⟨b, off + i * 3 + 2, none⟩ = some (.int .i64 x.to)) (by kernel_rfl) HS.out (fun _ => ?_)
              refine hTk (i := 0) (d := 12) (v := .slice (some ⟨b, off, none⟩) n ca) rfl rfl (Or.inl ⟨rfl, by rintro W' ⟨s0, s1, s2, s3, s4⟩; go_simp⟩) HS.out ?_
              simp only [Act.put, sB, sZ, sS]
              refine hTk (i := 1) (d := 13) (v := .int .i64 (i : Int)) rfl rfl (Or.inl ⟨rfl, by rintro W' ⟨s0, s1, s2, s3, s4⟩; go_simp⟩) HS.out ?_
              simp only [Act.put, sB, sZ, sS]
              refine hTk (i := 2) (d := 14) (v := .pointer (some ⟨b, off + i * 3, none⟩)) rfl rfl (Or.inl ⟨rfl, by rintro W' ⟨s0, s1, s2, s3, s4⟩; go_simp⟩) HS.out ?_
              simp only [Act.put, sB, sZ, sS]
              refine hTk (i := 3) (d := 15) (v := .pointer (some ⟨b, off + i * 3, none⟩)) rfl rfl (Or.inl ⟨rfl, by rintro W' ⟨s0, s1, s2, s3, s4⟩; go_simp⟩) HS.out ?_
              simp only [Act.put, sB, sZ, sS]
              refine hTk (i := 4) (d := 16) (v := .int .i64 x.rail) rfl rfl (Or.inl ⟨rfl, by rintro W' ⟨s0, s1, s2, s3, s4⟩; go_simp⟩) HS.out ?_
              simp only [Act.put, sB, sZ, sS]
              refine hTk (i := 5) (d := 17) (v := .pointer (some ⟨w.heap.size, 1, none⟩)) rfl rfl (Or.inl ⟨rfl, by rintro W' ⟨s0, s1, s2, s3, s4⟩; go_simp⟩) HS.out ?_
              simp only [Act.put, sB, sZ, sS]
              refine hTk (i := 6) (d := 18) (v := .slice A2 N c2) rfl rfl (Or.inl ⟨rfl, by rintro W' ⟨s0, s1, s2, s3, s4⟩; go_simp⟩) HS.out ?_
              simp only [Act.put, sB, sZ, sS]
              refine hTk (i := 7) (d := 19) (v := .int .i64 (N : Int)) rfl rfl (Or.inl ⟨rfl, by rintro W' ⟨s0, s1, s2, s3, s4⟩; go_simp⟩) HS.out ?_
              simp only [Act.put, sB, sZ, sS]
              refine hTk (i := 8) (d := 20) (v := .int .i64 ((N : Int) - 1)) rfl rfl (Or.inl ⟨rfl, by rintro W' ⟨s0, s1, s2, s3, s4⟩; go_simp⟩) HS.out ?_
              simp only [Act.put, sB, sZ, sS]
              refine wpAnyH_ready (rs := [9]) (by kernel_rfl) (by simp) ?_
              refine AllReadyH.cons rfl (fun K hK => ?_) AllReadyH.nil
              rw [if_pos (by rfl)]
              go_simp
              go_at_call 64
              (with_reducible refine (HIR.out _).mono ?_)
              rintro e v1 ⟨rfl, rfl⟩
              refine hK.out _ _ HS.out (fun _ => ?_)
              clear hK K
              try simp only [Act.put, sB, sZ, sS]
              refine hTk (i := 10) (d := 22) (v := .bool false) rfl rfl (Or.inl ⟨rfl, by rintro W' ⟨s0, s1, s2, s3, s4⟩; go_simp⟩) HS.out ?_
              simp only [Act.put, sB, sZ, sS]
              refine hTk (i := 11) (d := 23) (v := .bool false) rfl rfl (Or.inl ⟨rfl, by rintro W' ⟨s0, s1, s2, s3, s4⟩; go_simp⟩) HS.out ?_
              simp only [Act.put, sB, sZ, sS]
              refine hTk (i := 12) (d := 24) (v := .slice (some ⟨b, off, none⟩) n ca) rfl rfl (Or.inl ⟨rfl, by rintro W' ⟨s0, s1, s2, s3, s4⟩; go_simp⟩) HS.out ?_
              simp only [Act.put, sB, sZ, sS]
              refine hTk (i := 13) (d := 25) (v := .int .i64 (i : Int)) rfl rfl (Or.inl ⟨rfl, by rintro W' ⟨s0, s1, s2, s3, s4⟩; go_simp⟩) HS.out ?_
              simp only [Act.put, sB, sZ, sS]
              refine hTk (i := 14) (d := 26) (v := .pointer (some ⟨b, off + i * 3, none⟩)) rfl rfl (Or.inl ⟨rfl, by rintro W' ⟨s0, s1, s2, s3, s4⟩; go_simp⟩) HS.out ?_
              simp only [Act.put, sB, sZ, sS]
              refine hTk (i := 15) (d := 27) (v := .pointer (some ⟨b, off + i * 3 + 1, none⟩)) rfl rfl (Or.inl ⟨rfl, by rintro W' ⟨s0, s1, s2, s3, s4⟩; go_simp⟩) HS.out ?_
              simp only [Act.put, sB, sZ, sS]
              refine hTk (i := 16) (d := 28) (v := .int .i64 x.frm) rfl rfl (Or.inl ⟨rfl, by rintro W' ⟨s0, s1, s2, s3, s4⟩; go_simp⟩) HS.out ?_
              simp only [Act.put, sB, sZ, sS]
              refine hTk (i := 17) (d := 29) (v := .bool false) rfl rfl (Or.inl ⟨rfl, by rintro W' ⟨s0, s1, s2, s3, s4⟩; go_simp⟩) HS.out ?_
              simp only [Act.put, sB, sZ, sS]
              refine hTk (i := 18) (d := 30) (v := .bool false) rfl rfl (Or.inl ⟨rfl, by rintro W' ⟨s0, s1, s2, s3, s4⟩; go_simp⟩) HS.out ?_
              simp only [Act.put, sB, sZ, sS]
              refine hTk (i := 19) (d := 31) (v := .bool false) rfl rfl (Or.inl ⟨rfl, by rintro W' ⟨s0, s1, s2, s3, s4⟩; go_simp⟩) HS.out ?_
              simp only [Act.put, sB, sZ, sS]
              refine hTk (i := 20) (d := 32) (v := .slice (some ⟨b, off, none⟩) n ca) rfl rfl (Or.inl ⟨rfl, by rintro W' ⟨s0, s1, s2, s3, s4⟩; go_simp⟩) HS.out ?_
              simp only [Act.put, sB, sZ, sS]
              refine hTk (i := 21) (d := 33) (v := .int .i64 (i : Int)) rfl rfl (Or.inl ⟨rfl, by rintro W' ⟨s0, s1, s2, s3, s4⟩; go_simp⟩) HS.out ?_
              simp only [Act.put, sB, sZ, sS]
              refine hTk (i := 22) (d := 34) (v := .pointer (some ⟨b, off + i * 3, none⟩)) rfl rfl (Or.inl ⟨rfl, by rintro W' ⟨s0, s1, s2, s3, s4⟩; go_simp⟩) HS.out ?_
              simp only [Act.put, sB, sZ, sS]
              refine hTk (i := 23) (d := 35) (v := .pointer (some ⟨b, off + i * 3 + 1, none⟩)) rfl rfl (Or.inl ⟨rfl, by rintro W' ⟨s0, s1, s2, s3, s4⟩; go_simp⟩) HS.out ?_
              simp only [Act.put, sB, sZ, sS]
              refine hTk (i := 24) (d := 36) (v := .int .i64 x.frm) rfl rfl (Or.inl ⟨rfl, by rintro W' ⟨s0, s1, s2, s3, s4⟩; go_simp⟩) HS.out ?_
              simp only [Act.put, sB, sZ, sS]
              refine hTk (i := 25) (d := 37) (v := .slice (some ⟨b, off, none⟩) n ca) rfl rfl (Or.inl ⟨rfl, by rintro W' ⟨s0, s1, s2, s3, s4⟩; go_simp⟩) HS.out ?_
              simp only [Act.put, sB, sZ, sS]
              refine hTk (i := 26) (d := 38) (v := .int .i64 (i : Int)) rfl rfl (Or.inl ⟨rfl, by rintro W' ⟨s0, s1, s2, s3, s4⟩; go_simp⟩) HS.out ?_
              simp only [Act.put, sB, sZ, sS]
              refine hTk (i := 27) (d := 39) (v := .pointer (some ⟨b, off + i * 3, none⟩)) rfl rfl (Or.inl ⟨rfl, by rintro W' ⟨s0, s1, s2, s3, s4⟩; go_simp⟩) HS.out ?_
              simp only [Act.put, sB, sZ, sS]
              refine hTk (i := 28) (d := 40) (v := .pointer (some ⟨b, off + i * 3 + 2, none⟩)) rfl rfl (Or.inl ⟨rfl, by rintro W' ⟨s0, s1, s2, s3, s4⟩; go_simp⟩) HS.out ?_
              simp only [Act.put, sB, sZ, sS]
              refine hTk (i := 29) (d := 41) (v := .int .i64 x.to) rfl rfl (Or.inl ⟨rfl, by rintro W' ⟨s0, s1, s2, s3, s4⟩; go_simp⟩) HS.out ?_
              simp only [Act.put, sB, sZ, sS]
              refine hTk (i := 30) (d := 42) (v := .bool false) rfl rfl (Or.inl ⟨rfl, by rintro W' ⟨s0, s1, s2, s3, s4⟩; go_simp⟩) HS.out ?_
              simp only [Act.put, sB, sZ, sS]
              refine hTk (i := 31) (d := 43) (v := .bool false) rfl rfl (Or.inl ⟨rfl, by rintro W' ⟨s0, s1, s2, s3, s4⟩; go_simp⟩) HS.out ?_
              simp only [Act.put, sB, sZ, sS]
              refine hTk (i := 32) (d := 44) (v := .bool false) rfl rfl (Or.inl ⟨rfl, by rintro W' ⟨s0, s1, s2, s3, s4⟩; go_simp⟩) HS.out ?_
              simp only [Act.put, sB, sZ, sS]
              refine hTk (i := 33) (d := 45) (v := .slice (some ⟨b, off, none⟩) n ca) rfl rfl (Or.inl ⟨rfl, by rintro W' ⟨s0, s1, s2, s3, s4⟩; go_simp⟩) HS.out ?_
              simp only [Act.put, sB, sZ, sS]
              refine hTk (i := 34) (d := 46) (v := .int .i64 (i : Int)) rfl rfl (Or.inl ⟨rfl, by rintro W' ⟨s0, s1, s2, s3, s4⟩; go_simp⟩) HS.out ?_
              simp only [Act.put, sB, sZ, sS]
              refine hTk (i := 35) (d := 47) (v := .pointer (some ⟨b, off + i * 3, none⟩)) rfl rfl (Or.inl ⟨rfl, by rintro W' ⟨s0, s1, s2, s3, s4⟩; go_simp⟩) HS.out ?_
              simp only [Act.put, sB, sZ, sS]
              refine hTk (i := 36) (d := 48) (v := .pointer (some ⟨b, off + i * 3 + 2, none⟩)) rfl rfl (Or.inl ⟨rfl, by rintro W' ⟨s0, s1, s2, s3, s4⟩; go_simp⟩) HS.out ?_
              simp only [Act.put, sB, sZ, sS]
              refine hTk (i := 37) (d := 49) (v := .int .i64 x.to) rfl rfl (Or.inl ⟨rfl, by rintro W' ⟨s0, s1, s2, s3, s4⟩; go_simp⟩) HS.out ?_
              simp only [Act.put, sB, sZ, sS]
              refine hTk (i := 38) (d := 50) (v := .agg #[.slice A p.nodes.length c, .slice A2 N c2]) rfl rfl (Or.inl ⟨rfl, by rintro W' ⟨s0, s1, s2, s3, s4⟩; go_simp⟩) HS.out ?_
              simp only [Act.put, sB, sZ, sS]
              refine hTk (i := 39) (d := 51) (v := .slice (some ⟨b, off, none⟩) n ca) rfl rfl (Or.inl ⟨rfl, by rintro W' ⟨s0, s1, s2, s3, s4⟩; go_simp⟩) HS.out ?_
              simp only [Act.put, sB, sZ, sS]
              refine hTk (i := 40) (d := 52) (v := .int .i64 (i : Int)) rfl rfl (Or.inl ⟨rfl, by rintro W' ⟨s0, s1, s2, s3, s4⟩; go_simp⟩) HS.out ?_
              simp only [Act.put, sB, sZ, sS]
              refine hTk (i := 41) (d := 53) (v := .pointer (some ⟨b, off + i * 3, none⟩)) rfl rfl (Or.inl ⟨rfl, by rintro W' ⟨s0, s1, s2, s3, s4⟩; go_simp⟩) HS.out ?_
              simp only [Act.put, sB, sZ, sS]
              refine hTk (i := 42) (d := 54) (v := .pointer (some ⟨b, off + i * 3, none⟩)) rfl rfl (Or.inl ⟨rfl, by rintro W' ⟨s0, s1, s2, s3, s4⟩; go_simp⟩) HS.out ?_
              simp only [Act.put, sB, sZ, sS]
              refine hTk (i := 43) (d := 55) (v := .int .i64 x.rail) rfl rfl (Or.inl ⟨rfl, by rintro W' ⟨s0, s1, s2, s3, s4⟩; go_simp⟩) HS.out ?_
              simp only [Act.put, sB, sZ, sS]
              refine wpAnyH_ready (rs := [44]) (by kernel_rfl) (by simp) ?_
              refine AllReadyH.cons rfl (fun K hK => ?_) AllReadyH.nil
              rw [if_pos (by rfl)]
              go_simp
              go_at_call 44
              (with_reducible refine (HLX.out _ (HB.out.trans (hbq.mono HB.out.size))).mono ?_)
              rintro e wc ⟨rfl, hbc⟩
              replace hbq := hbq.trans (hbc.mono hbq.size)
              have HS := Lib.hid (HCELL.out _ hbq)
              clear hbc
              refine hK.out _ _ HS.out (fun _ => ?_)
              clear hK K
              try simp only [Act.put, sB, sZ, sS]
              refine hTk (i := 45) (d := 57) (v := .bool false) rfl rfl (Or.inl ⟨rfl, by rintro W' ⟨s0, s1, s2, s3, s4⟩; go_simp⟩) HS.out ?_
              simp only [Act.put, sB, sZ, sS]
              refine hTk (i := 46) (d := 58) (v := .bool false) rfl rfl (Or.inl ⟨rfl, by rintro W' ⟨s0, s1, s2, s3, s4⟩; go_simp⟩) HS.out ?_
              simp only [Act.put, sB, sZ, sS]
              refine wpAnyH_done (by kernel_rfl) ?_ _

              clear HS
              go_wp2
              go_roundw
              case rel => exact ⟨i + 1, by omega, vi (by omega), by rw [all_take_snoc HPT.out, HALL.out, HYES.out]; rfl, HB.out.trans (hbq.mono HB.out.size)⟩
              case measure => simp [intOf] <;> omega
    · obtain rfl : i = n := by omega
      have HFIN := Lib.hid (show touchB p l = decide (i ≤ 100) from by
        have := HALL.out
        rw [List.take_of_length_le (by rw [HN.out]; omega)] at this
        unfold touchB; rw [this, HN.out]; rfl)
      clear hb
      by_cases h1 : i ≤ 100
      · have HE := Lib.hid (show touchB p l = true from by rw [HFIN.out]; exact decide_eq_true h1)
        have h2 : (i : Int) ≤ 100 := by omega
        go_wp2
        go_ret
        exact ⟨by rw [HE.out]; rfl, HB1.out.trans (HB.out.mono HB1.out.size)⟩
      · have HE := Lib.hid (show touchB p l = false from by rw [HFIN.out]; exact decide_eq_false h1)
        have h2 : ¬ (i : Int) ≤ 100 := by omega
        go_wp2
        go_ret
        exact ⟨by rw [HE.out]; rfl, HB1.out.trans (HB.out.mono HB1.out.size)⟩
end Go.Proofs.YtekambdnmaompaaGreat.SW
