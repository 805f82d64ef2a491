/- Texts D5 C41 C42 C43 D6. -/
import Derived.Test.YtbnfnpakibkboaaGreatKL
import Derived.Test.YtbnfnpakibkboaaGreatKLa
namespace Go.Proofs.YtbnfnpakibkboaaGreat
set_option linter.unusedVariables false
set_option linter.unusedSimpArgs false
open Go.RowKit

theorem Gr.mk' {g : Nat} {w w' : World} (ho : Below 0 w w') (hb : ∀ k, k < w.heap.size → k ≠ g → w'.heap[k]? = w.heap[k]?) : Gr g w w' := ⟨ho.os, ho.tape, ho.output, ho.size, fun k hk hn => hb k hk (fun e => hn (by rw [e]))⟩
theorem Gr.blk {g : Nat} {w w' : World} (h : Gr g w w') {k : Nat} (hk : k < w.heap.size) (hn : k ≠ g) : w'.heap[k]? = w.heap[k]? := h.block k hk (fun e => hn (by injection e))
theorem Gr.own {α : Type} {f : α → List Value} {g : Nat} {w w' : World} {base size : Nat} {e : TypeId} {v : Value} {l : List α} (h : Gr g w w') (o : Own w base e size f v l) (hn : ∀ k, v.ownBlock = some k → k ≠ g) : Own w' base e size f v l :=
  o.of_blocks (fun k hk => h.blk (o.lt k hk).2 (hn k hk))
theorem Gr.rw' {g k : Nat} {w w' : World} {t : TypeId} {cs : Array Value} (h : Gr g w w') (o : Rw w k t cs) (hn : k ≠ g) : Rw w' k t cs := (h.blk o.lt hn).trans o
theorem Gr.rf {g k n : Nat} {w w' : World} {t : TypeId} {f : Nat → Value} (h : Gr g w w') (o : Rf w k t n f) (hn : k ≠ g) : Rf w' k t n f := (h.blk o.lt hn).trans o
/-- a settling in memory whose nodes' parts are not named yet, and of which nothing is solved -/
structure StB (w : World) (B sb : Nat) (x : SL) (C : Nat → Ci) (V : Nat → Vi) (K : Nat → Bool) (z : Zs) (fon run : List Bool) (xs : List Pm) : Prop where
  bw : B ≤ w.heap.size
  ne : StNe sb x
  st : StR w sb x C V K
  lo : B ≤ sb ∧ B ≤ x.cb ∧ B ≤ x.vb ∧ B ≤ x.kb
  N : x.N = z.N
  np : x.np = z.np
  le : x.least = z.g.least
  g : GAt w B x.wires.A x.wires.n x.feeds.A x.feeds.n z.g
  l : Sl w B 3 CL x.loads.A z.ls
  ll : z.ls.length = x.loads.n
  F : Own w B 4 1 fB x.fon.v fon
  fn : fon.length = z.g.feeds.length
  R : Own w B 4 1 fB x.run.v run
  rn : run.length = z.ls.length
  W : Own w B 4 1 fB x.sw.v z.sw
  X : Own w B 132 3 fPm x.parts.v xs
  xi : ∀ y ∈ xs, PmIn w B y
  xp : xs.map (·.p) = z.ps.map (partV z.g z.sw)
  dF : ∀ k, x.fon.v.ownBlock = some k → k ≠ x.kb ∧ x.run.v.ownBlock ≠ some k ∧ x.sw.v.ownBlock ≠ some k
  dR : ∀ k, x.run.v.ownBlock = some k → k ≠ x.kb ∧ x.sw.v.ownBlock ≠ some k
  dW : ∀ k, x.sw.v.ownBlock = some k → k ≠ x.kb
def PmLt (y : Pm) (pb : Nat) : Prop := ∀ k, (y.s1.v.ownBlock = some k ∨ y.s2.v.ownBlock = some k ∨ y.s3.v.ownBlock = some k) → k ≠ pb
theorem own_ne {α : Type} {f : α → List Value} {w : World} {base size pb : Nat} {e t : TypeId} {cs : Array Value} {v : Value} {l : List α} (h : Own w base e size f v l) (hp : w.heap[pb]? = some (.cells cs t (0, 0))) (hne : e ≠ t) : ∀ k, v.ownBlock = some k → k ≠ pb := fun k hk => by
  obtain ⟨cs2, hc⟩ := own_type h hk
  exact ne_ty hp hc hne
theorem StB.gr {w w' : World} {B sb : Nat} {x : SL} {C : Nat → Ci} {V : Nat → Vi} {K : Nat → Bool} {z : Zs} {fon run : List Bool} {xs : List Pm} (h : StB w B sb x C V K z fon run xs) {pb : Nat} {cs : Array Value} (g : Gr pb w w') (hlo : B ≤ pb)
    (hp : w.heap[pb]? = some (.cells cs 3 (0, 0))) (hx : ∀ y ∈ xs, PmLt y pb) : StB w' B sb x C V K z fon run xs := by
  have hbl : Below B w w' := ⟨g.os, g.tape, g.output, g.size, fun k hk => g.blk (Nat.lt_of_lt_of_le hk h.bw) (by omega)⟩
  exact ⟨Nat.le_trans h.bw g.size, h.ne, ⟨g.rw' h.st.r (ne_ty hp h.st.r (by decide)), g.rf h.st.c (ne_ty hp h.st.c (by decide)), g.rf h.st.v (ne_ty hp h.st.v (by decide)), g.rf h.st.k (ne_ty hp h.st.k (by decide))⟩, h.lo, h.N, h.np, h.le, h.g.below hbl, h.l.below hbl, h.ll,
    g.own h.F (own_ne h.F hp (by decide)), h.fn, g.own h.R (own_ne h.R hp (by decide)), h.rn, g.own h.W (own_ne h.W hp (by decide)), g.own h.X (own_ne h.X hp (by decide)), fun y hy => ⟨g.own (h.xi y hy).o1 (fun k hk => hx y hy k (.inl hk)), g.own (h.xi y hy).o2 (fun k hk => hx y hy k (.inr (.inl hk))), g.own (h.xi y hy).o3 (fun k hk => hx y hy k (.inr (.inr hk)))⟩, h.xp, h.dF, h.dR, h.dW⟩
theorem StB.toA {w : World} {B sb : Nat} {x : SL} {C : Nat → Ci} {V : Nat → Vi} {K : Nat → Bool} {z : Zs} {fon run : List Bool} {xs : List Pm} (h : StB w B sb x C V K z fon run xs) {pb : Nat} (hx : x.pof = ⟨some ⟨pb, 0, none⟩, z.N, z.N⟩) (hB : B ≤ pb) (hp : Rf w pb 3 z.N (fun c => .int .i64 (z.pof c : Int))) :
    StA w B sb x C V K z fon run xs (fun j => j < 0) :=
  ⟨h.bw, h.ne, h.st, h.lo, h.N, h.np, h.le, h.g, h.l, h.ll, h.F, h.fn, h.R, h.rn, h.W, ⟨pb, hx, hB, hp⟩, h.X, h.xi, h.xp, h.dF, h.dR, h.dW, fun i hi d => absurd d (Nat.not_lt_zero _)⟩
def n0 : Sc := ⟨none, 0, 0⟩
theorem five_nil (k : Nat) : (#[.slice none 0 0, .slice none 0 0, .slice none 0 0, .slice none 0 0, .slice none 0 0] : Array Value)[k % 5]! = cell5 (fun _ => ⟨n0, n0, n0, n0, n0⟩) k := by
  unfold cell5 fCi n0 Sc.v
  have : k % 5 < 5 := Nat.mod_lt _ (by decide)
  generalize k % 5 = j at this
  rcases (show j = 0 ∨ j = 1 ∨ j = 2 ∨ j = 3 ∨ j = 4 by omega) with e | e | e | e | e <;> subst e <;> rfl
theorem three_nil (k : Nat) : (#[.slice none 0 0, .slice none 0 0, .int .i64 0] : Array Value)[k % 3]! = cell3 (fun _ => ⟨n0, n0, 0⟩) k := by
  unfold cell3 fVi n0 Sc.v
  have : k % 3 < 3 := Nat.mod_lt _ (by decide)
  generalize k % 3 = j at this
  rcases (show j = 0 ∨ j = 1 ∨ j = 2 by omega) with e | e | e <;> subst e <;> rfl
theorem one_nil (k : Nat) : (#[.bool false] : Array Value)[k % 1]! = .bool ((fun _ => false) k) := by
  rw [Nat.mod_one]; rfl
end Go.Proofs.YtbnfnpakibkboaaGreat

namespace Go.Proofs.YtbnfnpakibkboaaGreat
set_option linter.unusedVariables false
set_option linter.unusedSimpArgs false
open Go.RowKit

structure Zs.Pre (z : Zs) : Prop where
  gn : z.g.nodes = z.N
  n1 : 1 ≤ z.N
  n40 : z.N ≤ 40
  le0 : 0 ≤ z.g.least
  le1 : z.g.least ≤ 1000
  wb : wiresB z.N z.g.wires = true
  fb : feedsB z.N z.g.feeds = true
  sl : z.sw.length = z.g.wires.length
  lb : loadsB z.N z.ls = true
theorem Zs.Pre.ok {z : Zs} (h : z.Pre) (hs : smallP z.ps = true) : z.Ok := ⟨h.gn, h.n1, h.n40, h.le0, h.le1, h.wb, h.fb, h.sl, h.lb, hs⟩
def BgPost (B : Nat) (z : Zs) (fon : List Bool) (w : World) (e : Ending) (w' : World) : Prop :=
  (smallP z.ps = false ∧ e = .returned (.tuple #[.pointer none, .bool false]) ∧ Below w.heap.size w w') ∨
  (smallP z.ps = true ∧ ∃ (sb : Nat) (x : SL) (C : Nat → Ci) (V : Nat → Vi) (K : Nat → Bool) (xs : List Pm), e = .returned (.tuple #[.pointer (some ⟨sb, 0, none⟩), .bool true]) ∧ StA w' B sb x C V K z fon (List.replicate z.ls.length true) xs (fun j => j < z.np) ∧ Below w.heap.size w w')
theorem info134 : (Tryz.prog.info? 134).map (fun i => (i.zero, i.size, i.bytes)) = some (some (.agg #[.slice none 0 0, .slice none 0 0, .slice none 0 0, .slice none 0 0, .slice none 0 0]), 5, 120) := by kernel_rfl
theorem info136 : (Tryz.prog.info? 136).map (fun i => (i.zero, i.size, i.bytes)) = some (some (.agg #[.slice none 0 0, .slice none 0 0, .int .i64 0]), 3, 56) := by kernel_rfl
/-- a cell of the part at each node, while the parts are named -/
theorem made_g (zc : Array Value) (m : Nat) : madeCells zc m = ((List.range m).map fun k => zc[k % zc.size]!).toArray := by
  apply Array.ext_getElem?
  intro i
  simp only [List.getElem?_toArray, List.getElem?_map]
  by_cases hi : i < m
  · rw [List.getElem?_range hi]; simp [madeCells, hi]
  · rw [List.getElem?_eq_none (by simpa using Nat.le_of_not_lt hi)]; simp [madeCells, hi]
theorem Rf.madeg (w : World) (zc : Array Value) (m : Nat) (t : TypeId) : Rf (w.alloc (.cells (madeCells zc m) t)) w.heap.size t m (fun k => zc[k % zc.size]!) := by
  rw [made_g]; exact Rw.new _ _ _
def PfI (z : Zs) (pb i j : Nat) (wr : World) : Prop :=
  ∃ PF : Nat → Int, Rf wr pb 3 z.N (fun c => .int .i64 (PF c)) ∧ (∀ c, c < z.N → z.pof c < i → PF c = z.pof c) ∧ (∀ j', j' < j → ∀ c, (z.nd i)[j']? = some c → PF c = z.pof c)
set_option maxRecDepth 100000 in
set_option maxHeartbeats 8000000 in
theorem begin_any (B : Nat) (Aw Af As At Al : Option Addr) (nw nf nl cw cf cs ct cl : Nat) (z : Zs) (fon : List Bool) (w : World) (hbB : B ≤ w.heap.size) (hz : z.Pre) (hG : GAt w B Aw nw Af nf z.g) (hfo : fon.length = nf) (hF : Sl w w.heap.size 1 CB As fon)
    (hsl : z.sw.length = nw) (hO : Sl w w.heap.size 1 CB At z.sw) (hll : z.ls.length = nl) (hL : Sl w B 3 CL Al z.ls) :
    Calls Tryz.prog 75 #[.agg #[.int .i64 (z.N : Int), .slice Aw nw cw, .slice Af nf cf, .int .i64 z.g.least], .agg #[.slice As nf cs, .slice At nw ct], .slice Al nl cl] w fun e w' => BgPost B z fon w e w' := by
  have hb1 := ((Below.refl w.heap.size w).alloc (Nat.le_refl _) (.cells #[.int .i64 (z.N : Int), .slice Aw nw cw, .slice Af nf cf, .int .i64 z.g.least] 25)).alloc (by simp) (.cells #[.slice As nf cs, .slice At nw ct] 28)
  obtain ⟨q1, q2⟩ := rows2 w #[.int .i64 (z.N : Int), .slice Aw nw cw, .slice Af nf cf, .int .i64 z.g.least] #[.slice As nf cs, .slice At nw ct] 25 28
  have hz1 : ((w.alloc (.cells #[.int .i64 (z.N : Int), .slice Aw nw cw, .slice Af nf cf, .int .i64 z.g.least] 25)).alloc (.cells #[.slice As nf cs, .slice At nw ct] 28)).heap.size = w.heap.size + 2 := by simp
  have e0 := q1.cell; have e1 := q2.cell
  obtain ⟨W1, hW1⟩ : ∃ y, (w.alloc (.cells #[.int .i64 (z.N : Int), .slice Aw nw cw, .slice Af nf cf, .int .i64 z.g.least] 25)).alloc (.cells #[.slice As nf cs, .slice At nw ct] 28) = y := ⟨_, rfl⟩
  rw [hW1] at hb1 q1 q2 hz1 e0 e1
  have HPO := Lib.hid (partsOf_any Aw Af At nw nf cw cf ct z.N z.g z.sw W1 hz.n1 hz.n40 hz.wb ((hG.below (hb1.mono hbB)).more (Nat.le_trans hbB hb1.size)) hsl ((hO.below hb1).more (fun _ _ h => h) hb1.size))
  have HB1 := Lib.hid hb1; have HZ1 := Lib.hid hz1
  have HQ := Lib.hid (And.intro q1 q2)
  have HG := Lib.hid hG; have HF := Lib.hid hF; have HO := Lib.hid hO; have HL := Lib.hid hL; have HFO := Lib.hid hfo; have HSL := Lib.hid hsl; have HLL := Lib.hid hll; have HZ := Lib.hid hz
  have hn40 := hz.n40; have hn1 := hz.n1
  have hnl : nl ≤ 1000 := by have := loadsB_len hz.lb; omega
  clear hb1 q1 q2 hz1 hG hF hO hL hfo hsl hll hz
  obtain ⟨bb, hbb⟩ : ∃ b, smallP z.ps = b := ⟨_, rfl⟩
  have hbb' : smallP (partsL (onP z.g.wires z.sw) z.N) = bb := hbb
  rw [hbb'] at HPO
  have HBB := Lib.hid hbb
  clear hbb hbb'
  go_enter Tryz.func75, Tryz.ntmps75
  go_wp2_with fail
  (with_reducible refine (HPO.out).mono ?_)
  rintro e w3 ⟨⟨s, xs, rfl, hox, hxi, hxm⟩, hb3⟩
  clear e0 e1
  have HB3 := Lib.hid hb3
  cases bb with
  | false =>
    clear hox hxi hxm hb3
    go_wp2
    go_ret2
    exact .inl ⟨HBB.out, rfl, HB1.out.trans (HB3.out.mono HB1.out.size)⟩
  | true =>
    have hok : z.Ok := HZ.out.ok HBB.out
    have HOK := Lib.hid hok
    rw [if_pos rfl] at hxm
    obtain ⟨sA, sn, sc⟩ := s
    have hon := own_sl fPm_len hox
    simp only at hon
    have hsnp : sn = z.np := by
      rw [hon.2]
      have := congrArg List.length hxm
      rw [List.length_map, List.length_map] at this
      rw [this]; exact Zs.ps_len
    have HSN := Lib.hid hsnp
    have HOX := Lib.hid hox; have HXI := Lib.hid hxi; have HXM := Lib.hid hxm; have HON := Lib.hid hon.1
    have hnp := Zs.np_le (z := z)
    have hsn40 : sn ≤ 40 := by omega
    have q1 := HQ.out.1.below hb3 (by have := HZ1.out; omega)
    have q2 := HQ.out.2.below hb3 (by have := HZ1.out; omega)
    have HQ3 := Lib.hid (And.intro q1 q2)
    have e0 := q1.cell; have e1 := q2.cell
    have hbw3 := HB1.out.trans (hb3.mono HB1.out.size)
    have hsz3 := hb3.size
    have hsz1 := HZ1.out
    have HBW3 := Lib.hid hbw3
    clear hox hxi hxm hb3 hon q1 q2 hok hsnp hnp
    obtain ⟨i3, hi3, hz3, hs3, hy3⟩ := info_parts info3
    obtain ⟨i4, hi4, hz4, hs4, hy4⟩ := info_parts info4
    have hmk3 := fun W : World => run_mk (P := Tryz.prog) 40 3 i3 _ 1 Tryz.underlying40 hi3 hz3 hs3 (z.N : Int) (z.N : Int) z.N z.N rfl rfl (by omega) (by rw [hy3]; omega) (by omega) W
    rw [Nat.mul_one] at hmk3
    have e0a := (HQ3.out.1.alloc (.cells (madeCells #[.int .i64 0] z.N) 3)).cell
    go_upto_region 4 with (fail)
    refine wp_region_noPanic ?_
    go_region
    refine NoPanic.normal ?_
    obtain ⟨pb, hpb⟩ : ∃ p, w3.heap.size = p := ⟨_, rfl⟩
    have qp : Rf ((w3.alloc (.cells (madeCells #[.int .i64 0] z.N) 3)).alloc (.cells #[.int .i64 (z.N : Int), .slice Aw nw cw, .slice Af nf cf, .int .i64 z.g.least, .slice none 0 0, .slice none 0 0, .slice Al nl cl, .slice none 0 0, .slice sA sn sc, .slice (some ⟨pb, 0, none⟩) z.N z.N, .slice none 0 0, .slice none 0 0, .slice none 0 0] 110)).drew pb 3 z.N (fun _ => .int .i64 0) := by rw [← hpb]; exact (Rf.made1 w3 (.int .i64 0) z.N 3).alloc _
    have qs : Rw ((w3.alloc (.cells (madeCells #[.int .i64 0] z.N) 3)).alloc (.cells #[.int .i64 (z.N : Int), .slice Aw nw cw, .slice Af nf cf, .int .i64 z.g.least, .slice none 0 0, .slice none 0 0, .slice Al nl cl, .slice none 0 0, .slice sA sn sc, .slice (some ⟨pb, 0, none⟩) z.N z.N, .slice none 0 0, .slice none 0 0, .slice none 0 0] 110)).drew (pb + 1) 110 #[.int .i64 (z.N : Int), .slice Aw nw cw, .slice Af nf cf, .int .i64 z.g.least, .slice none 0 0, .slice none 0 0, .slice Al nl cl, .slice none 0 0, .slice sA sn sc, .slice (some ⟨pb, 0, none⟩) z.N z.N, .slice none 0 0, .slice none 0 0, .slice none 0 0] := by
      have := Rw.new (w3.alloc (.cells (madeCells #[.int .i64 0] z.N) 3)) #[.int .i64 (z.N : Int), .slice Aw nw cw, .slice Af nf cf, .int .i64 z.g.least, .slice none 0 0, .slice none 0 0, .slice Al nl cl, .slice none 0 0, .slice sA sn sc, .slice (some ⟨pb, 0, none⟩) z.N z.N, .slice none 0 0, .slice none 0 0, .slice none 0 0] 110
      rw [World.size_alloc, hpb] at this; exact this.drew
    have hb4 := (((Below.refl w3.heap.size w3).alloc (Nat.le_refl _) (.cells (madeCells #[.int .i64 0] z.N) 3)).alloc (by simp) (.cells #[.int .i64 (z.N : Int), .slice Aw nw cw, .slice Af nf cf, .int .i64 z.g.least, .slice none 0 0, .slice none 0 0, .slice Al nl cl, .slice none 0 0, .slice sA sn sc, .slice (some ⟨pb, 0, none⟩) z.N z.N, .slice none 0 0, .slice none 0 0, .slice none 0 0] 110)).drew
    have hs4' : ((w3.alloc (.cells (madeCells #[.int .i64 0] z.N) 3)).alloc (.cells #[.int .i64 (z.N : Int), .slice Aw nw cw, .slice Af nf cf, .int .i64 z.g.least, .slice none 0 0, .slice none 0 0, .slice Al nl cl, .slice none 0 0, .slice sA sn sc, .slice (some ⟨pb, 0, none⟩) z.N z.N, .slice none 0 0, .slice none 0 0, .slice none 0 0] 110)).drew.heap.size = pb + 2 := by rw [← hpb]; simp [World.drew]
    rw [hpb]
    obtain ⟨w4, hw4⟩ : ∃ y, ((w3.alloc (.cells (madeCells #[.int .i64 0] z.N) 3)).alloc (.cells #[.int .i64 (z.N : Int), .slice Aw nw cw, .slice Af nf cf, .int .i64 z.g.least, .slice none 0 0, .slice none 0 0, .slice Al nl cl, .slice none 0 0, .slice sA sn sc, .slice (some ⟨pb, 0, none⟩) z.N z.N, .slice none 0 0, .slice none 0 0, .slice none 0 0] 110)).drew = y := ⟨_, rfl⟩
    rw [hw4] at qp qs hb4 hs4' ⊢
    have HQP := Lib.hid qp; have HQS := Lib.hid qs; have HB4 := Lib.hid hb4; have HS4 := Lib.hid hs4'; have HPB := Lib.hid hpb; have HLT := Lib.hid (show w.heap.size + 1 < pb from by omega)
    have hbw4 := HBW3.out.trans (hb4.mono HBW3.out.size)
    have HBW4 := Lib.hid hbw4
    have HRS := Lib.hid (show ∀ wx, Below w4.heap.size w4 wx → Rw wx (w.heap.size + 1) 28 #[.slice As nf cs, .slice At nw ct] from fun wx hb => (HQ3.out.2.below hb4 (by omega)).below hb (by have := hb4.size; omega))
    have HCL1 := Lib.hid (show ∀ wx, Below w4.heap.size w4 wx → Calls Tryz.prog 88 #[.slice As nf cs] wx fun e w' => ∃ (A2 : Option Addr) (c2 : Nat), e = .returned (.slice A2 nf c2) ∧ Own w' wx.heap.size 4 1 fB (.slice A2 nf c2) fon ∧ Below wx.heap.size wx w' from fun wx hb => by
      have hx := HBW4.out.trans (hb.mono HBW4.out.size)
      exact clone_any As nf cs fon wx HFO.out (by have := HG.out.fm; omega) ((HF.out.below hx).more (fun _ _ h => h) hx.size))
    have HCL2 := Lib.hid (show ∀ wx, Below w4.heap.size w4 wx → Calls Tryz.prog 88 #[.slice At nw ct] wx fun e w' => ∃ (A2 : Option Addr) (c2 : Nat), e = .returned (.slice A2 nw c2) ∧ Own w' wx.heap.size 4 1 fB (.slice A2 nw c2) z.sw ∧ Below wx.heap.size wx w' from fun wx hb => by
      have hx := HBW4.out.trans (hb.mono HBW4.out.size)
      exact clone_any At nw ct z.sw wx HSL.out (by have := HG.out.wm; omega) ((HO.out.below hx).more (fun _ _ h => h) hx.size))
    clear e0 e1 e0a hmk3 qp qs hb4 hbw3 hbw4 hsz3 hsz1 hw4 hpb hs4'
    (try simp only [Exit.inBlock, Exit.then])
    go_upto_region 5 with (fail)
    have hbq : Below w4.heap.size w4 w4.drew := (Below.refl _ _).drew
    have HS := Lib.hid (show (fun wx => Rw wx (w.heap.size + 1) 28 #[.slice As nf cs, .slice At nw ct]) w4.drew from HRS.out _ hbq)
    refine wp_region_noPanic ?_
    refine wp_region_held_drew (S := fun wx => Rw wx (w.heap.size + 1) 28 #[.slice As nf cs, .slice At nw ct]) (by kernel_rfl) HS.out (fun _ => ?_)
    refine hTk (i := 0) (d := 33) (v := .pointer (some ⟨pb + 1, 0, none⟩)) rfl rfl (Or.inl ⟨rfl, by rintro W' r0; have ry0 := r0.cell; go_simp⟩) HS.out ?_
    simp only [Act.put, sB, sZ, sS]
    refine hTk (i := 1) (d := 34) (v := .pointer (some ⟨w.heap.size + 1, 0, none⟩)) rfl rfl (Or.inl ⟨rfl, by rintro W' r0; have ry0 := r0.cell; go_simp⟩) HS.out ?_
    simp only [Act.put, sB, sZ, sS]
    refine hTk (i := 2) (d := 35) (v := .slice As nf cs) rfl rfl (Or.inl ⟨rfl, by rintro W' r0; have ry0 := r0.cell; go_simp⟩) HS.out ?_
    simp only [Act.put, sB, sZ, sS]
    refine hTk (i := 4) (d := 37) (v := .pointer (some ⟨w.heap.size + 1, 1, none⟩)) rfl rfl (Or.inl ⟨rfl, by rintro W' r0; have ry0 := r0.cell; go_simp⟩) HS.out ?_
    simp only [Act.put, sB, sZ, sS]
    refine hTk (i := 5) (d := 38) (v := .slice At nw ct) rfl rfl (Or.inl ⟨rfl, by rintro W' r0; have ry0 := r0.cell; go_simp⟩) HS.out ?_
    simp only [Act.put, sB, sZ, sS]
    refine wpAnyH_ready (rs := [3]) (by kernel_rfl) (by simp) ?_
    refine AllReadyH.cons rfl (fun K hK => ?_) AllReadyH.nil
    rw [if_pos (by rfl)]
    go_simp
    go_at_call 88
    (with_reducible refine (HCL1.out _ hbq).mono ?_)
    rintro e wc0 ⟨A2, c2, rfl, hof, hbn⟩
    have HOF := Lib.hid (show Own wc0 w4.heap.size 4 1 fB (.slice A2 nf c2) fon from hof)
    replace hbq := hbq.trans (hbn.mono hbq.size)
    have HZ0 := Lib.hid hbq.size
    clear hbn hof
    have HS := Lib.hid (show (fun wx => Rw wx (w.heap.size + 1) 28 #[.slice As nf cs, .slice At nw ct]) wc0 from HRS.out _ hbq)
    refine hK.out _ _ HS.out (fun _ => ?_)
    clear hK K
    try simp only [Act.put, sB, sZ, sS]
    refine wpAnyH_ready (rs := [6]) (by kernel_rfl) (by simp) ?_
    refine AllReadyH.cons rfl (fun K hK => ?_) AllReadyH.nil
    rw [if_pos (by rfl)]
    go_simp
    go_at_call 88
    (with_reducible refine (HCL2.out _ hbq).mono ?_)
    rintro e wc1 ⟨A3, c3, rfl, how, hbn⟩
    have HOW := Lib.hid how
    have HBN := Lib.hid hbn
    replace hbq := hbq.trans (hbn.mono hbq.size)
    clear hbn how
    have HS := Lib.hid (show (fun wx => Rw wx (w.heap.size + 1) 28 #[.slice As nf cs, .slice At nw ct]) wc1 from HRS.out _ hbq)
    refine hK.out _ _ HS.out (fun _ => ?_)
    clear hK K
    try simp only [Act.put, sB, sZ, sS]
    refine hTk (i := 7) (d := 40) (v := .agg #[.slice A2 nf c2, .slice A3 nw c3]) rfl rfl (Or.inl ⟨rfl, by rintro W' r0; have ry0 := r0.cell; go_simp⟩) HS.out ?_
    simp only [Act.put, sB, sZ, sS]
    refine hTk (i := 8) (d := 41) (v := .pointer (some ⟨pb + 1, 0, none⟩)) rfl rfl (Or.inl ⟨rfl, by rintro W' r0; have ry0 := r0.cell; go_simp⟩) HS.out ?_
    simp only [Act.put, sB, sZ, sS]
    refine hTk (i := 9) (d := 42) (v := .pointer (some ⟨pb + 1, 4, none⟩)) rfl rfl (Or.inl ⟨rfl, by rintro W' r0; have ry0 := r0.cell; go_simp⟩) HS.out ?_
    simp only [Act.put, sB, sZ, sS]
    refine wpAnyH_ready (rs := [10]) (by kernel_rfl) (by simp) ?_
    refine AllReadyH.cons rfl (fun K hK => ?_) AllReadyH.nil
    rw [if_pos (by rfl)]
    have hr5 := HQS.out.below hbq (by have := HS4.out; omega)
    have y0 := hr5.cell 4
    have y1 := hr5.cell 5
    have f0 := hr5.frozen 4
    have f1 := hr5.frozen 5
    go_simp
    clear y0 y1 f0 f1
    have hr6 := (hr5.set 4 (.slice A2 nf c2)).set 5 (.slice A3 nw c3)
    have HT := Lib.hid (((HRS.out _ hbq).far (k := pb + 1) 4 (.slice A2 nf c2) (by have := HLT.out; omega)).far (k := pb + 1) 5 (.slice A3 nw c3) (by have := HLT.out; omega))
    have HBC := Lib.hid hbq
    have hst5 : ∀ k, k ≠ pb + 1 → ((wc1.setCell ⟨pb + 1, 4, none⟩ (.slice A2 nf c2)).setCell ⟨pb + 1, 5, none⟩ (.slice A3 nw c3)).heap[k]? = wc1.heap[k]? := fun k hk => (Below.heap_setCell _ _ _ _ hk).trans (Below.heap_setCell _ _ _ _ hk)
    have hz5 : ((wc1.setCell ⟨pb + 1, 4, none⟩ (.slice A2 nf c2)).setCell ⟨pb + 1, 5, none⟩ (.slice A3 nw c3)).heap.size = wc1.heap.size := by simp [World.setCell]
    have hB5 : Below w4.heap.size wc1 wc1 := Below.refl _ _
    have ho5 := ((Below.refl 0 wc1).setCell (p := ⟨pb + 1, 4, none⟩) (Nat.zero_le _) (.slice A2 nf c2)).setCell (p := ⟨pb + 1, 5, none⟩) (Nat.zero_le _) (.slice A3 nw c3)
    obtain ⟨w5, hw5⟩ : ∃ y, (wc1.setCell ⟨pb + 1, 4, none⟩ (.slice A2 nf c2)).setCell ⟨pb + 1, 5, none⟩ (.slice A3 nw c3) = y := ⟨_, rfl⟩
    rw [hw5] at hr6 HT hst5 hz5 ho5 ⊢
    have HR6 := Lib.hid hr6
    have HST5 := Lib.hid hst5
    have HZ5 := Lib.hid hz5
    have HO5 := Lib.hid ho5
    clear hw5 hr5 hr6 hst5 hz5 hB5 ho5 HS
    have HS := HT
    refine hK.out _ _ HS.out (fun _ => ?_)
    clear hK K
    try simp only [Act.put, sB, sZ, sS]
    refine wpAnyH_done (by kernel_rfl) ?_ _
    clear HS
    refine NoPanic.normal ?_
    (try simp only [Exit.inBlock, Exit.then])
    have HRP := Lib.hid (repeat_any (some ⟨w5.heap.size, 0, none⟩) 1 nl (w5.alloc (.cells #[.bool true] 4)) (by omega) (by rw [World.size_alloc]; exact Sl.new (f := fB) (size := 1) w5 4 (true : Bool) #[.bool true] rfl))
    clear hbq HCL1 HCL2
    go_wp2_with fail
    (with_reducible refine (HRP.out).mono ?_)
    rintro e w6 ⟨A4, rfl, hor, hbn⟩
    have hb6 := ((Below.refl w5.heap.size w5).alloc (Nat.le_refl _) (.cells #[.bool true] 4)).trans (hbn.mono (by simp))
    have hsb5 : pb + 1 < w5.heap.size := by have := HBC.out.size; have := HZ5.out; have := HS4.out; omega
    have hr6 := HR6.out.below hb6 hsb5
    have HOR := Lib.hid (hor.lower (show w5.heap.size ≤ _ by simp))
    have y0 := hr6.cell 7; have f0 := hr6.frozen 7
    have HB6 := Lib.hid hb6
    clear hbn hor hb6
    go_upto_region 7 with (fail)
    have hr7 := hr6.set 7 (.slice A4 nl nl)
    have hst6 : ∀ k, k ≠ pb + 1 → (w6.setCell ⟨pb + 1, 7, none⟩ (.slice A4 nl nl)).heap[k]? = w6.heap[k]? := fun k hk => Below.heap_setCell _ _ _ _ hk
    have hz6 : (w6.setCell ⟨pb + 1, 7, none⟩ (.slice A4 nl nl)).heap.size = w6.heap.size := by simp [World.setCell]
    have ho6 := (Below.refl 0 w6).setCell (p := ⟨pb + 1, 7, none⟩) (Nat.zero_le _) (.slice A4 nl nl)
    obtain ⟨w7, hw7⟩ : ∃ y, w6.setCell ⟨pb + 1, 7, none⟩ (.slice A4 nl nl) = y := ⟨_, rfl⟩
    rw [hw7] at hr7 hst6 hz6 ho6 ⊢
    have HZ6 := Lib.hid hz6; have HST6 := Lib.hid hst6; have HO6 := Lib.hid ho6
    clear hw7 hr6 y0 f0 hz6 hst6 ho6
    obtain ⟨j134, hj134, hjz134, hjs134, hjy134⟩ := info_parts info134
    have hmk134 := run_mk (P := Tryz.prog) 107 134 j134 _ 5 Tryz.underlying107 hj134 hjz134 hjs134 (sn : Int) (sn : Int) sn sn rfl rfl (by omega) (by rw [hjy134]; omega) (by omega) w7
    have hra := hr7.alloc (.cells (madeCells #[.slice none 0 0, .slice none 0 0, .slice none 0 0, .slice none 0 0, .slice none 0 0] (sn * 5)) 134)
    have y0 := hra.cell 10; have f0 := hra.frozen 10
    have hsb7 : pb + 1 < w7.heap.size := hr7.lt
    go_upto_region 8 with (fail)
    obtain ⟨cb, hcb⟩ : ∃ p, w7.heap.size = p := ⟨_, rfl⟩
    have hws : (w7.setCell ⟨pb + 1, 10, none⟩ (.slice (some ⟨cb, 0, none⟩) sn sn)).heap.size = cb := by rw [← hcb]; simp [World.setCell]
    have qcb := Rf.madeg (w7.setCell ⟨pb + 1, 10, none⟩ (.slice (some ⟨cb, 0, none⟩) sn sn)) #[.slice none 0 0, .slice none 0 0, .slice none 0 0, .slice none 0 0, .slice none 0 0] (sn * 5) 134
    rw [hws] at qcb
    have hr8 := (hr7.set 10 (.slice (some ⟨cb, 0, none⟩) sn sn)).alloc (.cells (madeCells #[.slice none 0 0, .slice none 0 0, .slice none 0 0, .slice none 0 0, .slice none 0 0] (sn * 5)) 134)
    have hstcb : ∀ k, k < cb → k ≠ pb + 1 → ((w7.setCell ⟨pb + 1, 10, none⟩ (.slice (some ⟨cb, 0, none⟩) sn sn)).alloc (.cells (madeCells #[.slice none 0 0, .slice none 0 0, .slice none 0 0, .slice none 0 0, .slice none 0 0] (sn * 5)) 134)).heap[k]? = w7.heap[k]? := fun k hk hk2 => (Below.heap_alloc _ _ _ (by rw [hws]; exact hk)).trans (Below.heap_setCell _ _ _ _ hk2)
    have hzcb : ((w7.setCell ⟨pb + 1, 10, none⟩ (.slice (some ⟨cb, 0, none⟩) sn sn)).alloc (.cells (madeCells #[.slice none 0 0, .slice none 0 0, .slice none 0 0, .slice none 0 0, .slice none 0 0] (sn * 5)) 134)).heap.size = cb + 1 := by rw [World.size_alloc, hws]
    have hocb := ((Below.refl 0 w7).setCell (p := ⟨pb + 1, 10, none⟩) (Nat.zero_le _) (.slice (some ⟨cb, 0, none⟩) sn sn)).alloc (Nat.zero_le _) (.cells (madeCells #[.slice none 0 0, .slice none 0 0, .slice none 0 0, .slice none 0 0, .slice none 0 0] (sn * 5)) 134)
    rw [hcb]
    clear y0 f0 hmk134 hsb7 hra
    obtain ⟨w8, hw8⟩ : ∃ y, ((w7.setCell ⟨pb + 1, 10, none⟩ (.slice (some ⟨cb, 0, none⟩) sn sn)).alloc (.cells (madeCells #[.slice none 0 0, .slice none 0 0, .slice none 0 0, .slice none 0 0, .slice none 0 0] (sn * 5)) 134)) = y := ⟨_, rfl⟩
    rw [hw8] at hr8 qcb hstcb hzcb hocb ⊢
    have HZcb := Lib.hid hzcb; have HSTcb := Lib.hid hstcb; have HOcb := Lib.hid hocb; have HQcb := Lib.hid qcb; have HNcb := Lib.hid hcb
    clear hw8 hzcb hstcb hocb qcb hcb hws hr7
    obtain ⟨j136, hj136, hjz136, hjs136, hjy136⟩ := info_parts info136
    have hmk136 := run_mk (P := Tryz.prog) 108 136 j136 _ 3 Tryz.underlying108 hj136 hjz136 hjs136 (sn : Int) (sn : Int) sn sn rfl rfl (by omega) (by rw [hjy136]; omega) (by omega) w8
    have hra := hr8.alloc (.cells (madeCells #[.slice none 0 0, .slice none 0 0, .int .i64 0] (sn * 3)) 136)
    have y0 := hra.cell 11; have f0 := hra.frozen 11
    have hsb7 : pb + 1 < w8.heap.size := hr8.lt
    go_upto_region 9 with (fail)
    obtain ⟨vb, hvb⟩ : ∃ p, w8.heap.size = p := ⟨_, rfl⟩
    have hws : (w8.setCell ⟨pb + 1, 11, none⟩ (.slice (some ⟨vb, 0, none⟩) sn sn)).heap.size = vb := by rw [← hvb]; simp [World.setCell]
    have qvb := Rf.madeg (w8.setCell ⟨pb + 1, 11, none⟩ (.slice (some ⟨vb, 0, none⟩) sn sn)) #[.slice none 0 0, .slice none 0 0, .int .i64 0] (sn * 3) 136
    rw [hws] at qvb
    have hr9 := (hr8.set 11 (.slice (some ⟨vb, 0, none⟩) sn sn)).alloc (.cells (madeCells #[.slice none 0 0, .slice none 0 0, .int .i64 0] (sn * 3)) 136)
    have hstvb : ∀ k, k < vb → k ≠ pb + 1 → ((w8.setCell ⟨pb + 1, 11, none⟩ (.slice (some ⟨vb, 0, none⟩) sn sn)).alloc (.cells (madeCells #[.slice none 0 0, .slice none 0 0, .int .i64 0] (sn * 3)) 136)).heap[k]? = w8.heap[k]? := fun k hk hk2 => (Below.heap_alloc _ _ _ (by rw [hws]; exact hk)).trans (Below.heap_setCell _ _ _ _ hk2)
    have hzvb : ((w8.setCell ⟨pb + 1, 11, none⟩ (.slice (some ⟨vb, 0, none⟩) sn sn)).alloc (.cells (madeCells #[.slice none 0 0, .slice none 0 0, .int .i64 0] (sn * 3)) 136)).heap.size = vb + 1 := by rw [World.size_alloc, hws]
    have hovb := ((Below.refl 0 w8).setCell (p := ⟨pb + 1, 11, none⟩) (Nat.zero_le _) (.slice (some ⟨vb, 0, none⟩) sn sn)).alloc (Nat.zero_le _) (.cells (madeCells #[.slice none 0 0, .slice none 0 0, .int .i64 0] (sn * 3)) 136)
    rw [hvb]
    clear y0 f0 hmk136 hsb7 hra
    obtain ⟨w9, hw9⟩ : ∃ y, ((w8.setCell ⟨pb + 1, 11, none⟩ (.slice (some ⟨vb, 0, none⟩) sn sn)).alloc (.cells (madeCells #[.slice none 0 0, .slice none 0 0, .int .i64 0] (sn * 3)) 136)) = y := ⟨_, rfl⟩
    rw [hw9] at hr9 qvb hstvb hzvb hovb ⊢
    have HZvb := Lib.hid hzvb; have HSTvb := Lib.hid hstvb; have HOvb := Lib.hid hovb; have HQvb := Lib.hid qvb; have HNvb := Lib.hid hvb
    clear hw9 hzvb hstvb hovb qvb hvb hws hr8
    have hmk4 := run_mk (P := Tryz.prog) 26 4 i4 _ 1 Tryz.underlying26 hi4 hz4 hs4 (sn : Int) (sn : Int) sn sn rfl rfl (by omega) (by rw [hy4]; omega) (by omega) w9
    have hra := hr9.alloc (.cells (madeCells #[.bool false] (sn)) 4)
    have y0 := hra.cell 12; have f0 := hra.frozen 12
    have hsb7 : pb + 1 < w9.heap.size := hr9.lt
    go_upto_region 10 with (fail)
    obtain ⟨kb, hkb⟩ : ∃ p, w9.heap.size = p := ⟨_, rfl⟩
    have hws : (w9.setCell ⟨pb + 1, 12, none⟩ (.slice (some ⟨kb, 0, none⟩) sn sn)).heap.size = kb := by rw [← hkb]; simp [World.setCell]
    have qkb := Rf.madeg (w9.setCell ⟨pb + 1, 12, none⟩ (.slice (some ⟨kb, 0, none⟩) sn sn)) #[.bool false] (sn) 4
    rw [hws] at qkb
    have hr10 := (hr9.set 12 (.slice (some ⟨kb, 0, none⟩) sn sn)).alloc (.cells (madeCells #[.bool false] (sn)) 4)
    have hstkb : ∀ k, k < kb → k ≠ pb + 1 → ((w9.setCell ⟨pb + 1, 12, none⟩ (.slice (some ⟨kb, 0, none⟩) sn sn)).alloc (.cells (madeCells #[.bool false] (sn)) 4)).heap[k]? = w9.heap[k]? := fun k hk hk2 => (Below.heap_alloc _ _ _ (by rw [hws]; exact hk)).trans (Below.heap_setCell _ _ _ _ hk2)
    have hzkb : ((w9.setCell ⟨pb + 1, 12, none⟩ (.slice (some ⟨kb, 0, none⟩) sn sn)).alloc (.cells (madeCells #[.bool false] (sn)) 4)).heap.size = kb + 1 := by rw [World.size_alloc, hws]
    have hokb := ((Below.refl 0 w9).setCell (p := ⟨pb + 1, 12, none⟩) (Nat.zero_le _) (.slice (some ⟨kb, 0, none⟩) sn sn)).alloc (Nat.zero_le _) (.cells (madeCells #[.bool false] (sn)) 4)
    rw [hkb]
    clear y0 f0 hmk4 hsb7 hra
    obtain ⟨w10, hw10⟩ : ∃ y, ((w9.setCell ⟨pb + 1, 12, none⟩ (.slice (some ⟨kb, 0, none⟩) sn sn)).alloc (.cells (madeCells #[.bool false] (sn)) 4)) = y := ⟨_, rfl⟩
    rw [hw10] at hr10 qkb hstkb hzkb hokb ⊢
    have HZkb := Lib.hid hzkb; have HSTkb := Lib.hid hstkb; have HOkb := Lib.hid hokb; have HQkb := Lib.hid qkb; have HNkb := Lib.hid hkb
    clear hw10 hzkb hstkb hokb qkb hkb hws hr9
    have HR10 := Lib.hid (show Rw w10 (pb + 1) 110 #[.int .i64 (z.N : Int), .slice Aw nw cw, .slice Af nf cf, .int .i64 z.g.least, .slice A2 nf c2, .slice A3 nw c3, .slice Al nl cl, .slice A4 nl nl, .slice sA sn sc, .slice (some ⟨pb, 0, none⟩) z.N z.N, .slice (some ⟨cb, 0, none⟩) sn sn, .slice (some ⟨vb, 0, none⟩) sn sn, .slice (some ⟨kb, 0, none⟩) sn sn] from hr10)
    have hnum : w4.heap.size = pb + 2 ∧ w4.heap.size ≤ wc0.heap.size ∧ wc0.heap.size ≤ wc1.heap.size ∧ w5.heap.size = wc1.heap.size ∧ w5.heap.size ≤ w6.heap.size ∧ w7.heap.size = w6.heap.size ∧ w7.heap.size = cb ∧ w8.heap.size = cb + 1 ∧ w8.heap.size = vb ∧ w9.heap.size = vb + 1 ∧ w9.heap.size = kb ∧ w10.heap.size = kb + 1 ∧ w.heap.size + 1 < pb ∧ w3.heap.size = pb :=
      ⟨HS4.out, HZ0.out, HBN.out.size, HZ5.out, HB6.out.size, HZ6.out, HNcb.out, HZcb.out, HNvb.out, HZvb.out, HNkb.out, HZkb.out, HLT.out, HPB.out⟩
    have hB10 : StB w10 B (pb + 1) (⟨z.N, ⟨Aw, nw, cw⟩, ⟨Af, nf, cf⟩, z.g.least, ⟨A2, nf, c2⟩, ⟨A3, nw, c3⟩, ⟨Al, nl, cl⟩, ⟨A4, nl, nl⟩, ⟨sA, sn, sc⟩, ⟨some ⟨pb, 0, none⟩, z.N, z.N⟩, cb, vb, kb, sn⟩ : SL) (fun _ => ⟨n0, n0, n0, n0, n0⟩) (fun _ => ⟨n0, n0, 0⟩) (fun _ => false) z fon (List.replicate z.ls.length true) xs := by
      obtain ⟨m1, m2, m3, m4, m5, m6, m7, m8, m9, m10, m11, m12, m13, m14⟩ := hnum
      have g10 : Gr (pb + 1) w9 w10 := Gr.mk' HOkb.out (fun k hk hn => HSTkb.out k (by omega) hn)
      have g9 : Gr (pb + 1) w8 w10 := (Gr.mk' HOvb.out (fun k hk hn => HSTvb.out k (by omega) hn)).trans g10
      have g8 : Gr (pb + 1) w7 w10 := (Gr.mk' HOcb.out (fun k hk hn => HSTcb.out k (by omega) hn)).trans g9
      have g7 : Gr (pb + 1) w6 w10 := (Gr.mk' HO6.out (fun k _ hk => HST6.out k hk)).trans g8
      have g6 : Gr (pb + 1) w5 w10 := (Gr.of_below HB6.out (Nat.le_refl _) _).trans g7
      have gc1 : Gr (pb + 1) wc1 w10 := (Gr.mk' HO5.out (fun k _ hk => HST5.out k hk)).trans g6
      have gc0 : Gr (pb + 1) wc0 w10 := (Gr.of_below HBN.out (Nat.le_refl _) _).trans gc1
      have g4 : Gr (pb + 1) w4 w10 := (Gr.of_below HBC.out (Nat.le_refl _) _).trans gc1
      have g3 : Gr (pb + 1) w3 w10 := (Gr.of_below HB4.out (Nat.le_refl _) _).trans g4
      have hB : Below w.heap.size w w10 := HBW3.out.trans ⟨g3.os, g3.tape, g3.output, g3.size, fun k hk => g3.blk (by have := HBW3.out.size; omega) (by omega)⟩
      have hF := gc0.own (HOF.out.lower (base' := B) (by omega)) (fun k hk => by have := HOF.out.lt k hk; omega)
      have hW := gc1.own (HOW.out.lower (base' := B) (by omega)) (fun k hk => by have := HOW.out.lt k hk; omega)
      have hR := g7.own (HOR.out.lower (base' := B) (by omega)) (fun k hk => by have := HOR.out.lt k hk; omega)
      have hX := g3.own (HOX.out.lower (base' := B) (Nat.le_trans hbB HB1.out.size)) (fun k hk => by have := HOX.out.lt k hk; omega)
      refine ⟨Nat.le_trans hbB hB.size, ⟨?_, ?_, ?_, ?_, ?_, ?_⟩, ⟨HR10.out, ?_, ?_, ?_⟩, ⟨?_, ?_, ?_, ?_⟩, rfl, HSN.out, rfl, HG.out.below (hB.mono hbB), HL.out.below (hB.mono hbB), HLL.out, hF, ?_, ?_, by simp, hW, hX, fun y hy => ?_, HXM.out, fun k hk => ?_, fun k hk => ?_, fun k hk => ?_⟩
      · show cb ≠ pb + 1; omega
      · show vb ≠ pb + 1; omega
      · show kb ≠ pb + 1; omega
      · show cb ≠ vb; omega
      · show cb ≠ kb; omega
      · show vb ≠ kb; omega
      · exact (g9.rf HQcb.out (by omega)).congr (fun k _ => five_nil k)
      · exact (g10.rf HQvb.out (by omega)).congr (fun k _ => three_nil k)
      · exact HQkb.out.congr (fun k _ => one_nil k)
      · omega
      · show B ≤ cb; omega
      · show B ≤ vb; omega
      · show B ≤ kb; omega
      · rw [HFO.out]; exact HG.out.fl.symm
      · rw [HLL.out]; exact hR
      · have := HXI.out y hy
        refine ⟨g3.own (this.o1.lower (Nat.le_trans hbB HB1.out.size)) (fun k hk => ?_), g3.own (this.o2.lower (Nat.le_trans hbB HB1.out.size)) (fun k hk => ?_), g3.own (this.o3.lower (Nat.le_trans hbB HB1.out.size)) (fun k hk => ?_)⟩
        · have := this.o1.lt k hk; omega
        · have := this.o2.lt k hk; omega
        · have := this.o3.lt k hk; omega
      · have h1 := HOF.out.lt k hk
        refine ⟨by show k ≠ kb; omega, fun e => ?_, fun e => ?_⟩
        · have := HOR.out.lt k e; omega
        · have := HOW.out.lt k e; omega
      · have h1 := HOR.out.lt k hk
        refine ⟨by show k ≠ kb; omega, fun e => ?_⟩
        have := HOW.out.lt k e; omega
      · have h1 := HOW.out.lt k hk
        show k ≠ kb; omega
    have hpf : PfI z pb 0 0 w10 := ⟨fun _ => 0, by
      obtain ⟨m1, m2, m3, m4, m5, m6, m7, m8, m9, m10, m11, m12, m13, m14⟩ := hnum
      have g10 : Gr (pb + 1) w9 w10 := Gr.mk' HOkb.out (fun k hk hn => HSTkb.out k (by omega) hn)
      have g9 : Gr (pb + 1) w8 w10 := (Gr.mk' HOvb.out (fun k hk hn => HSTvb.out k (by omega) hn)).trans g10
      have g8 : Gr (pb + 1) w7 w10 := (Gr.mk' HOcb.out (fun k hk hn => HSTcb.out k (by omega) hn)).trans g9
      have g7 : Gr (pb + 1) w6 w10 := (Gr.mk' HO6.out (fun k _ hk => HST6.out k hk)).trans g8
      have g6 : Gr (pb + 1) w5 w10 := (Gr.of_below HB6.out (Nat.le_refl _) _).trans g7
      have gc1 : Gr (pb + 1) wc1 w10 := (Gr.mk' HO5.out (fun k _ hk => HST5.out k hk)).trans g6
      exact ((Gr.of_below HBC.out (Nat.le_refl _) _).trans gc1).rf HQP.out (by omega), fun c _ h => absurd h (Nat.not_lt_zero _), fun j h => absurd h (Nat.not_lt_zero _)⟩
    have hxlt : ∀ y ∈ xs, PmLt y pb := fun y hy k hk => by
      have h1 := HXI.out y hy
      have h2 := hnum.2.2.2.2.2.2.2.2.2.2.2.2.2
      rcases hk with e | e | e
      · have := h1.o1.lt k e; omega
      · have := h1.o2.lt k e; omega
      · have := h1.o3.lt k e; omega
    have hnb : w.heap.size ≤ cb ∧ w.heap.size ≤ vb ∧ w.heap.size ≤ kb ∧ w.heap.size ≤ pb := by omega
    have HNB := Lib.hid hnb
    clear hnb
    have hpbw : B ≤ pb := by have := HLT.out; omega
    have hbw10 : Below w.heap.size w w10 := by
      obtain ⟨m1, m2, m3, m4, m5, m6, m7, m8, m9, m10, m11, m12, m13, m14⟩ := hnum
      have g10 : Gr (pb + 1) w9 w10 := Gr.mk' HOkb.out (fun k hk hn => HSTkb.out k (by omega) hn)
      have g9 : Gr (pb + 1) w8 w10 := (Gr.mk' HOvb.out (fun k hk hn => HSTvb.out k (by omega) hn)).trans g10
      have g8 : Gr (pb + 1) w7 w10 := (Gr.mk' HOcb.out (fun k hk hn => HSTcb.out k (by omega) hn)).trans g9
      have g7 : Gr (pb + 1) w6 w10 := (Gr.mk' HO6.out (fun k _ hk => HST6.out k hk)).trans g8
      have g6 : Gr (pb + 1) w5 w10 := (Gr.of_below HB6.out (Nat.le_refl _) _).trans g7
      have gc1 : Gr (pb + 1) wc1 w10 := (Gr.mk' HO5.out (fun k _ hk => HST5.out k hk)).trans g6
      have g4 := (Gr.of_below HBC.out (Nat.le_refl _) (pb + 1)).trans gc1
      exact HBW4.out.trans ⟨g4.os, g4.tape, g4.output, g4.size, fun k hk => g4.blk (by omega) (by omega)⟩
    clear HQ HPO HQ3 HRS HRP HT HZcb HSTcb HOcb HQcb HNcb HZvb HSTvb HOvb HQvb HNvb HZkb HSTkb HOkb HQkb HNkb HZ6 HST6 HO6 HOR HB6 HR6 HST5 HZ5 HO5 HBC HBN HOW HOF HZ0 HB4 HQP HQS hr10 HOX HXI hnum HBW4 HBW3 HS4 HPB HLT hsb5 hW1
    have HB10 := Lib.hid hB10; have HXLT := Lib.hid hxlt; have HPBW := Lib.hid hpbw; have HBW10 := Lib.hid hbw10; have HPF0 := Lib.hid hpf
    clear hB10 hxlt hpbw hbw10 hpf
    go_wp2
    go_loopw [70] (fun s70 wr => ∃ i : Nat, i ≤ sn ∧ s70 = .int .i64 (i : Int) ∧ PfI z pb i 0 wr ∧ Gr pb w10 wr) (fun s70 _ => sn - (intOf s70).toNat)
    case atStart => exact ⟨0, Nat.zero_le _, rfl, HPF0.out, Gr.refl _ _⟩
    case round =>
      obtain ⟨i, hi, rfl, hpf, hg⟩ := hrel
      have hz6' : ∃ cs, w10.heap[pb]? = some (Obj.cells cs 3 (0, 0)) := by obtain ⟨PF, h1, _⟩ := HPF0.out; exact ⟨_, h1⟩
      obtain ⟨cs3, hcs3⟩ := hz6'
      have hB := HB10.out.gr hg HPBW.out hcs3 HXLT.out
      have hbr : Below w.heap.size w wr := HBW10.out.trans ⟨hg.os, hg.tape, hg.output, hg.size, fun k hk => hg.blk (by have := HBW10.out.size; omega) (by have := HNB.out; omega)⟩
      have HG2 := Lib.hid hg; have HBr := Lib.hid hB; have HBR := Lib.hid hbr
      by_cases hin : i < sn
      · have hii : (i : Int) < (sn : Int) := by omega
        have hi0 : (0 : Int) ≤ (i : Int) := by omega
        have hab : (i : Int) + 1 ≤ 1000 := by omega
        have hiz : i < z.np := by rw [← HSN.out]; exact hin
        have hxl : xs.length = sn := (own_sl fPm_len hB.X).2.symm
        have hix : i < xs.length := by omega
        obtain ⟨y, hy⟩ : ∃ y, xs[i] = y := ⟨_, rfl⟩
        have hym : y ∈ xs := by rw [← hy]; exact List.getElem_mem hix
        have hyp : y.p = z.pv i := by
          have hp : i < z.ps.length := by rw [Zs.ps_len]; exact hiz
          have e : (xs.map (·.p))[i]? = (z.ps.map (partV z.g z.sw))[i]? := by rw [show xs.map (·.p) = _ from hB.xp]
          rw [List.getElem?_map, List.getElem?_map, List.getElem?_eq_getElem hix, List.getElem?_eq_getElem hp] at e
          injection e with e
          rw [← hy, show xs[i].p = _ from e]; unfold Zs.pv Zs.nd; rw [List.getElem?_eq_getElem hp]; rfl
        obtain ⟨l1, l2, l3, a1, a2, a3⟩ := (hB.xi y hym).lens
        rw [hyp] at l1 a1
        obtain ⟨b, off, cs, e, hbb, rfl, hc⟩ := (own_sl fPm_len hB.X).1.at_ hix
        simp only at e
        subst e
        have c0 := hc 0 _ rfl; have c1 := hc 1 _ rfl; have c2 := hc 2 _ rfl
        rw [hy] at c0 c1 c2
        obtain ⟨⟨nA, nn, nc⟩, s2, s3, yp⟩ := y
        unfold Sc.v at c0 c1 c2
        simp only at c0 c1 c2 l1 a1 hyp
        rw [Nat.add_zero] at c0
        have hnl1 : nn = (z.nd i).length := l1
        have hn10 := (HOK.out.nd_len hiz).2
        have HNN := Lib.hid hnl1
        have hnn : nn ≤ 1000 := by omega
        have HIN := Lib.hid hin; have HIZ := Lib.hid hiz
        have ha := (Below.refl wr.heap.size wr).alloc (Nat.le_refl _) (.cells #[.slice nA nn nc, .slice s2.A s2.n s2.c, .slice s3.A s3.n s3.c] 132)
        have qa := Rw.new wr #[.slice nA nn nc, .slice s2.A s2.n s2.c, .slice s3.A s3.n s3.c] 132
        have hga : Gr pb w10 (wr.alloc (.cells #[.slice nA nn nc, .slice s2.A s2.n s2.c, .slice s3.A s3.n s3.c] 132)) := hg.trans (Gr.of_below ha (Nat.le_refl _) _)
        have hpfa : PfI z pb i 0 (wr.alloc (.cells #[.slice nA nn nc, .slice s2.A s2.n s2.c, .slice s3.A s3.n s3.c] 132)) := by
          obtain ⟨PF, h1, h2⟩ := hpf
          exact ⟨PF, h1.alloc _, h2⟩
        obtain ⟨Wa, hWa⟩ : ∃ y, wr.alloc (.cells #[.slice nA nn nc, .slice s2.A s2.n s2.c, .slice s3.A s3.n s3.c] 132) = y := ⟨_, rfl⟩
        rw [hWa] at ha qa hga hpfa
        have qac := qa.cell
        have HGA := Lib.hid hga; have HPFA := Lib.hid hpfa
        have HNS := Lib.hid (show Sl wr wr.heap.size 1 CI nA (nI (z.nd i)) from a1)
        have HA := Lib.hid ha
        have HSZW := Lib.hid (show ∃ s, s = wr.heap.size from ⟨_, rfl⟩)
        obtain ⟨sz, hsz⟩ : ∃ s, wr.heap.size = s := ⟨_, rfl⟩
        have HNS2 := Lib.hid (show Sl Wa sz 1 CI nA (nI (z.nd i)) from by rw [← hsz]; exact HNS.out.below ha)
        have HSZ2 := Lib.hid (show sz ≤ Wa.heap.size from by rw [← hsz]; exact ha.size)
        have HYM := Lib.hid hym; have HYP := Lib.hid hyp
        clear hsz HNS HSZW ha hga hpfa hcs3 a1 a2 a3 l1 l2 l3 hyp hym hy hix hxl hB hbr hpf hg hc hbb hnl1 hin hiz hi
        go_wp2
        clear c0 c1 c2 hWa qa qac
        go_loopw [78] (fun s78 wr => ∃ j : Nat, j ≤ nn ∧ s78 = .int .i64 (j : Int) ∧ PfI z pb i j wr ∧ Gr pb Wa wr) (fun s78 _ => nn - (intOf s78).toNat)
        case atStart => exact ⟨0, Nat.zero_le _, rfl, HPFA.out, Gr.refl _ _⟩
        case round =>
          obtain ⟨j, hj, rfl, hpf, hg⟩ := hrel
          have hgw := HGA.out.trans hg
          obtain ⟨csb, hcsb⟩ : ∃ cs, w10.heap[pb]? = some (Obj.cells cs 3 (0, 0)) := by obtain ⟨PF, h1, _⟩ := HPF0.out; exact ⟨_, h1⟩
          have hB := HB10.out.gr hgw HPBW.out hcsb HXLT.out
          have HGW := Lib.hid hgw
          obtain ⟨PF, hf1, hf2, hf3⟩ := hpf
          by_cases hjn : j < nn
          · have hji : (j : Int) < (nn : Int) := by omega
            have hj0 : (0 : Int) ≤ (j : Int) := by omega
            have hjb : (j : Int) + 1 ≤ 1000 := by omega
            have hjl : j < (z.nd i).length := by have := HNN.out; omega
            obtain ⟨c, hc⟩ : ∃ c, (z.nd i)[j] = c := ⟨_, rfl⟩
            have hcm : c ∈ z.nd i := by rw [← hc]; exact List.getElem_mem hjl
            have hcN := ((HOK.out.mem_nd HIZ.out c).1 hcm)
            obtain ⟨l1, l2, l3, a1, a2, a3⟩ := (hB.xi _ HYM.out).lens
            rw [HYP.out] at a1
            have a1' : Sl wr wr.heap.size 1 CI nA (nI (z.nd i)) := a1
            obtain ⟨b2, o2, e2, gb2, d0⟩ := int_at a1' (i := j) (by rw [nI_len]; exact hjl)
            subst e2
            rw [show (nI (z.nd i))[j]'(by rw [nI_len]; exact hjl) = (c : Int) from by unfold nI; rw [List.getElem_map, hc]] at d0
            have m := (show Rw wr (pb + 1) 110 #[.int .i64 (z.N : Int), .slice Aw nw cw, .slice Af nf cf, .int .i64 z.g.least, .slice A2 nf c2, .slice A3 nw c3, .slice Al nl cl, .slice A4 nl nl, .slice (some ⟨b, off, none⟩) sn sc, .slice (some ⟨pb, 0, none⟩) z.N z.N, .slice (some ⟨cb, 0, none⟩) sn sn, .slice (some ⟨vb, 0, none⟩) sn sn, .slice (some ⟨kb, 0, none⟩) sn sn] from hB.st.r).cell
            have k0 := hf1.cell hcN.1
            have f0 := hf1.frozen c
            have hc0 : (0 : Int) ≤ (c : Int) := by omega
            have hc1 : (c : Int) < (z.N : Int) := by omega
            have HJ := Lib.hid hjn
            have HNX := Lib.hid (show PfI z pb i (j + 1) (wr.setCell ⟨pb, c, none⟩ (.int .i64 (i : Int))) from ⟨fun u => if u = c then (i : Int) else PF u, (hf1.set c (.int .i64 (i : Int))).congr (fun u _ => by by_cases e : u = c <;> simp [e]),
              fun u hu hlt => by
                have : u ≠ c := fun e => by subst e; omega
                simp only [if_neg this]; exact hf2 u hu hlt,
              fun j' hj' u hu => by
                by_cases e : u = c
                · subst e; simp only [if_pos]; rw [hcN.2]
                · simp only [if_neg e]
                  have : j' ≠ j := fun e2 => by subst e2; rw [List.getElem?_eq_getElem hjl, hc] at hu; injection hu with hu; exact e hu.symm
                  exact hf3 j' (by omega) u hu⟩)
            have HGN := Lib.hid (hg.set (p := ⟨pb, c, none⟩) (.int .i64 (i : Int)) (.inl rfl))
            clear hf1 hf2 hf3 hB hg hgw l1 l2 l3 a1 a1' a2 a3 hcm hc hjl hcN hcsb
            go_wp2
            go_roundw
            case rel => exact ⟨j + 1, by have := HJ.out; omega, by simp, HNX.out, HGN.out⟩
            case measure => exact round_less HJ.out
          · have hji : ¬ (j : Int) < (nn : Int) := by omega
            have hjj : j = (z.nd i).length := by have := HNN.out; omega
            have HNX := Lib.hid (show PfI z pb (i + 1) 0 wr from ⟨PF, hf1, fun u hu hlt => by
              rcases Nat.lt_or_ge (z.pof u) i with q | q
              · exact hf2 u hu q
              · have hm := (HOK.out.mem_nd HIZ.out u).2 ⟨hu, by omega⟩
                obtain ⟨j', hj', e⟩ := List.getElem_of_mem hm
                exact hf3 j' (by omega) u (by rw [List.getElem?_eq_getElem hj', e]), fun j' h => absurd h (Nat.not_lt_zero _)⟩)
            clear hf1 hf2 hf3 hB hg hgw hjj hcsb
            go_wp2
            refine ⟨⟨i + 1, by have := HIN.out; omega, by simp, HNX.out, HGW.out⟩, ?_⟩
            exact round_less HIN.out
      · have hii : ¬ (i : Int) < (sn : Int) := by omega
        have hA : StA wr B (pb + 1) (⟨z.N, ⟨Aw, nw, cw⟩, ⟨Af, nf, cf⟩, z.g.least, ⟨A2, nf, c2⟩, ⟨A3, nw, c3⟩, ⟨Al, nl, cl⟩, ⟨A4, nl, nl⟩, ⟨sA, sn, sc⟩, ⟨some ⟨pb, 0, none⟩, z.N, z.N⟩, cb, vb, kb, sn⟩ : SL) (fun _ => ⟨n0, n0, n0, n0, n0⟩) (fun _ => ⟨n0, n0, 0⟩) (fun _ => false) z fon (List.replicate z.ls.length true) xs (fun j => j < 0) := by
          obtain ⟨PF, h1, h2, h3⟩ := hpf
          refine hB.toA rfl HPBW.out (h1.congr (fun c hc => ?_))
          rw [h2 c hc (by have := HOK.out.pof_lt hc; have := HSN.out; omega)]
        have HA0 := Lib.hid hA
        clear hA hB hbr hpf hg hcs3
        go_wp2
        go_loopw [93] (fun s93 wr => ∃ (k : Nat) (C : Nat → Ci) (V : Nat → Vi) (K : Nat → Bool), k ≤ sn ∧ s93 = .int .i64 (k : Int) ∧ StA wr B (pb + 1) (⟨z.N, ⟨Aw, nw, cw⟩, ⟨Af, nf, cf⟩, z.g.least, ⟨A2, nf, c2⟩, ⟨A3, nw, c3⟩, ⟨Al, nl, cl⟩, ⟨A4, nl, nl⟩, ⟨sA, sn, sc⟩, ⟨some ⟨pb, 0, none⟩, z.N, z.N⟩, cb, vb, kb, sn⟩ : SL) C V K z fon (List.replicate z.ls.length true) xs (fun j => j < k) ∧ Below w.heap.size w wr) (fun s93 _ => sn - (intOf s93).toNat)
        case atStart => exact ⟨0, _, _, _, Nat.zero_le _, rfl, HA0.out, HBR.out⟩
        case round =>
          obtain ⟨k, C, V, Km, hk, rfl, hA, hbr⟩ := hrel
          by_cases hkn : k < sn
          · have hki : (k : Int) < (sn : Int) := by omega
            have hk0 : (0 : Int) ≤ (k : Int) := by omega
            have hkb : (k : Int) + 1 ≤ 1000 := by omega
            have HKN := Lib.hid hkn; have HBK := Lib.hid hbr; have HAK := Lib.hid hA
            have HSV := Lib.hid (ssolve_any B (pb + 1) k (⟨z.N, ⟨Aw, nw, cw⟩, ⟨Af, nf, cf⟩, z.g.least, ⟨A2, nf, c2⟩, ⟨A3, nw, c3⟩, ⟨Al, nl, cl⟩, ⟨A4, nl, nl⟩, ⟨sA, sn, sc⟩, ⟨some ⟨pb, 0, none⟩, z.N, z.N⟩, cb, vb, kb, sn⟩ : SL) C V Km z fon (List.replicate z.ls.length true) xs _ wr hA HOK.out (by rw [← HSN.out]; exact hkn))
            clear hA hbr hkn hk
            go_wp2_with fail
            (with_reducible refine (HSV.out).mono ?_)
            rintro e w2 ⟨rfl, C', V', K', hA2, h3⟩
            have HAN := Lib.hid (hA2.weak (dn' := fun j => j < k + 1) (fun j hj => by show j < k ∨ j = k; omega))
            have HBN2 := Lib.hid (HBK.out.trans (h3.toBelow HBK.out.size HNB.out.1 HNB.out.2.1 HNB.out.2.2.1))
            clear hA2 h3
            go_wp2
            refine ⟨⟨k + 1, C', V', K', by have := HKN.out; omega, by simp, HAN.out, HBN2.out⟩, ?_⟩
            exact round_less HKN.out
          · have hki : ¬ (k : Int) < (sn : Int) := by omega
            have hkk : k = z.np := by have := HSN.out; omega
            subst hkk
            have HAE := Lib.hid hA; have HBE := Lib.hid hbr
            clear hA hbr hkn hk
            go_wp2
            go_ret2
            exact .inr ⟨HBB.out, pb + 1, _, C, V, Km, xs, rfl, HAE.out, HBE.out⟩
end Go.Proofs.YtbnfnpakibkboaaGreat

namespace Go.Proofs.YtbnfnpakibkboaaGreat
set_option linter.unusedVariables false
set_option linter.unusedSimpArgs false
open Go.RowKit

def okB (g : Gv) (s : Sv) (ls : List Lv) : Bool := gridB g && (stateB g s && loadsB g.nodes.toNat ls)
def zOf (g : Gv) (s : Sv) (ls : List Lv) : Zs := ⟨g.nodes.toNat, g, s.wires, ls⟩
theorem gridB_at {g : Gv} (h : gridB g = true) : 1 ≤ g.nodes ∧ g.nodes ≤ 40 ∧ g.nodes = (g.nodes.toNat : Int) ∧ 0 ≤ g.least ∧ g.least ≤ 1000 ∧ wiresB g.nodes.toNat g.wires = true ∧ feedsB g.nodes.toNat g.feeds = true := by
  unfold gridB inB at h
  simp only [Bool.and_eq_true, decide_eq_true_eq] at h
  exact ⟨h.1.1, h.1.2, by omega, h.2.1.1, h.2.1.2, h.2.2.1, h.2.2.2⟩
theorem stateB_at {g : Gv} {s : Sv} (h : stateB g s = true) : s.feeds.length = g.feeds.length ∧ s.wires.length = g.wires.length := by
  unfold stateB at h
  simp only [Bool.and_eq_true, decide_eq_true_eq] at h
  exact ⟨h.1, h.2.1⟩
theorem okB_at {g : Gv} {s : Sv} {ls : List Lv} (h : okB g s ls = true) : gridB g = true ∧ stateB g s = true ∧ loadsB g.nodes.toNat ls = true := by
  unfold okB at h
  simp only [Bool.and_eq_true] at h
  exact h
theorem okB_pre {g : Gv} {s : Sv} {ls : List Lv} (h : okB g s ls = true) : (zOf g s ls).Pre := by
  obtain ⟨h1, h2, h3⟩ := okB_at h
  obtain ⟨a1, a2, a3, a4, a5, a6, a7⟩ := gridB_at h1
  exact ⟨a3, by show 1 ≤ g.nodes.toNat; omega, by show g.nodes.toNat ≤ 40; omega, a4, a5, a6, a7, (stateB_at h2).2, h3⟩
/-- what a grid that is opened answers -/
def OpPost (g : Gv) (s : Sv) (ls : List Lv) (w : World) (e : Ending) (w' : World) : Prop :=
  Below w.heap.size w w' ∧ ((okB g s ls = false ∧ e = .returned (.tuple #[.pointer none, .int .i64 2])) ∨ (okB g s ls = true ∧ smallP (zOf g s ls).ps = false ∧ e = .returned (.tuple #[.pointer none, .int .i64 3])) ∨
    (okB g s ls = true ∧ smallP (zOf g s ls).ps = true ∧ ∃ (sb : Nat) (x : SL) (C : Nat → Ci) (V : Nat → Vi) (K : Nat → Bool) (xs : List Pm), e = .returned (.tuple #[.pointer (some ⟨sb, 0, none⟩), .int .i64 0]) ∧ StA w' w.heap.size sb x C V K (zOf g s ls) s.feeds (List.replicate ls.length true) xs (fun j => j < (zOf g s ls).np)))
set_option maxRecDepth 100000 in
set_option maxHeartbeats 8000000 in
theorem open_any (Aw Af As At Al : Option Addr) (nw nf ns nt nl cw cf cs ct cl : Nat) (g : Gv) (s : Sv) (ls : List Lv) (w : World) (hG : GAt w w.heap.size Aw nw Af nf g) (hS : SAt w w.heap.size As ns At nt s) (hll : ls.length = nl) (hlm : nl ≤ 100000) (hL : Sl w w.heap.size 3 CL Al ls) :
    Calls Tryz.prog 51 #[.agg #[.int .i64 g.nodes, .slice Aw nw cw, .slice Af nf cf, .int .i64 g.least], .agg #[.slice As ns cs, .slice At nt ct], .slice Al nl cl] w fun e w' => OpPost g s ls w e w' := by
  have hb1 := ((Below.refl w.heap.size w).alloc (Nat.le_refl _) (.cells #[.int .i64 g.nodes, .slice Aw nw cw, .slice Af nf cf, .int .i64 g.least] 25)).alloc (by simp) (.cells #[.slice As ns cs, .slice At nt ct] 28)
  obtain ⟨q1, q2⟩ := rows2 w #[.int .i64 g.nodes, .slice Aw nw cw, .slice Af nf cf, .int .i64 g.least] #[.slice As ns cs, .slice At nt ct] 25 28
  have hz1 : ((w.alloc (.cells #[.int .i64 g.nodes, .slice Aw nw cw, .slice Af nf cf, .int .i64 g.least] 25)).alloc (.cells #[.slice As ns cs, .slice At nt ct] 28)).heap.size = w.heap.size + 2 := by simp
  have e0 := q1.cell; have e1 := q2.cell
  obtain ⟨W1, hW1⟩ : ∃ y, (w.alloc (.cells #[.int .i64 g.nodes, .slice Aw nw cw, .slice Af nf cf, .int .i64 g.least] 25)).alloc (.cells #[.slice As ns cs, .slice At nt ct] 28) = y := ⟨_, rfl⟩
  rw [hW1] at hb1 q1 q2 hz1 e0 e1
  have HA := Lib.hid (show ∀ wx, Below W1.heap.size W1 wx → Rw wx w.heap.size 25 #[.int .i64 g.nodes, .slice Aw nw cw, .slice Af nf cf, .int .i64 g.least] ∧ Rw wx (w.heap.size + 1) 28 #[.slice As ns cs, .slice At nt ct] ∧ GAt wx wx.heap.size Aw nw Af nf g ∧ SAt wx wx.heap.size As ns At nt s ∧ Sl wx wx.heap.size 3 CL Al ls ∧ GAt wx w.heap.size Aw nw Af nf g ∧ Sl wx w.heap.size 3 CL Al ls ∧ Below w.heap.size w wx from fun wx hb => by
    have hx := hb1.trans (hb.mono hb1.size)
    exact ⟨q1.below hb (by omega), q2.below hb (by omega), (hG.below hx).more hx.size, (hS.below hx).more hx.size, (hL.below hx).more (fun _ _ h => h) hx.size, hG.below hx, hL.below hx, hx⟩)
  have h1 := HA.out W1 (Below.refl _ _)
  have HG1 := Lib.hid (gridRight_any Aw Af nw nf cw cf g W1 h1.2.2.1)
  have HLL := Lib.hid hll; have HLM := Lib.hid hlm; have HFE := Lib.hid hS.fl; have HWE := Lib.hid hS.wl; have HGW := Lib.hid hG.wl; have HGF := Lib.hid hG.fl
  clear hb1 q1 q2 hz1 hG hS hL hll hlm h1
  obtain ⟨bg, hbg⟩ : ∃ b, gridB g = b := ⟨_, rfl⟩
  rw [hbg] at HG1
  have HBG := Lib.hid hbg
  clear hbg
  go_enter Tryz.func51, Tryz.ntmps51
  go_wp2_with fail
  (with_reducible refine (HG1.out).mono ?_)
  rintro e w2 ⟨rfl, hb2⟩
  clear e0 e1
  obtain ⟨q1, q2, hG2, hS2, hL2, hGB2, hLB2, hbw2⟩ := HA.out w2 hb2
  have e0 := q1.cell; have e1 := q2.cell
  have HB2 := Lib.hid hb2; have HBW2 := Lib.hid hbw2
  cases bg with
  | false =>
    clear hb2 q1 q2 hG2 hS2 hL2 hGB2 hLB2 hbw2
    go_wp2
    go_ret2
    exact ⟨HBW2.out, .inl ⟨by unfold okB; rw [HBG.out]; rfl, rfl⟩⟩
  | true =>
    obtain ⟨bs, hbs⟩ : ∃ b, stateB g s = b := ⟨_, rfl⟩
    have HS2 := Lib.hid (stateRight_any Aw Af As At nw nf ns nt cw cf cs ct g s w2 hG2 hS2)
    rw [hbs] at HS2
    have HBS := Lib.hid hbs
    clear q1 q2 hG2 hS2 hL2 hGB2 hLB2 hbw2 hb2 hbs
    go_wp2_with fail
    (with_reducible refine (HS2.out).mono ?_)
    rintro e w3 ⟨rfl, hb3⟩
    clear e0 e1
    have hb3' := HB2.out.trans (hb3.mono HB2.out.size)
    obtain ⟨q1, q2, hG3, hS3, hL3, hGB3, hLB3, hbw3⟩ := HA.out w3 hb3'
    have e0 := q1.cell; have e1 := q2.cell
    have HB3 := Lib.hid hb3'; have HBW3 := Lib.hid hbw3
    cases bs with
    | false =>
      clear q1 q2 hG3 hS3 hL3 hGB3 hLB3 hbw3 hb3 hb3'
      go_wp2
      go_ret2
      exact ⟨HBW3.out, .inl ⟨by unfold okB; rw [HBG.out, HBS.out]; rfl, rfl⟩⟩
    | true =>
      obtain ⟨bl, hbl⟩ : ∃ b, loadsB g.nodes.toNat ls = b := ⟨_, rfl⟩
      have hgb := gridB_at HBG.out
      have HL3 := Lib.hid (loadsRight_any Aw Af Al nw nf nl cw cf cl g.nodes.toNat g ls w3 hgb.2.2.1 (by omega) (by omega) HLL.out HLM.out hL3)
      rw [hbl] at HL3
      have HBL := Lib.hid hbl
      clear q1 q2 hG3 hS3 hL3 hGB3 hLB3 hbw3 hb3 hb3' hbl hgb
      go_wp2_with fail
      (with_reducible refine (HL3.out).mono ?_)
      rintro e w4 ⟨rfl, hb4⟩
      clear e0 e1
      have hb4' := HB3.out.trans (hb4.mono HB3.out.size)
      obtain ⟨q1, q2, hG4, hS4, hL4, hGB4, hLB4, hbw4⟩ := HA.out w4 hb4'
      have e0 := q1.cell; have e1 := q2.cell
      have HB4 := Lib.hid hb4'; have HBW4 := Lib.hid hbw4
      cases bl with
      | false =>
        clear q1 q2 hG4 hS4 hL4 hGB4 hLB4 hbw4 hb4 hb4'
        go_wp2
        go_ret2
        exact ⟨HBW4.out, .inl ⟨by unfold okB; rw [HBG.out, HBS.out, HBL.out]; rfl, rfl⟩⟩
      | true =>
        have HOK := Lib.hid (show okB g s ls = true from by unfold okB; rw [HBG.out, HBS.out, HBL.out]; rfl)
        have hpre := okB_pre HOK.out
        have hgn := (gridB_at HBG.out).2.2.1
        have hst := stateB_at HBS.out
        have hbg := begin_any w.heap.size Aw Af As At Al nw nf nl cw cf cs ct cl (zOf g s ls) s.feeds w4 hbw4.size hpre hGB4 (by have := HGF.out; omega) hS4.fs (by have := HGW.out; show s.wires.length = nw; omega) hS4.ws HLL.out hLB4
        have hns : ns = nf := by have := HFE.out; have := HGF.out; omega
        have hnt : nt = nw := by have := HWE.out; have := HGW.out; omega
        have hz4 : ((zOf g s ls).N : Int) = g.nodes := hgn.symm
        rw [hz4] at hbg
        have HBG2 := Lib.hid (show Calls Tryz.prog 75 #[.agg #[.int .i64 g.nodes, .slice Aw nw cw, .slice Af nf cf, .int .i64 g.least], .agg #[.slice As ns cs, .slice At nt ct], .slice Al nl cl] w4 fun e w' => BgPost w.heap.size (zOf g s ls) s.feeds w4 e w' from by rw [hns, hnt]; exact hbg)
        clear q1 q2 hG4 hS4 hL4 hGB4 hLB4 hbw4 hb4 hb4' hbg hpre hgn hst hns hnt hz4
        go_wp2_with fail
        (with_reducible refine (HBG2.out).mono ?_)
        rintro e w5 hp
        rcases hp with ⟨hs, rfl, hb5⟩ | ⟨hs, sb, x, C, V, Km, xs, rfl, hA, hb5⟩
        · have HE := Lib.hid (show OpPost g s ls w (.returned (.tuple #[.pointer none, .int .i64 3])) w5 from ⟨HBW4.out.trans (hb5.mono HBW4.out.size), .inr (.inl ⟨HOK.out, hs, rfl⟩)⟩)
          clear hs hb5
          go_wp2
          go_ret2
          exact HE.out
        · have HE := Lib.hid (show OpPost g s ls w (.returned (.tuple #[.pointer (some ⟨sb, 0, none⟩), .int .i64 0])) w5 from ⟨HBW4.out.trans (hb5.mono HBW4.out.size), .inr (.inr ⟨HOK.out, hs, sb, x, C, V, Km, xs, rfl, hA⟩)⟩)
          clear hs hb5 hA
          go_wp2
          go_ret2
          exact HE.out
end Go.Proofs.YtbnfnpakibkboaaGreat

namespace Go.Proofs.YtbnfnpakibkboaaGreat
set_option linter.unusedVariables false
set_option linter.unusedSimpArgs false
open Go.RowKit

/-- a fraction, reduced -/
def redQ (p : Int × Int) : Int × Int := (p.1 / (Int.gcd p.1 p.2 : Int), p.2 / (Int.gcd p.1 p.2 : Int))
def Zs.solved (z : Zs) (fon run : List Bool) : Bool := (List.range z.np).all (fun i => (z.sol fon run i).isSome)
theorem Zs.solved_at {z : Zs} {fon run : List Bool} (h : z.solved fon run = true) {i : Nat} (hi : i < z.np) : (z.sol fon run i).isSome = true := by
  unfold Zs.solved at h
  rw [List.all_eq_true] at h
  exact h i (List.mem_range.2 hi)
section
variable {w : World} {B sb : Nat} {x : SL} {C : Nat → Ci} {V : Nat → Vi} {K : Nat → Bool} {z : Zs} {fon run : List Bool} {xs : List Pm}
theorem StA.pr {dn : Nat → Prop} (h : StA w B sb x C V K z fon run xs dn) : x.pof.n = x.N ∧ Sl w w.heap.size 1 CI x.pof.A ((List.range x.N).map (fun c => (z.pof c : Int))) := by
  obtain ⟨pb, p1, p2, p3⟩ := h.P
  rw [p1, h.N]
  exact ⟨rfl, p3.sl (by simp) (fun k y hk => by
    obtain ⟨h1, h2⟩ := List.getElem?_eq_some_iff.1 hk
    rw [List.getElem_map, List.getElem_range] at h2
    rw [← h2]; rfl)⟩
theorem StA.pm (h : StA w B sb x C V K z fon run xs (fun j => j < z.np)) (hz : z.Ok) {i : Nat} (hi : i < z.np) :
    ∃ y : Pm, PmIn w B y ∧ y.p = z.pv i ∧ PaM w B (C i) (V i) (K i) y z fon run i := by
  have hix : i < xs.length := by rw [h.xl]; exact hi
  exact ⟨xs[i], h.xi _ (List.getElem_mem hix), h.xat hix, h.pa i hix hi⟩
theorem StA.voltC (h : StA w B sb x C V K z fon run xs (fun j => j < z.np)) (hz : z.Ok) {c : Nat} (hc : c < z.N) (hs : (z.sol fon run (z.pof c)).isSome = true) :
    Calls Tryz.prog 78 #[.pointer (some ⟨sb, 0, none⟩), .int .i64 (c : Int)] w fun e w' => e = .returned (.tuple #[.int .i64 (z.volt fon run c).1, .int .i64 (z.volt fon run c).2]) ∧ Below w.heap.size w w' := by
  have hi := hz.pof_lt hc
  obtain ⟨y, hy, hyp, hc1, hsol⟩ := h.pm hz hi
  obtain ⟨hcir, hn1, hn2⟩ := hc1.cir hy hyp hz hi
  have hnp := Zs.np_le (z := z)
  have hN40 := hz.n40
  have hn10 := (hz.nd_len hi).2
  cases ho : z.sol fon run (z.pof c) with
  | none => rw [ho] at hs; cases hs
  | some p =>
    obtain ⟨v, d⟩ := p
    rw [ho] at hsol
    obtain ⟨_, hd, hvn, hV, _⟩ := hsol
    have hV2 := own_sl (f := fI) (size := 1) (fun _ => rfl) hV
    have hcN : c < x.N := by rw [h.N]; exact hc
    have := volt_any sb x C V K w h.st (by rw [h.N]; omega) (by rw [h.np]; omega) (fun c => (z.pof c : Int)) c (z.pof c) hcN h.pr.1 h.pr.2 rfl (by rw [h.np]; exact hi) (z.nd (z.pof c)) hn1.symm (by omega) hcir.N v (by rw [hvn, hn1]) (by rw [hn1]; exact hV2.1) (nI_mem.2 (hz.own hc))
    rw [hd] at this
    unfold Zs.volt
    rw [ho]; exact this
theorem StA.ampC (h : StA w B sb x C V K z fon run xs (fun j => j < z.np)) (hz : z.Ok) {f : Nat} (hf : f < z.g.feeds.length) (hs : (z.sol fon run (z.pof (z.fpl f))).isSome = true) :
    Calls Tryz.prog 79 #[.pointer (some ⟨sb, 0, none⟩), .int .i64 (f : Int)] w fun e w' => e = .returned (.tuple #[.int .i64 (z.amp fon run f).1, .int .i64 (z.amp fon run f).2]) ∧ Below w.heap.size w w' := by
  obtain ⟨hcN, hpl, hfv⟩ := hz.fpl_at hf
  have hi := hz.pof_lt hcN
  obtain ⟨y, hy, hyp, hc1, hsol⟩ := h.pm hz hi
  obtain ⟨hcir, hn1, hn2⟩ := hc1.cir hy hyp hz hi
  have hnp := Zs.np_le (z := z)
  have hN40 := hz.n40
  have hfl := (feedsB_nd hz.fb).2
  have hol := Zs.on_len (z := z) fon (z.pof (z.fpl f))
  cases ho : z.sol fon run (z.pof (z.fpl f)) with
  | none => rw [ho] at hs; cases hs
  | some p =>
    obtain ⟨v, d⟩ := p
    rw [ho] at hsol
    obtain ⟨_, hd, hvn, hV, han, hA⟩ := hsol
    have hA2 := own_sl (f := fI) (size := 1) (fun _ => rfl) hA
    have := amp_any sb x C V K w h.st (by rw [h.N]; omega) (by rw [h.np]; omega) (fun c => (z.pof c : Int)) z.g.feeds f (z.fpl f) (z.pof (z.fpl f)) h.g.fl hf h.gr.fs hpl (by rw [h.N]; exact hcN) h.pr.1 h.pr.2 rfl (by rw [h.np]; exact hi) (z.on fon (z.pof (z.fpl f))) hc1.son.symm (by rw [hc1.son]; omega) hcir.O ((z.on fon (z.pof (z.fpl f))).map (ampZ (z.nd (z.pof (z.fpl f))) v d)) hA2.2.symm (by rw [han, hc1.son]) hA2.1
    rw [hd] at this
    unfold Zs.amp
    rw [ho]; exact this
theorem StA.kv (h : StA w B sb x C V K z fon run xs (fun j => j < z.np)) (hz : z.Ok) {i : Nat} (hi : i < z.np) : K i = (z.sol fon run i).isSome := by
  obtain ⟨y, hy, hyp, hc1, hsol⟩ := h.pm hz hi
  cases ho : z.sol fon run i with
  | none => rw [ho] at hsol; exact hsol
  | some p => obtain ⟨v, d⟩ := p; rw [ho] at hsol; exact hsol.1
theorem StA.hasC (h : StA w B sb x C V K z fon run xs (fun j => j < z.np)) (hz : z.Ok) :
    Calls Tryz.prog 52 #[.pointer (some ⟨sb, 0, none⟩)] w fun e w' => e = .returned (.bool (z.solved fon run)) ∧ w = w' := by
  have hnp := Zs.np_le (z := z)
  have hN40 := hz.n40
  have := hasVolts_any sb x C V K w (by rw [h.np]; omega) h.st
  have e : (!((List.range x.np).map K).any (fun y => y == false)) = z.solved fon run := by
    rw [h.np]; unfold Zs.solved
    rw [Bool.eq_iff_iff]
    simp only [Bool.not_eq_true', List.any_eq_false, List.all_eq_true]
    constructor
    · intro hh i hi
      have := hh (K i) (List.mem_map.2 ⟨i, hi, rfl⟩)
      rw [h.kv hz (List.mem_range.1 hi)] at this
      cases hq : (z.sol fon run i).isSome with
      | true => rfl
      | false => rw [hq] at this; simp at this
    · intro hh y hy
      obtain ⟨i, hi, rfl⟩ := List.mem_map.1 hy
      rw [h.kv hz (List.mem_range.1 hi), hh i hi]; simp
  rw [e] at this; exact this
theorem StA.voltsC (h : StA w B sb x C V K z fon run xs (fun j => j < z.np)) (hz : z.Ok) (hs : z.solved fon run = true) :
    Calls Tryz.prog 53 #[.pointer (some ⟨sb, 0, none⟩)] w fun e w' => e = .returned (.slice (some ⟨w.heap.size, 0, none⟩) z.N z.N) ∧ Rf w' w.heap.size 55 (z.N * 2) (cellQ (fun c => redQ (z.volt fon run c))) ∧ Below w.heap.size w w' := by
  have hN40 := hz.n40
  have := volts_any sb x w h.st.r (by rw [h.N]; omega) (fun c => (z.volt fon run c).1) (fun c => (z.volt fon run c).2) (fun c hc wx hb => by
    rw [h.N] at hc
    exact (h.below hb).voltC hz hc (Zs.solved_at hs (hz.pof_lt hc))) (fun c hc => by
    rw [h.N] at hc
    have := hz.volt_bd (fon := fon) (run := run) hc
    omega)
  rw [h.N] at this; exact this
theorem StA.ampsC (h : StA w B sb x C V K z fon run xs (fun j => j < z.np)) (hz : z.Ok) (hs : z.solved fon run = true) :
    Calls Tryz.prog 54 #[.pointer (some ⟨sb, 0, none⟩)] w fun e w' => e = .returned (.slice (some ⟨w.heap.size, 0, none⟩) z.g.feeds.length z.g.feeds.length) ∧ Rf w' w.heap.size 55 (z.g.feeds.length * 2) (cellQ (fun f => redQ (z.amp fon run f))) ∧ Below w.heap.size w w' := by
  have hfl := (feedsB_nd hz.fb).2
  have hfn : x.feeds.n = z.g.feeds.length := h.g.fl.symm
  have := amps_any sb x w h.st.r (by omega) (fun f => (z.amp fon run f).1) (fun f => (z.amp fon run f).2) (fun f hf wx hb => by
    rw [hfn] at hf
    exact (h.below hb).ampC hz hf (Zs.solved_at hs (hz.pof_lt (hz.fpl_at hf).1))) (fun f hf => by
    rw [hfn] at hf
    have := hz.amp_bd (fon := fon) (run := run) hf
    omega)
  rw [hfn] at this; exact this
end
/-- what Solve answers -/
def SvPost (g : Gv) (s : Sv) (ls : List Lv) (w : World) (e : Ending) (w' : World) : Prop :=
  Below w.heap.size w w' ∧ ((okB g s ls = false ∧ e = .returned (.tuple #[.slice none 0 0, .slice none 0 0, .int .i64 2])) ∨ (okB g s ls = true ∧ smallP (zOf g s ls).ps = false ∧ e = .returned (.tuple #[.slice none 0 0, .slice none 0 0, .int .i64 3])) ∨
    (okB g s ls = true ∧ smallP (zOf g s ls).ps = true ∧ (zOf g s ls).solved s.feeds (List.replicate ls.length true) = false ∧ e = .returned (.tuple #[.slice none 0 0, .slice none 0 0, .int .i64 4])) ∨
    (okB g s ls = true ∧ smallP (zOf g s ls).ps = true ∧ (zOf g s ls).solved s.feeds (List.replicate ls.length true) = true ∧ ∃ b1 b2 : Nat, e = .returned (.tuple #[.slice (some ⟨b1, 0, none⟩) (zOf g s ls).N (zOf g s ls).N, .slice (some ⟨b2, 0, none⟩) g.feeds.length g.feeds.length, .int .i64 0]) ∧
      w.heap.size ≤ b1 ∧ w.heap.size ≤ b2 ∧ Rf w' b1 55 ((zOf g s ls).N * 2) (cellQ (fun c => redQ ((zOf g s ls).volt s.feeds (List.replicate ls.length true) c))) ∧ Rf w' b2 55 (g.feeds.length * 2) (cellQ (fun f => redQ ((zOf g s ls).amp s.feeds (List.replicate ls.length true) f)))))
set_option maxRecDepth 100000 in
set_option maxHeartbeats 8000000 in
theorem Solve_any (Aw Af As At Al : Option Addr) (nw nf ns nt nl cw cf cs ct cl : Nat) (g : Gv) (s : Sv) (ls : List Lv) (w : World) (hG : GAt w w.heap.size Aw nw Af nf g) (hS : SAt w w.heap.size As ns At nt s) (hll : ls.length = nl) (hlm : nl ≤ 100000) (hL : Sl w w.heap.size 3 CL Al ls) :
    Calls Tryz.prog 24 #[.agg #[.int .i64 g.nodes, .slice Aw nw cw, .slice Af nf cf, .int .i64 g.least], .agg #[.slice As ns cs, .slice At nt ct], .slice Al nl cl] w fun e w' => SvPost g s ls w e w' := by
  have hb1 := ((Below.refl w.heap.size w).alloc (Nat.le_refl _) (.cells #[.int .i64 g.nodes, .slice Aw nw cw, .slice Af nf cf, .int .i64 g.least] 25)).alloc (by simp) (.cells #[.slice As ns cs, .slice At nt ct] 28)
  obtain ⟨q1, q2⟩ := rows2 w #[.int .i64 g.nodes, .slice Aw nw cw, .slice Af nf cf, .int .i64 g.least] #[.slice As ns cs, .slice At nt ct] 25 28
  have e0 := q1.cell; have e1 := q2.cell
  obtain ⟨W1, hW1⟩ : ∃ y, (w.alloc (.cells #[.int .i64 g.nodes, .slice Aw nw cw, .slice Af nf cf, .int .i64 g.least] 25)).alloc (.cells #[.slice As ns cs, .slice At nt ct] 28) = y := ⟨_, rfl⟩
  rw [hW1] at hb1 e0 e1
  have HB1 := Lib.hid hb1
  have HOP := Lib.hid (open_any Aw Af As At Al nw nf ns nt nl cw cf cs ct cl g s ls W1 ((hG.below hb1).more hb1.size) ((hS.below hb1).more hb1.size) hll hlm ((hL.below hb1).more (fun _ _ h => h) hb1.size))
  clear q1 q2 hG hS hL hll hlm hb1
  go_enter Tryz.func24, Tryz.ntmps24
  go_wp2_with fail
  (with_reducible refine (HOP.out).mono ?_)
  rintro e w2 ⟨hb2, hp⟩
  clear e0 e1
  have HB2 := Lib.hid (HB1.out.trans (hb2.mono HB1.out.size))
  rcases hp with ⟨ho, rfl⟩ | ⟨ho, hs, rfl⟩ | ⟨ho, hs, sb, x, C, V, Km, xs, rfl, hA⟩
  · have HE := Lib.hid (show SvPost g s ls w (.returned (.tuple #[.slice none 0 0, .slice none 0 0, .int .i64 2])) w2 from ⟨HB2.out, .inl ⟨ho, rfl⟩⟩)
    clear hb2 ho
    go_wp2
    go_ret3
    exact HE.out
  · have HE := Lib.hid (show SvPost g s ls w (.returned (.tuple #[.slice none 0 0, .slice none 0 0, .int .i64 3])) w2 from ⟨HB2.out, .inr (.inl ⟨ho, hs, rfl⟩)⟩)
    clear hb2 ho hs
    go_wp2
    go_ret3
    exact HE.out
  · have hok := (okB_pre ho).ok hs
    have HOK := Lib.hid hok; have HO := Lib.hid ho; have HS := Lib.hid hs; have HA := Lib.hid hA
    have HAS := Lib.hid (hA.hasC hok)
    obtain ⟨bb, hbb⟩ : ∃ b, (zOf g s ls).solved s.feeds (List.replicate ls.length true) = b := ⟨_, rfl⟩
    rw [hbb] at HAS
    have HBB := Lib.hid hbb
    clear hb2 ho hs hA hok hbb
    go_wp2_with fail
    (with_reducible refine (HAS.out).mono ?_)
    rintro e w3 ⟨rfl, rfl⟩
    cases bb with
    | false =>
      go_wp2
      go_ret3
      exact ⟨HB2.out, .inr (.inr (.inl ⟨HO.out, HS.out, HBB.out, rfl⟩))⟩
    | true =>
      have HV := Lib.hid (HA.out.voltsC HOK.out HBB.out)
      go_wp2_with fail
      (with_reducible refine (HV.out).mono ?_)
      rintro e w4 ⟨rfl, hr4, hb4⟩
      have HM := Lib.hid ((HA.out.below hb4).ampsC HOK.out HBB.out)
      have HR4 := Lib.hid hr4; have HB4 := Lib.hid hb4
      clear hr4 hb4
      go_wp2_with fail
      (with_reducible refine (HM.out).mono ?_)
      rintro e w5 ⟨rfl, hr5, hb5⟩
      have HR5 := Lib.hid hr5; have HB5 := Lib.hid hb5
      clear hr5 hb5
      go_wp2
      go_ret3
      exact ⟨(HB2.out.trans (HB4.out.mono HB2.out.size)).trans (HB5.out.mono (Nat.le_trans HB2.out.size HB4.out.size)), .inr (.inr (.inr ⟨HO.out, HS.out, HBB.out, _, _, rfl, HB2.out.size, Nat.le_trans HB2.out.size HB4.out.size, HR4.out.below HB5.out HR4.out.lt, HR5.out⟩))⟩
end Go.Proofs.YtbnfnpakibkboaaGreat

namespace Go.Proofs.YtbnfnpakibkboaaGreat
set_option linter.unusedVariables false
set_option linter.unusedSimpArgs false
open Go.RowKit

def runAt (run : List Bool) (i : Nat) : Bool := (run[i]?).getD false
def lvAt (ls : List Lv) (i : Nat) : Lv := (ls[i]?).getD ⟨0, 0, 0⟩
/-- the load with the least rank, of several the last one, among those that run and match: -1 for none -/
def leastZ (ls : List Lv) (run : List Bool) (m : Lv → Bool) : Nat → Int
  | 0 => -1
  | k + 1 => if runAt run k && (m (lvAt ls k) && (decide (leastZ ls run m k < 0) || decide ((lvAt ls k).rank ≤ (lvAt ls (leastZ ls run m k).toNat).rank))) then (k : Int) else leastZ ls run m k
theorem leastZ_lt (ls : List Lv) (run : List Bool) (m : Lv → Bool) (k : Nat) : -1 ≤ leastZ ls run m k ∧ leastZ ls run m k < k ∧ (0 ≤ leastZ ls run m k → runAt run (leastZ ls run m k).toNat = true ∧ m (lvAt ls (leastZ ls run m k).toNat) = true) := by
  induction k with
  | zero => unfold leastZ; refine ⟨by omega, by omega, fun h => by omega⟩
  | succ k ih =>
    unfold leastZ
    split
    · rename_i h
      simp only [Bool.and_eq_true] at h
      refine ⟨by omega, by omega, fun _ => ?_⟩
      simp only [Int.toNat_natCast]
      exact ⟨h.1, h.2.1⟩
    · exact ⟨ih.1, by omega, ih.2.2⟩
def Zs.deadP (z : Zs) (fon run : List Bool) (i : Nat) : Bool := runAt run i && (!decide ((lvAt z.ls i).units = 0) && (z.on fon (z.pof (lvAt z.ls i).pl.toNat)).isEmpty)
def Zs.backQ (z : Zs) (fon run : List Bool) (l : Lv) : Bool := decide (l.units < 0) && (!(z.on fon (z.pof l.pl.toNat)).isEmpty && decide (total (z.nd (z.pof l.pl.toNat)).length (z.tk run (z.pof l.pl.toNat)) < 0))
def Zs.weakI (z : Zs) (fon run : List Bool) (i : Nat) : Bool := runAt run i && (decide (0 < (lvAt z.ls i).units) && decide ((z.volt fon run (lvAt z.ls i).pl.toNat).1 < z.g.least * (z.volt fon run (lvAt z.ls i).pl.toNat).2))
/-- the parts of weak loads, of the first k loads -/
def Zs.weak (z : Zs) (fon run : List Bool) (k q : Nat) : Bool := (List.range k).any (fun i => z.weakI fon run i && (z.pof (lvAt z.ls i).pl.toNat == q))
theorem Zs.weak_succ (z : Zs) (fon run : List Bool) (k q : Nat) : z.weak fon run (k + 1) q = (z.weak fon run k q || (z.weakI fon run k && (z.pof (lvAt z.ls k).pl.toNat == q))) := by
  unfold Zs.weak; rw [List.range_succ, List.any_append]; simp
def Zs.lowQ (z : Zs) (fon run : List Bool) (l : Lv) : Bool := decide (0 < l.units) && z.weak fon run z.ls.length (z.pof l.pl.toNat)
/-- the feeder that exceeds its limit most, of several the first one -/
def tripZ (q : Nat → Int × Int) (lim : Nat → Int) : Nat → Int
  | 0 => -1
  | k + 1 => if decide (0 < (q k).1 - lim k * (q k).2) && (decide (tripZ q lim k < 0) || decide (((q (tripZ q lim k).toNat).1 - lim (tripZ q lim k).toNat * (q (tripZ q lim k).toNat).2) * (q k).2 < ((q k).1 - lim k * (q k).2) * (q (tripZ q lim k).toNat).2)) then (k : Int) else tripZ q lim k
theorem tripZ_lt (q : Nat → Int × Int) (lim : Nat → Int) (k : Nat) : -1 ≤ tripZ q lim k ∧ tripZ q lim k < k ∧ (0 ≤ tripZ q lim k → 0 < (q (tripZ q lim k).toNat).1 - lim (tripZ q lim k).toNat * (q (tripZ q lim k).toNat).2) := by
  induction k with
  | zero => unfold tripZ; refine ⟨by omega, by omega, fun h => by omega⟩
  | succ k ih =>
    unfold tripZ
    split
    · rename_i h
      simp only [Bool.and_eq_true, decide_eq_true_eq] at h
      refine ⟨by omega, by omega, fun _ => ?_⟩
      simp only [Int.toNat_natCast]
      exact h.1
    · exact ⟨ih.1, by omega, ih.2.2⟩
/-- a reason to cut: kind, index, value -/
abbrev Cu := Option (Int × Nat × (Int × Int))
def limZ (z : Zs) (f : Nat) : Int := (fvAt z.g.feeds f).limit
def Zs.dead (z : Zs) (fon run : List Bool) : Cu := ((List.range z.ls.length).find? (z.deadP fon run)).map (fun i => (1, i, (0, 1)))
def Zs.back (z : Zs) (fon run : List Bool) : Cu := if leastZ z.ls run (z.backQ fon run) z.ls.length < 0 then none else some (2, (leastZ z.ls run (z.backQ fon run) z.ls.length).toNat, (lvAt z.ls (leastZ z.ls run (z.backQ fon run) z.ls.length).toNat).units, 1)
def Zs.low (z : Zs) (fon run : List Bool) : Cu := if leastZ z.ls run (z.lowQ fon run) z.ls.length < 0 then none else some (3, (leastZ z.ls run (z.lowQ fon run) z.ls.length).toNat, redQ (z.volt fon run (lvAt z.ls (leastZ z.ls run (z.lowQ fon run) z.ls.length).toNat).pl.toNat))
def Zs.trip (z : Zs) (fon run : List Bool) : Cu := if tripZ (z.amp fon run) (limZ z) z.g.feeds.length < 0 then none else some (4, (tripZ (z.amp fon run) (limZ z) z.g.feeds.length).toNat, redQ (z.amp fon run (tripZ (z.amp fon run) (limZ z) z.g.feeds.length).toNat))
def Zs.next (z : Zs) (fon run : List Bool) : Cu := (z.dead fon run).or ((z.back fon run).or ((z.low fon run).or (z.trip fon run)))
def cutA : Cu → Array Value
  | none => #[.int .i64 0, .int .i64 0, .int .i64 0, .int .i64 0]
  | some (k, i, (a, b)) => #[.int .i64 k, .int .i64 (i : Int), .int .i64 a, .int .i64 b]
/-- what a rule answers -/
def RuP (o : Cu) (w : World) (e : Ending) (w' : World) : Prop := e = .returned (.tuple #[.agg (cutA o), .bool o.isSome]) ∧ Below w.heap.size w w'
section
variable {w : World} {B sb : Nat} {x : SL} {C : Nat → Ci} {V : Nat → Vi} {K : Nat → Bool} {z : Zs} {fon run : List Bool} {xs : List Pm} {dn : Nat → Prop}
theorem StA.row (h : StA w B sb x C V K z fon run xs dn) : Rw w sb 110 #[.int .i64 (x.N : Int), .slice x.wires.A x.wires.n x.wires.c, .slice x.feeds.A x.feeds.n x.feeds.c, .int .i64 x.least, .slice x.fon.A x.fon.n x.fon.c, .slice x.sw.A x.sw.n x.sw.c, .slice x.loads.A x.loads.n x.loads.c, .slice x.run.A x.run.n x.run.c, .slice x.parts.A x.parts.n x.parts.c, .slice x.pof.A x.pof.n x.pof.c, .slice (some ⟨x.cb, 0, none⟩) x.np x.np, .slice (some ⟨x.vb, 0, none⟩) x.np x.np, .slice (some ⟨x.kb, 0, none⟩) x.np x.np] := h.st.r
theorem lvAt_at {ls : List Lv} {i : Nat} (hi : i < ls.length) : lvAt ls i = ls[i] := by unfold lvAt; rw [List.getElem?_eq_getElem hi]; rfl
theorem runAt_at {run : List Bool} {i : Nat} (hi : i < run.length) : runAt run i = run[i] := by unfold runAt; rw [List.getElem?_eq_getElem hi]; rfl
theorem Zs.Ok.lv (h : z.Ok) {i : Nat} (hi : i < z.ls.length) : ((lvAt z.ls i).pl.toNat : Int) = (lvAt z.ls i).pl ∧ (lvAt z.ls i).pl.toNat < z.N ∧ -40 ≤ (lvAt z.ls i).units ∧ (lvAt z.ls i).units ≤ 40 ∧ 0 ≤ (lvAt z.ls i).rank ∧ (lvAt z.ls i).rank ≤ 100 := by
  rw [lvAt_at hi]
  have := loadsB_at h.lb (List.getElem_mem hi)
  omega
set_option maxRecDepth 100000 in
set_option maxHeartbeats 4000000 in
theorem StA.aliveC (h : StA w B sb x C V K z fon run xs (fun j => j < z.np)) (hz : z.Ok) {i : Nat} (hi : i < z.np) :
    Calls Tryz.prog 111 #[.pointer (some ⟨sb, 0, none⟩), .int .i64 (i : Int)] w fun e w' => e = .returned (.bool (!(z.on fon i).isEmpty)) ∧ w = w' := by
  obtain ⟨y, hy, hyp, hc1, hsol⟩ := h.pm hz hi
  have hson := hc1.son
  have hin : i < x.np := by rw [h.np]; exact hi
  have g4 := (h.st.c5 hin).2.2.2.1
  have m := h.row.cell
  have hz0 : (0 : Int) ≤ (i : Int) := by omega
  have hz1 : (i : Int) < (x.np : Int) := by omega
  obtain ⟨⟨oA, son, oc⟩, hso⟩ : ∃ s, (C i).so = s := ⟨_, rfl⟩
  rw [hso] at g4 hson
  unfold Sc.v at g4
  simp only at g4 hson
  have hb : decide ((0 : Int) < (son : Int)) = !(z.on fon i).isEmpty := by
    cases hl : z.on fon i with
    | nil => rw [hl] at hson; simp at hson; subst hson; rfl
    | cons a l => rw [hl] at hson; simp at hson; subst hson; simp <;> omega
  have HB := Lib.hid hb
  clear hb hson hso hc1 hsol hy hyp h
  go_enter Tryz.func111, Tryz.ntmps111
  go_wp2
  go_ret
  exact ⟨by rw [← HB.out]; first | done | rfl | simp, rfl⟩
end
end Go.Proofs.YtbnfnpakibkboaaGreat
