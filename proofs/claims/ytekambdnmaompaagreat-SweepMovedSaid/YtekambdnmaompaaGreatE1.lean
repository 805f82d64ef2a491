/- Contracts: leaving, and the iterator that it gives. -/
import Derived.Test.YtekambdnmaompaaGreatIter
import Derived.Test.YtekambdnmaompaaGreatD1
import Derived.Deep.RegionHeld3
import Derived.Lib.Zigzag
import Derived.Outline
namespace Go.Proofs.YtekambdnmaompaaGreat
set_option linter.unusedVariables false
set_option linter.unusedSimpArgs false
open Go.RowKit Go.Shelf Go.Lib
attribute [local go_sem] Oper.semAt_some

theorem xor_one (m : Nat) : (m ^^^ 1) = flip m := by
  unfold flip
  have h : ((m ^^^ 1) % 2 = 1) ↔ ¬ ((m % 2 = 1) ↔ (1 % 2 = 1)) := Nat.xor_mod_two_eq_one
  have h2 : (m ^^^ 1) / 2 = m / 2 := by rw [Nat.xor_div_two]; simp
  have h3 := Nat.mod_two_eq_zero_or_one (m ^^^ 1)
  split
  · have : (m ^^^ 1) % 2 = 1 := h.2 (fun k => by have := k.2 rfl; omega)
    omega
  · have : (m ^^^ 1) % 2 = 0 := h3.resolve_right fun k => h.1 k ⟨fun _ => rfl, fun _ => by omega⟩
    omega
theorem bits_xor_one (m : Nat) (hm : m < 1000) : bits .xor .i64 (m : Int) 1 = (flip m : Nat) := by
  show IntKind.i64.wrap ((BitVec.ofInt 64 (m : Int) ^^^ BitVec.ofInt 64 1).toNat : Int) = _
  have h1 : (BitVec.ofInt 64 1).toNat = 1 := by decide
  have h2 : (BitVec.ofInt 64 (m : Int)).toNat = m := by
    rw [BitVec.ofInt_natCast, BitVec.toNat_ofNat]; exact Nat.mod_eq_of_lt (by omega)
  have h3 : flip m < 2000 := by unfold flip; split <;> omega
  rw [BitVec.toNat_xor, h1, h2, xor_one, IntKind.wrap_i64]
  omega
theorem jbelow {β : Type} {J : β → World → Prop} {B : Nat} (hJ : AbidesFrom B J) {s : β} {W W' : World} (h : J s W) (hb : Below W.heap.size W W') : J s W' :=
  hJ s W W' none h ⟨hb.os, hb.tape, hb.output, hb.size, fun k hk _ => hb.block k hk⟩ (fun r e => by cases e)
/-- ints that lie behind A, which the rounds do not turn -/
def Held (nb bb : Nat) (W : World) (A : Option Addr) (L : List Int) : Prop :=
  ∀ (j : Nat) (hj : j < L.length), ∃ tb off, A = some ⟨tb, off, none⟩ ∧ W.cell? ⟨tb, off + j, none⟩ = some (.int .i64 L[j]) ∧ ¬ Tch nb bb W tb
structure LFix (nb bb b1 b2 g sb : Nat) (A : Option Addr) (c : Nat) (A2 : Option Addr) (c2 : Nat) (p : Pl) (Lv Nv Bv : Value) (m : Nat) (An : Option Addr) (nd : N) (cn x : Nat) (At : Option Addr) (L : List Int) (W : World) : Prop where
  lv : LvAt nb bb b1 b2 g sb A c A2 c2 p Lv Nv Bv m W
  en : Sl W g 2 CE An nd.ends
  bx : W.cell? ⟨x, 3, none⟩ = some (.slice An nd.ends.length cn)
  nx : ¬ Tch nb bb W x
  hd : Held nb bb W At L
section
variable {nb bb b1 b2 g sb : Nat} {A A2 : Option Addr} {c c2 : Nat} {p : Pl} {Lv Nv Bv : Value} {m : Nat} {An : Option Addr} {nd : N} {cn x : Nat} {At : Option Addr} {L : List Int} {W W' : World}
theorem LFix.keep (h : LFix nb bb b1 b2 g sb A c A2 c2 p Lv Nv Bv m An nd cn x At L W) (k : KT nb bb W W') : LFix nb bb b1 b2 g sb A c A2 c2 p Lv Nv Bv m An nd cn x At L W' where
  lv := h.lv.keep k
  en := h.en.keepS (fun _ _ h => h) fun q v hq hv => k.cell hv (h.lv.ng _ (by omega))
  bx := k.cell h.bx h.nx
  nx := k.keepsN (World.block_lt_of_cell? W _ h.bx) h.nx
  hd := fun j hj => by
    obtain ⟨tb, off, e, hc, hn⟩ := h.hd j hj
    exact ⟨tb, off, e, k.cell hc hn, k.keepsN (World.block_lt_of_cell? W _ hc) hn⟩
theorem LFix.below {B : Nat} (h : LFix nb bb b1 b2 g sb A c A2 c2 p Lv Nv Bv m An nd cn x At L W) (k : Below B W W') (hB : W.heap.size ≤ B) : LFix nb bb b1 b2 g sb A c A2 c2 p Lv Nv Bv m An nd cn x At L W' :=
  h.keep (KT.of_below k hB h.lv.lt.2.2.2.2.1 h.lv.lt.2.2.2.2.2)
end

theorem Own.held {nb bb : Nat} {W : World} {base : Nat} {At : Option Addr} {L : List Int} {ct : Nat} (h : Own W base 3 1 fI (.slice At L.length ct) L) (hn : ∀ k, base ≤ k → ¬ Tch nb bb W k) : Held nb bb W At L := fun j hj => by
  have hs : Sl W W.heap.size 1 CI At L := h.sl fI_len rfl
  obtain ⟨tb, off, e, hb, hc⟩ := int_at hs hj
  subst e
  exact ⟨tb, off, rfl, hc, hn _ (h.lt tb rfl).1⟩
theorem leaveL_eq {p : Pl} {m i k : Nat} {nd : N} (hat : nodeAtZ p (flip m : Nat) = i) (hi : i < p.nodes.length) (hnd : p.nodes[i] = nd) (hx : flip m < (slotsOf p).length) (hs : (slotsOf p)[flip m] = (k : Int)) :
    leaveL p m = (thru nd.kind nd.normal (k : Int)).map fun s => endNo (endAt nd s) := by
  have h1 : atN p (flip m) = nd := by unfold atN; rw [hat]; simp [hi, hnd]
  have h2 : slAt p (flip m) = k := by unfold slAt; simp [hx, hs]
  unfold leaveL
  rw [h1, h2]
theorem endAt_nat {nd : N} {s : Nat} (h : s < nd.ends.length) : endAt nd (s : Int) = nd.ends[s] := by simp [endAt, h]

theorem leaving_any (g m : Nat) (w : World) :
    Calls Tryz.prog 108 #[.pointer (some ⟨g, 0, none⟩), .int .i64 (m : Int)] w fun e w' =>
      e = .returned (.func (.func 130) #[] #[.pointer (some ⟨w.heap.size, 0, none⟩), .pointer (some ⟨w.heap.size + 1, 0, none⟩)]) ∧
      (w.alloc (.cells #[.pointer (some ⟨g, 0, none⟩)] 111)).alloc (.cells #[.int .i64 (m : Int)] 3) = w' := by
  go_enter Tryz.func108, Tryz.ntmps108
  go_wp2
  go_ret
  exact ⟨rfl, rfl⟩

/-- the numbers of the moves -/
abbrev Mv (M : Nat) := { x : Int // 0 ≤ x ∧ x < M }
set_option maxRecDepth 100000 in
set_option maxHeartbeats 4000000 in
theorem leaving_stops (n : Nat) (hn : 3 ≤ n) (nb bb b1 b2 g sb : Nat) (A : Option Addr) (c : Nat) (A2 : Option Addr) (c2 : Nat) (p : Pl) (Lv Nv Bv : Value) (m : Nat) (w : World) (hV : Vld p) (hm : m < 2 * p.rails.length)
    (hL : LvAt nb bb b1 b2 g sb A c A2 c2 p Lv Nv Bv m w) :
    SeqStopsK Fence.wide n Tryz.prog 130 #[.pointer (some ⟨b1, 0, none⟩), .pointer (some ⟨b2, 0, none⟩)] (fun x : Mv (2 * p.rails.length) => #[.int .i64 x.1]) (KT nb bb) (fun xs => xs.map (·.1) = leaveL p m) (fun _ => True) (leaveL p m).length w := by
  intro l J Jx W hW hJ hJx hY h0
  dsimp only at hY
  have hLW := hL.below hW (Nat.le_refl _)
  clear hL
  obtain ⟨i, hi, k, hk, hkey, hat, hsl⟩ := slots_spec hV.ends (flip_lt hm)
  have hx := flip_lt hm
  have hsx : (slotsOf p)[flip m]'(by rw [slots_len]; exact hx) = (k : Int) := hsl (by rw [slots_len]; exact hx)
  refine callsIn_of_wp Tryz.func130 rfl trivial ?_ rfl
  simp only [Tryz.ntmps130, List.size_toArray, List.length_cons, List.length_nil, Nat.reduceAdd, Nat.reduceSub, Array.replicate_succ, Array.replicate_zero, List.push_toArray, List.append_toArray, List.nil_append, List.cons_append]
  obtain ⟨nd, hnd⟩ : ∃ nd, p.nodes[i] = nd := ⟨_, rfl⟩
  obtain ⟨b, off, An, cn, hA, hb, hE, hc1, hc2, k0, k1, k2, k3, k4⟩ := hLW.net.pl.node hi
  subst hA
  simp only [hnd] at hE hc1 hc2 k0 k1 k2 k3 k4 hk
  obtain ⟨c0, c1, _, c3, _, _⟩ := hLW.net.cell
  have hszs : p.nodes.length ≤ 300 ∧ p.rails.length ≤ 400 := by have := of_decide_eq_true hV.sizes; omega
  have HX := Lib.hid (bits_xor_one m (by omega))
  have x1 := hLW.x1; have x2 := hLW.x2
  have hi0 : (0 : Int) ≤ (i : Int) := by omega
  have hi1 : (i : Int) < (p.nodes.length : Int) := by omega
  have hgl := hLW.net.lt
  have HN1 := Lib.hid (hLW.net.below ((Below.refl (g + 1) W).drew) (Nat.lt_succ_self g))
  have HN2 := Lib.hid (hLW.net.below (((Below.refl (g + 1) W).alloc (by omega) (.cells #[.int .i64 0, .int .i64 0, .int .i64 0, .slice none 0 0, .int .i64 0] 87)).drew) (Nat.lt_succ_self g))
  obtain ⟨W1, hW1⟩ : ∃ W1, (W.alloc (.cells #[.int .i64 nd.spot.x, .int .i64 nd.spot.y, .int .i64 nd.kind, .slice An nd.ends.length cn, .int .i64 nd.normal] 87)).drew = W1 := ⟨_, rfl⟩
  have hb1 : Below W.heap.size W W1 := by rw [← hW1]; exact ((Below.refl _ _).alloc (Nat.le_refl _) _).drew
  have hL1 := hLW.below hb1 (Nat.le_refl _)
  have hbx : W1.cell? ⟨W.heap.size, 0, none⟩ = some (.int .i64 nd.spot.x) ∧ W1.cell? ⟨W.heap.size, 1, none⟩ = some (.int .i64 nd.spot.y) ∧ W1.cell? ⟨W.heap.size, 2, none⟩ = some (.int .i64 nd.kind) ∧ W1.cell? ⟨W.heap.size, 3, none⟩ = some (.slice An nd.ends.length cn) ∧ W1.cell? ⟨W.heap.size, 4, none⟩ = some (.int .i64 nd.normal) := by
    rw [← hW1]; refine ⟨?_, ?_, ?_, ?_, ?_⟩ <;> (change (W.alloc (.cells _ 87)).cell? _ = _; go_keep)
  have hnx : ¬ Tch nb bb W1 W.heap.size := fun h => by
    have := hLW.bd _ (Tch.of_cells (fun i => hb1.cell (p := ⟨nb, i, none⟩) hLW.lt.2.2.2.2.1) (fun i => hb1.cell (p := ⟨bb, i, none⟩) hLW.lt.2.2.2.2.2) h)
    omega
  have hE1 : Sl W1 g 2 CE An nd.ends := hE.keepS (fun _ _ h => h) fun q v hq hv => (hb1.cell (by omega)).trans hv
  have hJ1 : J [] W1 := jbelow hJ h0 hb1
  have hx1 : W.heap.size < W1.heap.size := by rw [← hW1]; simp
  have H := Lib.hid (And.intro hW1 (And.intro hL1 (And.intro hbx (And.intro hnx (And.intro hE1 (And.intro hJ1 hx1))))))
  clear hW1 hL1 hbx hnx hE1 hJ1 hx1 hb1
  gi_wp2
  refine wpIn_wide.2 ?_
  go_region_held3 (fun w' => w'.cell? ⟨b1, 0, none⟩ = some (.pointer (some ⟨g, 0, none⟩)) ∧ w'.cell? ⟨b2, 0, none⟩ = some (.int .i64 (m : Int)) ∧ w'.cell? ⟨g, 0, none⟩ = some (.slice (some ⟨b, off, none⟩) p.nodes.length c) ∧ w'.cell? ⟨b, off + i * 5, none⟩ = some (.int .i64 nd.spot.x) ∧ w'.cell? ⟨b, off + i * 5 + 1, none⟩ = some (.int .i64 nd.spot.y) ∧ w'.cell? ⟨b, off + i * 5 + 2, none⟩ = some (.int .i64 nd.kind) ∧ w'.cell? ⟨b, off + i * 5 + 3, none⟩ = some (.slice An nd.ends.length cn) ∧ w'.cell? ⟨b, off + i * 5 + 4, none⟩ = some (.int .i64 nd.normal))
    (first | go_keep | go_goals)
    ((go_at_call 107; rw [HX.out]; refine (nodeAt_any g _ A2 c c2 p Lv _ Nv Bv (flip m) _ (by first | exact HN1.out | exact HN2.out) hx).mono ?_; rintro e w2 ⟨rfl, rfl⟩; rw [hat]))
  all_goals
    obtain ⟨hW1, hL1, hbx, hnx, hE1, hJ1, hx1⟩ := H.out
    obtain ⟨l1, l2, l3, l4, l5, l6⟩ := hL1.lt
    gi_wp2
    rw [hW1]
    clear hW1 HN1 HN2 x1 x2 k0 k1 k2 k3 k4 c0 c1 c3
    have hX := HX.out
    have x1 := hL1.x1; have x2 := hL1.x2
    obtain ⟨_, _, _, c3, _, _⟩ := hL1.net.cell
    obtain ⟨y0, y1, y2, y3, y4⟩ := hbx
    have z := hL1.row.cell (i := flip m) (by rw [slots_len]; exact hx)
    rw [hsx] at z
    have f0 : (0 : Int) ≤ ((flip m : Nat) : Int) := by omega
    have f1 : ((flip m : Nat) : Int) < 2 * (p.rails.length : Int) := by omega
    obtain ⟨hkd1, hkd6, hkl, _, _⟩ := nodeB_parts (List.all_eq_true.1 hV.nodes _ (hnd ▸ List.getElem_mem hi))
    have he4 : nd.ends.length ≤ 4 := by have := ends_le4 hV.nodes i hi; rw [hnd] at this; exact this
    obtain ⟨L, hLe⟩ : ∃ L, thru nd.kind nd.normal (k : Int) = L := ⟨_, rfl⟩
    have hT : ∀ W', Calls Tryz.prog 131 #[.agg #[.int .i64 nd.spot.x, .int .i64 nd.spot.y, .int .i64 nd.kind, .slice An nd.ends.length cn, .int .i64 nd.normal], .int .i64 (k : Int)] W' (ThruPost L W') := fun W' => by
      rw [← hLe]; exact through_any nd An cn (k : Int) W' hkd1 hkd6 (by omega) (by omega)
    have HLe := Lib.hid hLe; have HT := Lib.hid hT
    have HF := Lib.hid (And.intro hL1 (And.intro hE1 (And.intro y3 (And.intro hnx hJ1))))
    clear hLe hT hkd1 hkd6 hkl hL1 hE1 hnx hJ1 H HX
    refine wpIn_wide.2 ?_
    go_region_held3 (fun w' => w'.cell? ⟨b1, 0, none⟩ = some (.pointer (some ⟨g, 0, none⟩)) ∧ w'.cell? ⟨b2, 0, none⟩ = some (.int .i64 (m : Int)) ∧ w'.cell? ⟨g, 3, none⟩ = some (.slice (some ⟨sb, 0, none⟩) (2 * p.rails.length) (2 * p.rails.length)) ∧ w'.cell? ⟨sb, flip m, none⟩ = some (.int .i64 (k : Int)) ∧ w'.cell? ⟨W.heap.size, 0, none⟩ = some (.int .i64 nd.spot.x) ∧ w'.cell? ⟨W.heap.size, 1, none⟩ = some (.int .i64 nd.spot.y) ∧ w'.cell? ⟨W.heap.size, 2, none⟩ = some (.int .i64 nd.kind) ∧ w'.cell? ⟨W.heap.size, 3, none⟩ = some (.slice An nd.ends.length cn) ∧ w'.cell? ⟨W.heap.size, 4, none⟩ = some (.int .i64 nd.normal))
      (first | go_keep | exact ⟨(hb2.cell (p := ⟨b1, 0, none⟩) (by simp; omega)).trans x1, (hb2.cell (p := ⟨b2, 0, none⟩) (by simp; omega)).trans x2, (hb2.cell (p := ⟨g, 3, none⟩) (by simp; omega)).trans c3, (hb2.cell (p := ⟨sb, flip m, none⟩) (by simp; omega)).trans z, (hb2.cell (p := ⟨W.heap.size, 0, none⟩) (by simp; omega)).trans y0, (hb2.cell (p := ⟨W.heap.size, 1, none⟩) (by simp; omega)).trans y1, (hb2.cell (p := ⟨W.heap.size, 2, none⟩) (by simp; omega)).trans y2, (hb2.cell (p := ⟨W.heap.size, 3, none⟩) (by simp; omega)).trans y3, (hb2.cell (p := ⟨W.heap.size, 4, none⟩) (by simp; omega)).trans y4⟩)
      ((go_at_call 131; refine (HT.out _).mono ?_; rintro e w2 ⟨v, rfl, ho, hb2⟩; obtain ⟨At, ct, rfl, hct, hcm, _⟩ := ho.form))
    obtain ⟨hL1, hE1, y3', hnx, hJ1⟩ := HF.out
    have hbw : Below W1.heap.size W1 w2 := (Below.refl _ _).drew.trans hb2
    have hntch : ∀ k, W1.heap.size ≤ k → ¬ Tch nb bb w2 k := fun k hk h => by
      have := hL1.bd _ (Tch.of_cells (fun i => hbw.cell (p := ⟨nb, i, none⟩) l5) (fun i => hbw.cell (p := ⟨bb, i, none⟩) l6) h)
      omega
    have hkt : KT nb bb W1 w2 := KT.of_below hbw (Nat.le_refl _) l5 l6
    have hFx : LFix nb bb b1 b2 g sb (some ⟨b, off, none⟩) c A2 c2 p Lv Nv Bv m An nd cn W.heap.size At L w2 :=
      ⟨hL1.keep hkt, hE1.keepS (fun _ _ h => h) fun q v hq hv => (hbw.cell (by omega)).trans hv, (hbw.cell (p := ⟨W.heap.size, 3, none⟩) hx1).trans y3', hkt.keepsN hx1 hnx, ho.held hntch⟩
    have hJ2 : J [] w2 := jbelow hJ hJ1 hbw
    have hlv : leaveL p m = L.map fun s => endNo (endAt nd s) := by rw [← HLe.out]; exact leaveL_eq hat hi hnd (by rw [slots_len]; exact hx) hsx
    have hLb : ∀ s ∈ L, 0 ≤ s ∧ s < nd.ends.length := by rw [← HLe.out]; exact thru_lt (List.all_eq_true.1 hV.nodes _ (hnd ▸ List.getElem_mem hi)) hk
    have hok : ∀ e ∈ nd.ends, okE p i e := by have := hV.ends.1 i hi; rw [hnd] at this; exact this
    have hL2 : L.length ≤ 2 := by rw [← HLe.out]; exact thru_le2 _ _ _
    have hll : (leaveL p m).length = L.length := by rw [hlv, List.length_map]
    have hbd : ∀ z ∈ leaveL p m, 0 ≤ z ∧ z < ((2 * p.rails.length : Nat) : Int) := fun z hz => by
      rw [hlv] at hz
      obtain ⟨s, hs, rfl⟩ := List.mem_map.1 hz
      obtain ⟨h1, h2⟩ := hLb s hs
      obtain ⟨t, rfl⟩ := Int.eq_ofNat_of_zero_le h1
      rw [endAt_nat (show t < nd.ends.length by omega)]
      have := endNo_bd (hok _ (List.getElem_mem (show t < nd.ends.length by omega)))
      exact ⟨this.1, by have := this.2; push_cast; exact this⟩
    obtain ⟨LL, hLL⟩ : ∃ LL : List (Mv (2 * p.rails.length)), LL.map (·.1) = leaveL p m := ⟨(leaveL p m).pmap Subtype.mk hbd, by simp [List.map_pmap]⟩
    have hLn : LL.length = L.length := by rw [← hll, ← hLL, List.length_map]
    have HQ := Lib.hid (And.intro hFx (And.intro hJ2 (And.intro hlv (And.intro hLb (And.intro hok (And.intro hll (And.intro hLL hLn)))))))
    clear hL1 hE1 y3' hnx hJ1 HF hbw hntch hkt hFx hJ2 hlv hLb hok hbd hLL hLn hll hb2 ho x1 x2 c3 y0 y1 y2 y3 y4 z f0 f1 hX hk
    gi_wp2
    gi_loopw [29] (fun i wr => ∃ j : Nat, j ≤ L.length ∧ i = .int .i64 (j : Int) ∧ J (LL.take j) wr ∧ LFix nb bb b1 b2 g sb (some ⟨b, off, none⟩) c A2 c2 p Lv Nv Bv m An nd cn W.heap.size At L wr) (fun i _ => L.length - (intOf i).toNat)
    case atStart => exact ⟨0, Nat.zero_le _, rfl, HQ.out.2.1, HQ.out.1⟩
    case round =>
      obtain ⟨j, hj, rfl, hJj, hFx⟩ := hrel
      obtain ⟨_, _, hlv, hLb, hok, hll, hLL, hLn⟩ := HQ.out
      by_cases hlt : j < L.length
      · obtain ⟨tb, toff, hAt, hc, _⟩ := hFx.hd j hlt
        subst hAt
        obtain ⟨s0, s1⟩ := hLb _ (List.getElem_mem hlt)
        obtain ⟨s, hs⟩ := Int.eq_ofNat_of_zero_le s0
        rw [hs] at hc s1
        have hsl : s < nd.ends.length := by omega
        obtain ⟨b3, off3, hAn, hb3, m0, m1⟩ := end_at hFx.en hsl
        subst hAn
        obtain ⟨e0, e1, _⟩ := hok _ (List.getElem_mem hsl)
        have bx := hFx.bx
        have hjl : j < LL.length := by rw [hLn]; exact hlt
        have hval : (LL[j]).1 = endNo nd.ends[s] := by
          have : (LL.map (·.1))[j]? = some (endNo nd.ends[s]) := by rw [hLL, hlv]; simp [hlt, hs, endAt_nat hsl]
          rw [List.getElem?_map, List.getElem?_eq_getElem hjl] at this
          exact Option.some.inj this
        have hstep : LL.take j ++ [LL[j]] = LL.take (j + 1) := by simp [List.take_append_getElem, hjl]
        have hjlt : (LL.take j).length < (leaveL p m).length := by rw [List.length_take]; omega
        obtain ⟨xj, hxj⟩ : ∃ xj, LL[j] = xj := ⟨_, rfl⟩
        rw [hxj] at hval hstep
        have HS := Lib.hid (And.intro hJj (And.intro hFx (And.intro hstep (And.intro hval hjlt))))
        clear hlv hLb hok hll hval hstep hJj hFx s0 hLL hLn hxj hjl hjlt
        gi_wp2
        refine ⟨trivial, (fun h => by cases h), ?_⟩
        refine CallsIn.mono (callsIn_wide.2 (endNumber_any nd.ends[s] _ e0 (by omega))) ?_
        rintro e w3 ⟨rfl, hb3⟩
        obtain ⟨hJj, hFx, hstep, hval, hjlt⟩ := HS.out
        have hJ3 := jbelow hJ hJj hb3
        have hF3 := hFx.below hb3 (Nat.le_refl _)
        obtain ⟨fn, tmps, assign, body, hy, hR⟩ := hY _ xj w3 hJ3 hjlt
        rw [hval] at hy
        rw [hstep] at hR
        have HR := Lib.hid (And.intro hF3 hstep)
        clear hFx hstep hval hjlt hJ3 hF3 hJj bx m0 m1 hc
        gi_wp2
        refine ⟨(fun h => by cases h), hR.mono ?_⟩
        rintro e W3 (⟨rfl, hJ4, hk4⟩ | ⟨rfl, hJx3⟩)
        · gi_wp2
          go_roundw
          case rel => exact ⟨j + 1, by omega, by go_num, hJ4, HR.out.1.keep hk4⟩
          case measure => simp [intOf]; omega
        · gi_wp2
          refine bodyPost_ret (results_none rfl _ _ _) rfl ?_
          exact ⟨⟨_, rfl⟩, .inr ⟨_, trivial, hJx3⟩⟩
      · obtain rfl : j = L.length := by omega
        gi_wp2
        go_end0
        exact ⟨⟨_, rfl⟩, .inl ⟨LL, hLL, by rw [← hLn, List.take_length] at hJj; exact hJj⟩⟩
end Go.Proofs.YtekambdnmaompaaGreat
