/- Texts Xr X1. -/
import Derived.Test.YtbnfnpakibkboaaGreatJA
import Derived.Deep.Slices
import Derived.Deep.CondSized
import Derived.Test.YtbnfnpakibkboaaGreatProg
import Derived.Test.YtbnfnpakibkboaaGreatKC
namespace Go.Proofs.YtbnfnpakibkboaaGreat
set_option linter.unusedVariables false
set_option linter.unusedSimpArgs false
open Go.ChangeShapes Go.WideShapes Go.ChangeAt Go.RowKit Go.Deep

section
variable {H : Type} {enc : TypeId × Value → H} {P : Program} {w : World}
/-- all that it holds is within the form's reach -/
def InReach (P : Program) (t : TypeId) (d : DataW H) : Prop := ∀ n ∈ d.weights P t, n ≤ reachBytes
theorem reach_is : reachBytes = 140737488351232 := rfl
theorem weightsAll_in {e : TypeId} : ∀ {l : List (DataW H)} {d : DataW H}, d ∈ l → ∀ n ∈ d.weights P e, n ∈ DataW.weightsAll P e l
  | d' :: r, d, hd, n, hn => by
    simp only [DataW.weightsAll, List.mem_append]
    rcases List.mem_cons.1 hd with rfl | h
    · exact Or.inl hn
    · exact Or.inr (weightsAll_in h n hn)
theorem list_of {α : Type} {p : Nat → α → Prop} : ∀ n : Nat, (∀ i, i < n → ∃ x, p i x) → ∃ l : List α, l.length = n ∧ ∀ i x, l[i]? = some x → p i x := by
  intro n
  induction n with
  | zero => exact fun _ => ⟨[], rfl, fun i x h => by simp at h⟩
  | succ n ih =>
    intro h
    obtain ⟨l, hl, hp⟩ := ih fun i hi => h i (by omega)
    obtain ⟨x, hx⟩ := h n (by omega)
    refine ⟨l ++ [x], by simp [hl], fun i y hy => ?_⟩
    by_cases hi : i < l.length
    · rw [List.getElem?_append_left hi] at hy; exact hp i y hy
    · rw [List.getElem?_append_right (by omega)] at hy
      have hi2 : i - l.length = 0 := by
        rcases Nat.eq_zero_or_pos (i - l.length) with h | h
        · exact h
        · rw [List.getElem?_eq_none (by simp; omega)] at hy; cases hy
      rw [hi2] at hy
      obtain rfl : x = y := by simpa using hy
      rw [show i = n by omega]; exact hx
theorem read_slice {α : Type} {C : α → List Value → Prop} {t e : TypeId} {fuel size : Nat} {cs : List Value} {x : DataW H × List MemPlace} (ht : P.underlying t = some (.slice e)) (hc : P.cellsOf e = size) (hz : 0 < size) (hb1 : 1 ≤ P.bytesOf e)
    (h : DataW.trod enc P w 0 (fun _ => true) true fuel t cs = some x) (hl : InReach P t x.1)
    (hel : ∀ n cs' y, DataW.trod enc P w 0 (fun _ => true) true n e cs' = some y → InReach P e y.1 → ∃ z : α, C z cs') :
    ∃ (A : Option Addr) (l : List α) (c : Nat), cs = [.slice A l.length c] ∧ Sl w w.heap.size size C A l ∧ l.length ≤ c ∧ c ≤ 140737488351232 := by
  rcases open_slice ht h with ⟨rfl, rfl⟩ | ⟨a, len, cap, m, n, D, Pl, rfl, hb, hlc, hm, hmm, rfl, hx⟩
  · exact ⟨none, [], 0, rfl, Sl.nil, by simp, by omega⟩
  · have hmm' : m = cap := by simpa using hmm
    subst hmm'
    have hcap : m * P.bytesOf e ≤ reachBytes := by
      have := hl ((((List.range len).map D).length + ((List.range (m - len)).map fun j => D (len + j)).length) * P.bytesOf e) (by simp only [DataW.weights, ht]; exact List.mem_cons_self)
      simp only [List.length_map, List.length_range] at this
      rwa [show len + (m - len) = m by omega] at this
    have hcap2 : m ≤ reachBytes := Nat.le_trans (Nat.le_mul_of_pos_right m hb1) hcap
    obtain ⟨l, hll, hp⟩ := list_of (α := α) (p := fun i z => ∃ cs', w.cells? 0 (a.add (i * size)) size = some cs' ∧ C z cs') len fun i hi => by
      obtain ⟨cs', h1, h2⟩ := hx i (by omega)
      rw [hc] at h1
      obtain ⟨z, hz⟩ := hel n cs' _ h2 fun k hk => hl k (by
        simp only [DataW.weights, ht, List.mem_cons, List.mem_append]
        exact .inr (.inl (weightsAll_in (List.mem_map.2 ⟨i, List.mem_range.2 hi, rfl⟩) k hk)))
      exact ⟨z, cs', h1, hz⟩
    refine ⟨some a, l, m, by rw [hll], ?_, by omega, by rw [← reach_is]; exact hcap2⟩
    intro hne
    have h0 : 0 < l.length := List.length_pos_iff.2 hne
    obtain ⟨cs0, k1, _⟩ := hp 0 l[0] (List.getElem?_eq_getElem h0)
    obtain ⟨_, k2, k3⟩ := World.cells?_some k1
    have k4 := k3 0 hz
    rw [List.getElem?_eq_getElem (by omega)] at k4
    have k5 := World.cell?_spot k4
    have k6 := World.block_lt_of_cell? _ _ k4
    obtain ⟨b, off, sp⟩ := a
    have hsp : sp = none := by simpa [Addr.add] using k5
    subst hsp
    refine ⟨b, off, rfl, by simpa [Addr.add] using k6, fun i x hx => ?_⟩
    obtain ⟨cs', q1, q2⟩ := hp i x hx
    obtain ⟨_, q3, q4⟩ := World.cells?_some q1
    refine ⟨cs', q2, fun j u hu => ?_⟩
    have hj : j < size := by have := (List.getElem?_eq_some_iff.1 hu).1; omega
    have := q4 j hj
    rw [add_lit, add_lit, hu] at this
    exact this
theorem read_field {fs : Array Field} {t : TypeId} {fuel : Nat} {cs : List Value} {x : DataW H × List MemPlace} (ht : P.underlying t = some (.struct fs)) (h : DataW.trod enc P w 0 (fun _ => true) true fuel t cs = some x) (hl : InReach P t x.1) (i : Nat) {f : Field} (hf : fs[i]? = some f) :
    ∃ n y, DataW.trod enc P w 0 (fun _ => true) true n f.type ((cs.drop f.offset).take (P.cellsOf f.type)) = some y ∧ InReach P f.type y.1 := by
  obtain ⟨xs, n, _, rfl, hlen, hxl, hx⟩ := DataW.trod_struct ht h
  have h1 := hx i f hf
  have hi : i < xs.length := by rw [hxl]; exact (Array.getElem?_eq_some_iff.1 hf).1
  rw [List.getElem?_eq_getElem hi] at h1
  refine ⟨n, xs[i], h1, fun k hk => hl k ?_⟩
  simp only [DataW.weights, ht]
  exact DataW.weights_mem_each (j := i) (t := f.type) (d := xs[i].1) (by simp [hf]) (by simp [hi]) k hk
theorem read_at {fs : Array Field} {t : TypeId} {fuel : Nat} {cs : List Value} {x : DataW H × List MemPlace} (ht : P.underlying t = some (.struct fs)) (h : DataW.trod enc P w 0 (fun _ => true) true fuel t cs = some x) (hl : InReach P t x.1) (i : Nat) {e : TypeId} {off k : Nat}
    (hf : (fs[i]?).map (fun f => (f.type, f.offset)) = some (e, off)) (hc : P.cellsOf e = k) :
    ∃ n y, DataW.trod enc P w 0 (fun _ => true) true n e ((cs.drop off).take k) = some y ∧ InReach P e y.1 := by
  obtain ⟨f, hf1, hf2⟩ := Option.map_eq_some_iff.1 hf
  obtain ⟨rfl, rfl⟩ := Prod.mk.inj hf2
  subst hc
  exact read_field ht h hl i hf1
theorem read_len {fs : Array Field} {t : TypeId} {fuel : Nat} {cs : List Value} {x : DataW H × List MemPlace} (ht : P.underlying t = some (.struct fs)) (h : DataW.trod enc P w 0 (fun _ => true) true fuel t cs = some x) : cs.length = P.cellsOf t := by
  obtain ⟨xs, n, _, rfl, hlen, hxl, hx⟩ := DataW.trod_struct ht h
  exact hlen
end
end Go.Proofs.YtbnfnpakibkboaaGreat
/- What the form reads as a plan is a plan in memory. -/
namespace Go.Proofs.YtbnfnpakibkboaaGreat
open Go.ChangeShapes Go.WideShapes Go.ChangeAt Go.RowKit Go.Deep

end Go.Proofs.YtbnfnpakibkboaaGreat

namespace Go.Proofs.YtbnfnpakibkboaaGreat
set_option linter.unusedVariables false
set_option linter.unusedSimpArgs false
open Go.ChangeShapes Go.WideShapes Go.ChangeAt Go.RowKit Go.Deep
theorem Tryz.c3 : Tryz.prog.cellsOf 3 = 1 := by kernel_rfl
theorem Tryz.c4 : Tryz.prog.cellsOf 4 = 1 := by kernel_rfl
theorem Tryz.c22 : Tryz.prog.cellsOf 22 = 1 := by kernel_rfl
theorem Tryz.c23 : Tryz.prog.cellsOf 23 = 1 := by kernel_rfl
theorem Tryz.c26 : Tryz.prog.cellsOf 26 = 1 := by kernel_rfl
theorem Tryz.c25 : Tryz.prog.cellsOf 25 = 4 := by kernel_rfl
theorem Tryz.c28 : Tryz.prog.cellsOf 28 = 2 := by kernel_rfl
theorem Tryz.c58 : Tryz.prog.cellsOf 58 = 4 := by kernel_rfl
theorem Tryz.c60 : Tryz.prog.cellsOf 60 = 4 := by kernel_rfl
theorem Tryz.b4 : 1 ≤ Tryz.prog.bytesOf 4 := by rw [show Tryz.prog.bytesOf 4 = 1 by kernel_rfl]; omega
theorem Tryz.b58 : 1 ≤ Tryz.prog.bytesOf 58 := by rw [show Tryz.prog.bytesOf 58 = 32 by kernel_rfl]; omega
theorem Tryz.b60 : 1 ≤ Tryz.prog.bytesOf 60 := by rw [show Tryz.prog.bytesOf 60 = 32 by kernel_rfl]; omega
section
variable {H : Type} {enc : TypeId × Value → H} {w : World} {fuel : Nat} {cs : List Value} {x : DataW H × List MemPlace}
set_option maxRecDepth 100000 in
theorem read_W (h : DataW.trod enc Tryz.prog w 0 (fun _ => true) true fuel 60 cs = some x) (hl : InReach Tryz.prog 60 x.1) : ∃ z : Wv, CW z cs := by
  have hn := read_len Tryz.underlying60 h
  rw [Tryz.c60] at hn
  obtain ⟨n0, y0, h0, _⟩ := read_at Tryz.underlying60 h hl 0 rfl Tryz.c3
  obtain ⟨n1, y1, h1, _⟩ := read_at Tryz.underlying60 h hl 1 rfl Tryz.c3
  obtain ⟨n2, y2, h2, _⟩ := read_at Tryz.underlying60 h hl 2 rfl Tryz.c3
  obtain ⟨n3, y3, h3, _⟩ := read_at Tryz.underlying60 h hl 3 rfl Tryz.c4
  obtain ⟨a, ha, _, _⟩ := DataW.trod_int Tryz.underlying3 h0
  obtain ⟨b, hb, _, _⟩ := DataW.trod_int Tryz.underlying3 h1
  obtain ⟨c, hc, _, _⟩ := DataW.trod_int Tryz.underlying3 h2
  obtain ⟨d, hd, _⟩ := DataW.trod_bool Tryz.underlying4 h3
  match cs, hn with
  | [u0, u1, u2, u3], _ =>
    simp at ha hb hc hd
    subst ha; subst hb; subst hc; subst hd
    exact ⟨⟨a, b, c, d⟩, rfl⟩
set_option maxRecDepth 100000 in
theorem read_F (h : DataW.trod enc Tryz.prog w 0 (fun _ => true) true fuel 58 cs = some x) (hl : InReach Tryz.prog 58 x.1) : ∃ z : Fv, CF z cs := by
  have hn := read_len Tryz.underlying58 h
  rw [Tryz.c58] at hn
  obtain ⟨n0, y0, h0, _⟩ := read_at Tryz.underlying58 h hl 0 rfl Tryz.c3
  obtain ⟨n1, y1, h1, _⟩ := read_at Tryz.underlying58 h hl 1 rfl Tryz.c3
  obtain ⟨n2, y2, h2, _⟩ := read_at Tryz.underlying58 h hl 2 rfl Tryz.c3
  obtain ⟨n3, y3, h3, _⟩ := read_at Tryz.underlying58 h hl 3 rfl Tryz.c3
  obtain ⟨a, ha, _, _⟩ := DataW.trod_int Tryz.underlying3 h0
  obtain ⟨b, hb, _, _⟩ := DataW.trod_int Tryz.underlying3 h1
  obtain ⟨c, hc, _, _⟩ := DataW.trod_int Tryz.underlying3 h2
  obtain ⟨d, hd, _, _⟩ := DataW.trod_int Tryz.underlying3 h3
  match cs, hn with
  | [u0, u1, u2, u3], _ =>
    simp at ha hb hc hd
    subst ha; subst hb; subst hc; subst hd
    exact ⟨⟨a, b, c, d⟩, rfl⟩
theorem read_Bs (h : DataW.trod enc Tryz.prog w 0 (fun _ => true) true fuel 26 cs = some x) (hl : InReach Tryz.prog 26 x.1) :
    ∃ (A : Option Addr) (l : List Bool) (c : Nat), cs = [.slice A l.length c] ∧ Sl w w.heap.size 1 CB A l ∧ l.length ≤ c ∧ c ≤ 140737488351232 :=
  read_slice (C := CB) Tryz.underlying26 Tryz.c4 (by omega) Tryz.b4 h hl fun n cs' y h hl => by
    obtain ⟨a, rfl, _⟩ := DataW.trod_bool Tryz.underlying4 h
    exact ⟨a, rfl⟩
set_option maxRecDepth 100000 in
theorem read_Sv (h : DataW.trod enc Tryz.prog w 0 (fun _ => true) true fuel 28 cs = some x) (hl : InReach Tryz.prog 28 x.1) :
    ∃ (s : Sv) (A : Option Addr) (c : Nat) (A2 : Option Addr) (c2 : Nat), cs = [.slice A s.feeds.length c, .slice A2 s.wires.length c2] ∧ Sl w w.heap.size 1 CB A s.feeds ∧ Sl w w.heap.size 1 CB A2 s.wires := by
  have hn := read_len Tryz.underlying28 h
  rw [Tryz.c28] at hn
  obtain ⟨n0, y0, h0, l0⟩ := read_at Tryz.underlying28 h hl 0 rfl Tryz.c26
  obtain ⟨n1, y1, h1, l1⟩ := read_at Tryz.underlying28 h hl 1 rfl Tryz.c26
  obtain ⟨A, l, c, hA, hS, _, _⟩ := read_Bs h0 l0
  obtain ⟨A2, l2, c2, hA2, hS2, _, _⟩ := read_Bs h1 l1
  match cs, hn with
  | [u0, u1], _ =>
    simp at hA hA2
    subst hA; subst hA2
    exact ⟨⟨l, l2⟩, A, c, A2, c2, rfl, hS, hS2⟩
set_option maxRecDepth 100000 in
theorem read_Gr (h : DataW.trod enc Tryz.prog w 0 (fun _ => true) true fuel 25 cs = some x) (hl : InReach Tryz.prog 25 x.1) :
    ∃ (g : Gv) (A : Option Addr) (c : Nat) (A2 : Option Addr) (c2 : Nat), cs = [.int .i64 g.nodes, .slice A g.wires.length c, .slice A2 g.feeds.length c2, .int .i64 g.least] ∧ Sl w w.heap.size 4 CW A g.wires ∧ Sl w w.heap.size 4 CF A2 g.feeds := by
  have hn := read_len Tryz.underlying25 h
  rw [Tryz.c25] at hn
  obtain ⟨n0, y0, h0, l0⟩ := read_at Tryz.underlying25 h hl 0 rfl Tryz.c3
  obtain ⟨n1, y1, h1, l1⟩ := read_at Tryz.underlying25 h hl 1 rfl Tryz.c22
  obtain ⟨n2, y2, h2, l2⟩ := read_at Tryz.underlying25 h hl 2 rfl Tryz.c23
  obtain ⟨n3, y3, h3, l3⟩ := read_at Tryz.underlying25 h hl 3 rfl Tryz.c3
  obtain ⟨a, ha, _, _⟩ := DataW.trod_int Tryz.underlying3 h0
  obtain ⟨A, l, c, hA, hS, _, _⟩ := read_slice (C := CW) Tryz.underlying22 Tryz.c60 (by omega) Tryz.b60 h1 l1 fun n cs' y h hl => read_W h hl
  obtain ⟨A2, l2', c2, hA2, hS2, _, _⟩ := read_slice (C := CF) Tryz.underlying23 Tryz.c58 (by omega) Tryz.b58 h2 l2 fun n cs' y h hl => read_F h hl
  obtain ⟨d, hd, _, _⟩ := DataW.trod_int Tryz.underlying3 h3
  match cs, hn with
  | [u0, u1, u2, u3], _ =>
    simp at ha hA hA2 hd
    subst ha; subst hA; subst hA2; subst hd
    exact ⟨⟨a, l, l2', d⟩, A, c, A2, c2, rfl, hS, hS2⟩
end
end Go.Proofs.YtbnfnpakibkboaaGreat
