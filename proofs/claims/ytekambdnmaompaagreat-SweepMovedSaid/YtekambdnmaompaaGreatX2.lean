/- What the form reads as a slice, and as a struct: as lists in memory. -/
import Derived.Test.YtekambdnmaompaaGreatOwn
import Derived.Deep.Slices
import Derived.Deep.CondSized
import Derived.Test.YtekambdnmaompaaGreatProg
namespace Go.Proofs.YtekambdnmaompaaGreat
set_option linter.unusedVariables false
set_option linter.unusedSimpArgs false
open Go.ChangeShapes Go.WideShapes Go.ChangeAt Go.RowKit Go.Deep

section
variable {H : Type} {enc : TypeId × Value → H} {P : Program} {w : World}
/-- all that it holds is within the form's reach -/
def InReach (P : Program) (t : TypeId) (d : DataW H) : Prop := ∀ n ∈ d.weights P t, n ≤ reachBytes
theorem reach_is : reachBytes = 140737488351232 := rfl
theorem weightsAll_in {e : TypeId} : ∀ {l : List (DataW H)} {d : DataW H}, d ∈ l → ∀ n ∈ d.weights P e, n ∈ DataW.weightsAll P e l
  | d' :: r, d, hd, n, hn => by
    simp only [DataW.weightsAll, List.mem_append]
    rcases List.mem_cons.1 hd with rfl | h
    · exact Or.inl hn
    · exact Or.inr (weightsAll_in h n hn)
theorem list_of {α : Type} {p : Nat → α → Prop} : ∀ n : Nat, (∀ i, i < n → ∃ x, p i x) → ∃ l : List α, l.length = n ∧ ∀ i x, l[i]? = some x → p i x := by
  intro n
  induction n with
  | zero => exact fun _ => ⟨[], rfl, fun i x h => by simp at h⟩
  | succ n ih =>
    intro h
    obtain ⟨l, hl, hp⟩ := ih fun i hi => h i (by omega)
    obtain ⟨x, hx⟩ := h n (by omega)
    refine ⟨l ++ [x], by simp [hl], fun i y hy => ?_⟩
    by_cases hi : i < l.length
    · rw [List.getElem?_append_left hi] at hy; exact hp i y hy
    · rw [List.getElem?_append_right (by omega)] at hy
      have hi2 : i - l.length = 0 := by
        rcases Nat.eq_zero_or_pos (i - l.length) with h | h
        · exact h
        · rw [List.getElem?_eq_none (by simp; omega)] at hy; cases hy
      rw [hi2] at hy
      obtain rfl : x = y := by simpa using hy
      rw [show i = n by omega]; exact hx
theorem read_slice {α : Type} {C : α → List Value → Prop} {t e : TypeId} {fuel size : Nat} {cs : List Value} {x : DataW H × List MemPlace} (ht : P.underlying t = some (.slice e)) (hc : P.cellsOf e = size) (hz : 0 < size) (hb1 : 1 ≤ P.bytesOf e)
    (h : DataW.trod enc P w 0 (fun _ => true) true fuel t cs = some x) (hl : InReach P t x.1)
    (hel : ∀ n cs' y, DataW.trod enc P w 0 (fun _ => true) true n e cs' = some y → InReach P e y.1 → ∃ z : α, C z cs') :
    ∃ (A : Option Addr) (l : List α) (c : Nat), cs = [.slice A l.length c] ∧ Sl w w.heap.size size C A l ∧ l.length ≤ c ∧ c ≤ 9223372036854775807 := by
  rcases open_slice ht h with ⟨rfl, rfl⟩ | ⟨a, len, cap, m, n, D, Pl, rfl, hb, hlc, hm, hmm, rfl, hx⟩
  · exact ⟨none, [], 0, rfl, Sl.nil, by simp, by omega⟩
  · have hmm' : m = cap := by simpa using hmm
    subst hmm'
    have hcap : m * P.bytesOf e ≤ reachBytes := by
      have := hl ((((List.range len).map D).length + ((List.range (m - len)).map fun j => D (len + j)).length) * P.bytesOf e) (by simp only [DataW.weights, ht]; exact List.mem_cons_self)
      simp only [List.length_map, List.length_range] at this
      rwa [show len + (m - len) = m by omega] at this
    have hcap2 : m ≤ reachBytes := Nat.le_trans (Nat.le_mul_of_pos_right m hb1) hcap
    obtain ⟨l, hll, hp⟩ := list_of (α := α) (p := fun i z => ∃ cs', w.cells? 0 (a.add (i * size)) size = some cs' ∧ C z cs') len fun i hi => by
      obtain ⟨cs', h1, h2⟩ := hx i (by omega)
      rw [hc] at h1
      obtain ⟨z, hz⟩ := hel n cs' _ h2 fun k hk => hl k (by
        simp only [DataW.weights, ht, List.mem_cons, List.mem_append]
        exact .inr (.inl (weightsAll_in (List.mem_map.2 ⟨i, List.mem_range.2 hi, rfl⟩) k hk)))
      exact ⟨z, cs', h1, hz⟩
    refine ⟨some a, l, m, by rw [hll], ?_, by omega, by rw [reach_is] at hcap2; omega⟩
    intro hne
    have h0 : 0 < l.length := List.length_pos_iff.2 hne
    obtain ⟨cs0, k1, _⟩ := hp 0 l[0] (List.getElem?_eq_getElem h0)
    obtain ⟨_, k2, k3⟩ := World.cells?_some k1
    have k4 := k3 0 hz
    rw [List.getElem?_eq_getElem (by omega)] at k4
    have k5 := World.cell?_spot k4
    have k6 := World.block_lt_of_cell? _ _ k4
    obtain ⟨b, off, sp⟩ := a
    have hsp : sp = none := by simpa [Addr.add] using k5
    subst hsp
    refine ⟨b, off, rfl, by simpa [Addr.add] using k6, fun i x hx => ?_⟩
    obtain ⟨cs', q1, q2⟩ := hp i x hx
    obtain ⟨_, q3, q4⟩ := World.cells?_some q1
    refine ⟨cs', q2, fun j u hu => ?_⟩
    have hj : j < size := by have := (List.getElem?_eq_some_iff.1 hu).1; omega
    have := q4 j hj
    rw [add_lit, add_lit, hu] at this
    exact this
theorem read_field {fs : Array Field} {t : TypeId} {fuel : Nat} {cs : List Value} {x : DataW H × List MemPlace} (ht : P.underlying t = some (.struct fs)) (h : DataW.trod enc P w 0 (fun _ => true) true fuel t cs = some x) (hl : InReach P t x.1) (i : Nat) {f : Field} (hf : fs[i]? = some f) :
    ∃ n y, DataW.trod enc P w 0 (fun _ => true) true n f.type ((cs.drop f.offset).take (P.cellsOf f.type)) = some y ∧ InReach P f.type y.1 := by
  obtain ⟨xs, n, _, rfl, hlen, hxl, hx⟩ := DataW.trod_struct ht h
  have h1 := hx i f hf
  have hi : i < xs.length := by rw [hxl]; exact (Array.getElem?_eq_some_iff.1 hf).1
  rw [List.getElem?_eq_getElem hi] at h1
  refine ⟨n, xs[i], h1, fun k hk => hl k ?_⟩
  simp only [DataW.weights, ht]
  exact DataW.weights_mem_each (j := i) (t := f.type) (d := xs[i].1) (by simp [hf]) (by simp [hi]) k hk
theorem read_at {fs : Array Field} {t : TypeId} {fuel : Nat} {cs : List Value} {x : DataW H × List MemPlace} (ht : P.underlying t = some (.struct fs)) (h : DataW.trod enc P w 0 (fun _ => true) true fuel t cs = some x) (hl : InReach P t x.1) (i : Nat) {e : TypeId} {off k : Nat}
    (hf : (fs[i]?).map (fun f => (f.type, f.offset)) = some (e, off)) (hc : P.cellsOf e = k) :
    ∃ n y, DataW.trod enc P w 0 (fun _ => true) true n e ((cs.drop off).take k) = some y ∧ InReach P e y.1 := by
  obtain ⟨f, hf1, hf2⟩ := Option.map_eq_some_iff.1 hf
  obtain ⟨rfl, rfl⟩ := Prod.mk.inj hf2
  subst hc
  exact read_field ht h hl i hf1
theorem read_len {fs : Array Field} {t : TypeId} {fuel : Nat} {cs : List Value} {x : DataW H × List MemPlace} (ht : P.underlying t = some (.struct fs)) (h : DataW.trod enc P w 0 (fun _ => true) true fuel t cs = some x) : cs.length = P.cellsOf t := by
  obtain ⟨xs, n, _, rfl, hlen, hxl, hx⟩ := DataW.trod_struct ht h
  exact hlen
end
end Go.Proofs.YtekambdnmaompaaGreat
/- What the form reads as a plan is a plan in memory. -/
namespace Go.Proofs.YtekambdnmaompaaGreat
open Go.ChangeShapes Go.WideShapes Go.ChangeAt Go.RowKit Go.Deep

theorem Tryz.c3 : Tryz.prog.cellsOf 3 = 1 := by kernel_rfl
theorem Tryz.c4 : Tryz.prog.cellsOf 4 = 1 := by kernel_rfl
theorem Tryz.c22 : Tryz.prog.cellsOf 22 = 1 := by kernel_rfl
theorem Tryz.c23 : Tryz.prog.cellsOf 23 = 1 := by kernel_rfl
theorem Tryz.c25 : Tryz.prog.cellsOf 25 = 2 := by kernel_rfl
theorem Tryz.c61 : Tryz.prog.cellsOf 61 = 1 := by kernel_rfl
theorem Tryz.c63 : Tryz.prog.cellsOf 63 = 5 := by kernel_rfl
theorem Tryz.c82 : Tryz.prog.cellsOf 82 = 2 := by kernel_rfl
theorem Tryz.c84 : Tryz.prog.cellsOf 84 = 1 := by kernel_rfl
theorem Tryz.c85 : Tryz.prog.cellsOf 85 = 1 := by kernel_rfl
theorem Tryz.c87 : Tryz.prog.cellsOf 87 = 5 := by kernel_rfl
theorem Tryz.c107 : Tryz.prog.cellsOf 107 = 2 := by kernel_rfl
theorem Tryz.b63 : 1 ≤ Tryz.prog.bytesOf 63 := by rw [show Tryz.prog.bytesOf 63 = 56 by kernel_rfl]; omega
theorem Tryz.b82 : 1 ≤ Tryz.prog.bytesOf 82 := by rw [show Tryz.prog.bytesOf 82 = 16 by kernel_rfl]; omega
theorem Tryz.b87 : 1 ≤ Tryz.prog.bytesOf 87 := by rw [show Tryz.prog.bytesOf 87 = 56 by kernel_rfl]; omega
theorem Tryz.b107 : 1 ≤ Tryz.prog.bytesOf 107 := by rw [show Tryz.prog.bytesOf 107 = 16 by kernel_rfl]; omega

section
variable {H : Type} {enc : TypeId × Value → H} {w : World} {fuel : Nat} {cs : List Value} {x : DataW H × List MemPlace}
set_option maxRecDepth 100000 in
theorem read_E (h : DataW.trod enc Tryz.prog w 0 (fun _ => true) true fuel 107 cs = some x) (hl : InReach Tryz.prog 107 x.1) : ∃ z : E, CE z cs := by
  have hn := read_len Tryz.underlying107 h
  rw [Tryz.c107] at hn
  obtain ⟨n1, y1, h1, _⟩ := read_at Tryz.underlying107 h hl 0 rfl Tryz.c3
  obtain ⟨n2, y2, h2, _⟩ := read_at Tryz.underlying107 h hl 1 rfl Tryz.c4
  obtain ⟨a, ha, _, _⟩ := DataW.trod_int Tryz.underlying3 h1
  obtain ⟨b, hb, _⟩ := DataW.trod_bool Tryz.underlying4 h2
  match cs, hn with
  | [u, v], _ =>
    simp at ha hb
    subst ha; subst hb
    exact ⟨⟨a, b⟩, rfl⟩
set_option maxRecDepth 100000 in
theorem read_S (h : DataW.trod enc Tryz.prog w 0 (fun _ => true) true fuel 82 cs = some x) (hl : InReach Tryz.prog 82 x.1) : ∃ z : S, CS z cs := by
  have hn := read_len Tryz.underlying82 h
  obtain ⟨n1, y1, h1, _⟩ := read_at Tryz.underlying82 h hl 0 rfl Tryz.c3
  obtain ⟨n2, y2, h2, _⟩ := read_at Tryz.underlying82 h hl 1 rfl Tryz.c3
  obtain ⟨a, ha, _, _⟩ := DataW.trod_int Tryz.underlying3 h1
  obtain ⟨b, hb, _, _⟩ := DataW.trod_int Tryz.underlying3 h2
  match cs, hn with
  | [u, v], _ =>
    simp at ha hb
    subst ha; subst hb
    exact ⟨⟨a, b⟩, rfl⟩
set_option maxRecDepth 100000 in
theorem read_N (h : DataW.trod enc Tryz.prog w 0 (fun _ => true) true fuel 87 cs = some x) (hl : InReach Tryz.prog 87 x.1) : ∃ z : N, CN w w.heap.size z cs := by
  have hn := read_len Tryz.underlying87 h
  rw [Tryz.c87] at hn
  obtain ⟨n1, y1, h1, l1⟩ := read_at Tryz.underlying87 h hl 0 rfl Tryz.c82
  obtain ⟨n2, y2, h2, _⟩ := read_at Tryz.underlying87 h hl 1 rfl Tryz.c84
  obtain ⟨n3, y3, h3, l3⟩ := read_at Tryz.underlying87 h hl 2 rfl Tryz.c85
  obtain ⟨n4, y4, h4, _⟩ := read_at Tryz.underlying87 h hl 3 rfl Tryz.c3
  obtain ⟨s, hs⟩ := read_S h1 l1
  obtain ⟨a, ha, _, _⟩ := DataW.trod_int Tryz.underlying84 h2
  obtain ⟨A, l, c, hA, hS, hlc, hcm⟩ := read_slice (C := CE) Tryz.underlying85 Tryz.c107 (by omega) Tryz.b107 h3 l3 fun n cs' y h hl => read_E h hl
  obtain ⟨b, hb, _, _⟩ := DataW.trod_int Tryz.underlying3 h4
  unfold CS at hs
  match cs, hn with
  | [u0, u1, u2, u3, u4], _ =>
    simp at hs ha hA hb
    obtain ⟨rfl, rfl⟩ := hs
    subst ha; subst hA; subst hb
    exact ⟨⟨s, a, l, b⟩, A, c, rfl, hS, hlc, hcm⟩
set_option maxRecDepth 100000 in
theorem read_R (h : DataW.trod enc Tryz.prog w 0 (fun _ => true) true fuel 63 cs = some x) (hl : InReach Tryz.prog 63 x.1) : ∃ z : R, CR w w.heap.size z cs := by
  have hn := read_len Tryz.underlying63 h
  rw [Tryz.c63] at hn
  obtain ⟨n1, y1, h1, _⟩ := read_at Tryz.underlying63 h hl 0 rfl Tryz.c3
  obtain ⟨n2, y2, h2, _⟩ := read_at Tryz.underlying63 h hl 1 rfl Tryz.c3
  obtain ⟨n3, y3, h3, l3⟩ := read_at Tryz.underlying63 h hl 2 rfl Tryz.c61
  obtain ⟨n4, y4, h4, _⟩ := read_at Tryz.underlying63 h hl 3 rfl Tryz.c3
  obtain ⟨n5, y5, h5, _⟩ := read_at Tryz.underlying63 h hl 4 rfl Tryz.c3
  obtain ⟨a, ha, _, _⟩ := DataW.trod_int Tryz.underlying3 h1
  obtain ⟨b, hb, _, _⟩ := DataW.trod_int Tryz.underlying3 h2
  obtain ⟨A, l, c, hA, hS, hlc, hcm⟩ := read_slice (C := CS) Tryz.underlying61 Tryz.c82 (by omega) Tryz.b82 h3 l3 fun n cs' y h hl => read_S h hl
  obtain ⟨d, hd, _, _⟩ := DataW.trod_int Tryz.underlying3 h4
  obtain ⟨e, he, _, _⟩ := DataW.trod_int Tryz.underlying3 h5
  match cs, hn with
  | [u0, u1, u2, u3, u4], _ =>
    simp at ha hb hA hd he
    subst ha; subst hb; subst hA; subst hd; subst he
    exact ⟨⟨a, b, l, d, e⟩, A, c, rfl, hS, hlc, hcm⟩
set_option maxRecDepth 100000 in
theorem read_Pl (h : DataW.trod enc Tryz.prog w 0 (fun _ => true) true fuel 25 cs = some x) (hl : InReach Tryz.prog 25 x.1) :
    ∃ (p : Pl) (A : Option Addr) (c : Nat) (A2 : Option Addr) (c2 : Nat), cs = [.slice A p.nodes.length c, .slice A2 p.rails.length c2] ∧ PlAt w w.heap.size A c A2 c2 p := by
  have hn := read_len Tryz.underlying25 h
  rw [Tryz.c25] at hn
  obtain ⟨n1, y1, h1, l1⟩ := read_at Tryz.underlying25 h hl 0 rfl Tryz.c22
  obtain ⟨n2, y2, h2, l2⟩ := read_at Tryz.underlying25 h hl 1 rfl Tryz.c23
  obtain ⟨A, l, c, hA, hS, hlc, hcm⟩ := read_slice (C := CN w w.heap.size) Tryz.underlying22 Tryz.c87 (by omega) Tryz.b87 h1 l1 fun n cs' y h hl => read_N h hl
  obtain ⟨A2, l2', c2, hA2, hS2, hlc2, hcm2⟩ := read_slice (C := CR w w.heap.size) Tryz.underlying23 Tryz.c63 (by omega) Tryz.b63 h2 l2 fun n cs' y h hl => read_R h hl
  match cs, hn with
  | [u, v], _ =>
    simp at hA hA2
    subst hA; subst hA2
    exact ⟨⟨l, l2'⟩, A, c, A2, c2, rfl, hS, hlc, hcm, hS2, hlc2, hcm2⟩
end
end Go.Proofs.YtekambdnmaompaaGreat
