/- Texts C1 Ends. -/
import Derived.Test.YtekambdnmaompaaGreatOwn
import Derived.Test.YtekambdnmaompaaGreatA3
namespace Go.Proofs.YtekambdnmaompaaGreat
set_option linter.unusedVariables false
set_option linter.unusedSimpArgs false
open Go.RowKit

def endNo (e : E) : Int := if e.last then 2 * e.rail + 1 else 2 * e.rail
set_option maxHeartbeats 1000000 in
theorem endNumber_any (e : E) (w : World) (h0 : 0 ≤ e.rail) (h1 : e.rail ≤ 1000000) :
    Calls Tryz.prog 106 #[.agg #[.int .i64 e.rail, .bool e.last]] w fun r w' => r = .returned (.int .i64 (endNo e)) ∧ Below w.heap.size w w' := by
  obtain ⟨rl, l⟩ := e
  have g0 : 0 ≤ rl := h0
  have g1 : rl ≤ 1000000 := h1
  clear h0 h1
  cases l
  · go_enter Tryz.func106, Tryz.ntmps106
    go_wp2
    go_ret
    exact ⟨rfl, (Below.refl _ _).alloc (Nat.le_refl _) _⟩
  · go_enter Tryz.func106, Tryz.ntmps106
    go_wp2
    go_ret
    exact ⟨rfl, (Below.refl _ _).alloc (Nat.le_refl _) _⟩
theorem endsOf_any (k : Int) (w : World) (h1 : 1 ≤ k) (h2 : k ≤ 6) :
    Calls Tryz.prog 129 #[.int .i64 k] w fun e w' => e = .returned (.int .i64 (endsZ k)) ∧ Below w.heap.size w w' := by
  rcases (show k = 1 ∨ k = 2 ∨ k = 3 ∨ k = 4 ∨ k = 5 ∨ k = 6 by omega) with h | h | h | h | h | h
  all_goals
    subst h
    go_enter Tryz.func129, Tryz.ntmps129
    go_wp2
    go_ret
    exact ⟨rfl, (Below.refl _ _).alloc (Nat.le_refl _) _⟩

/-- the node at which an end is -/
def atZ (p : Pl) (e : E) : Int := if e.last then ((p.rails[e.rail.toNat]?).map (·.to)).getD 0 else ((p.rails[e.rail.toNat]?).map (·.frm)).getD 0
theorem atZ_eq {p : Pl} {e : E} {k : Nat} (h : e.rail = k) (hk : k < p.rails.length) : atZ p e = if e.last then p.rails[k].to else p.rails[k].frm := by
  unfold atZ; rw [h]; simp [hk]
set_option maxHeartbeats 1000000 in
theorem at_any (A A2 : Option Addr) (c c2 : Nat) (p : Pl) (e : E) (w : World) (hP : PlAt w w.heap.size A c A2 c2 p) (h0 : 0 ≤ e.rail) (h1 : e.rail < p.rails.length) :
    Calls Tryz.prog 57 #[.agg #[.slice A p.nodes.length c, .slice A2 p.rails.length c2], .agg #[.int .i64 e.rail, .bool e.last]] w fun r w' => r = .returned (.int .i64 (atZ p e)) ∧ Below w.heap.size w w' := by
  have hrc := hP.rc; have hrm := hP.rm
  obtain ⟨rl, l⟩ := e
  obtain ⟨k, rfl⟩ := Int.eq_ofNat_of_zero_le h0
  have hk : k < p.rails.length := by simpa using h1
  obtain ⟨b, off, A', c', rfl, hb, hE, hc1, hc2, k0, k1, k2, k3, k4⟩ := hP.rail hk
  have hb1 : b < w.heap.size + 1 := by omega
  have HE := Lib.hid (atZ_eq (p := p) (e := ⟨(k : Int), l⟩) rfl hk)
  clear hP h0 h1
  cases l
  · go_enter Tryz.func57, Tryz.ntmps57
    go_wp2
    go_ret
    exact ⟨by rw [HE.out]; rfl, ((Below.refl _ _).alloc (Nat.le_refl _) _).alloc (by simp) _⟩
  · go_enter Tryz.func57, Tryz.ntmps57
    go_wp2
    go_ret
    exact ⟨by rw [HE.out]; rfl, ((Below.refl _ _).alloc (Nat.le_refl _) _).alloc (by simp) _⟩
end Go.Proofs.YtekambdnmaompaaGreat

namespace Go.Proofs.YtekambdnmaompaaGreat
set_option linter.unusedVariables false
set_option linter.unusedSimpArgs false

def okE (p : Pl) (i : Nat) (e : E) : Prop := 0 ≤ e.rail ∧ e.rail < p.rails.length ∧ atZ p e = i
def flatE (p : Pl) : List E := p.nodes.flatMap (·.ends)
def okEnds (p : Pl) : Prop := (∀ i (hi : i < p.nodes.length), ∀ e ∈ p.nodes[i].ends, okE p i e) ∧ (flatE p).Nodup ∧ (flatE p).length = 2 * p.rails.length

def fillS (m2 : Nat) (q : List (E × Nat)) : List Int := q.foldl (fun s x => s.set (endNo x.1).toNat (x.2 : Int)) (List.replicate m2 (-1))
def allQ (p : Pl) : List (E × Nat) := p.nodes.flatMap fun nd => nd.ends.zipIdx
def slotsOf (p : Pl) : List Int := fillS (2 * p.rails.length) (allQ p)

theorem fillS_snoc (m2 : Nat) (q : List (E × Nat)) (x : E × Nat) : fillS m2 (q ++ [x]) = (fillS m2 q).set (endNo x.1).toNat (x.2 : Int) := by simp [fillS]
theorem fillS_len (m2 : Nat) (q : List (E × Nat)) : (fillS m2 q).length = m2 := by
  rcases List.eq_nil_or_concat q with rfl | ⟨r, x, rfl⟩
  · simp [fillS]
  · rw [List.concat_eq_append, fillS_snoc, List.length_set]; exact fillS_len m2 r
  termination_by q.length
theorem fillS_sign (m2 : Nat) (q : List (E × Nat)) (i : Nat) (hi : i < (fillS m2 q).length) : 0 ≤ (fillS m2 q)[i] ↔ ∃ x ∈ q, (endNo x.1).toNat = i := by
  rcases List.eq_nil_or_concat q with rfl | ⟨r, x, rfl⟩
  · simp [fillS]
  · simp only [List.concat_eq_append, fillS_snoc, List.getElem_set]
    have hl : i < (fillS m2 r).length := by rw [fillS_len] at hi ⊢; exact hi
    by_cases h : (endNo x.1).toNat = i
    · rw [if_pos h]
      exact ⟨fun _ => ⟨x, by simp, h⟩, fun _ => by omega⟩
    · rw [if_neg h, fillS_sign m2 r i hl]
      constructor
      · rintro ⟨y, hy, he⟩; exact ⟨y, by simp [hy], he⟩
      · rintro ⟨y, hy, he⟩
        rcases List.mem_append.1 hy with hy | hy
        · exact ⟨y, hy, he⟩
        · simp at hy; subst hy; exact absurd he h
  termination_by q.length

theorem endNo_inj {e e' : E} (h0 : 0 ≤ e.rail) (h0' : 0 ≤ e'.rail) (h : (endNo e).toNat = (endNo e').toNat) : e = e' := by
  obtain ⟨r, l⟩ := e
  obtain ⟨r', l'⟩ := e'
  simp only [endNo] at *
  cases l <;> cases l' <;> simp at * <;> omega
theorem endNo_bd {p : Pl} {i : Nat} {e : E} (h : okE p i e) : 0 ≤ endNo e ∧ endNo e < 2 * (p.rails.length : Int) := by
  obtain ⟨h1, h2, _⟩ := h
  unfold endNo
  split <;> omega
/-- the node of the end with a number -/
def nodeAtZ (p : Pl) (x : Int) : Int := if x % 2 = 1 then ((p.rails[(x / 2).toNat]?).map (·.to)).getD 0 else ((p.rails[(x / 2).toNat]?).map (·.frm)).getD 0
theorem nodeAtZ_end (p : Pl) (e : E) (h : 0 ≤ e.rail) : nodeAtZ p (endNo e) = atZ p e := by
  obtain ⟨r, l⟩ := e
  have h' : 0 ≤ r := h
  unfold nodeAtZ endNo atZ
  cases l
  · simp only [Bool.false_eq_true, if_false]
    rw [if_neg (by omega), show 2 * r / 2 = r by omega]
  · simp only [if_true]
    rw [if_pos (by omega), show (2 * r + 1) / 2 = r by omega]

/-- the ends that come before the end k of the node i -/
def befE (p : Pl) (i k : Nat) : List E := (p.nodes.take i).flatMap (·.ends) ++ (((p.nodes[i]?).map (·.ends)).getD []).take k
def befQ (p : Pl) (i k : Nat) : List (E × Nat) := (p.nodes.take i).flatMap (fun nd => nd.ends.zipIdx) ++ ((((p.nodes[i]?).map (·.ends)).getD []).zipIdx).take k
theorem befE_zero (p : Pl) : befE p 0 0 = [] := by simp [befE]
theorem befQ_zero (p : Pl) : befQ p 0 0 = [] := by simp [befQ]
theorem node_getD {α : Type} {p : Pl} {i : Nat} (hi : i < p.nodes.length) (f : N → List α) : ((p.nodes[i]?).map f).getD [] = f p.nodes[i] := by rw [List.getElem?_eq_getElem hi]; rfl
theorem befE_next {p : Pl} {i : Nat} (hi : i < p.nodes.length) : befE p i p.nodes[i].ends.length = befE p (i + 1) 0 := by
  unfold befE
  rw [node_getD hi, List.take_length, List.take_zero, List.append_nil, List.take_succ_eq_append_getElem hi, List.flatMap_append]
  simp
theorem befQ_next {p : Pl} {i : Nat} (hi : i < p.nodes.length) : befQ p i p.nodes[i].ends.length = befQ p (i + 1) 0 := by
  unfold befQ
  rw [node_getD hi (·.ends), List.take_of_length_le (l := p.nodes[i].ends.zipIdx) (by simp), List.take_zero, List.append_nil, List.take_succ_eq_append_getElem hi, List.flatMap_append]
  simp
theorem befE_succ {p : Pl} {i k : Nat} (hi : i < p.nodes.length) (hk : k < p.nodes[i].ends.length) : befE p i (k + 1) = befE p i k ++ [p.nodes[i].ends[k]] := by
  unfold befE
  rw [node_getD hi, List.take_succ_eq_append_getElem hk, List.append_assoc]
theorem befQ_succ {p : Pl} {i k : Nat} (hi : i < p.nodes.length) (hk : k < p.nodes[i].ends.length) : befQ p i (k + 1) = befQ p i k ++ [(p.nodes[i].ends[k], k)] := by
  unfold befQ
  rw [node_getD hi, List.take_succ_eq_append_getElem (by simpa using hk), List.append_assoc]
  simp
theorem befE_all (p : Pl) : befE p p.nodes.length 0 = flatE p := by simp [befE, flatE]
theorem befQ_all (p : Pl) : befQ p p.nodes.length 0 = allQ p := by simp [befQ, allQ]
theorem zip_fst (l : List E) : l.zipIdx.map (·.1) = l := by
  apply List.ext_getElem <;> simp
theorem befQ_fst (p : Pl) (i k : Nat) : (befQ p i k).map (·.1) = befE p i k := by
  simp only [befQ, befE, List.map_append, List.map_flatMap, List.map_take, zip_fst]
/-- what is behind it -/
theorem flatE_split {p : Pl} {i k : Nat} (hi : i < p.nodes.length) (hk : k < p.nodes[i].ends.length) : ∃ r, flatE p = befE p i k ++ p.nodes[i].ends[k] :: r := by
  refine ⟨p.nodes[i].ends.drop (k + 1) ++ (p.nodes.drop (i + 1)).flatMap (·.ends), ?_⟩
  have h1 : p.nodes = p.nodes.take i ++ p.nodes[i] :: p.nodes.drop (i + 1) := by
    rw [List.getElem_cons_drop hi, List.take_append_drop]
  have h2 : p.nodes[i].ends = p.nodes[i].ends.take k ++ p.nodes[i].ends[k] :: p.nodes[i].ends.drop (k + 1) := by
    rw [List.getElem_cons_drop hk, List.take_append_drop]
  unfold flatE
  conv => lhs; rw [h1]
  rw [List.flatMap_append, List.flatMap_cons]
  unfold befE
  rw [node_getD hi, List.append_assoc, ← List.cons_append, ← List.append_assoc (List.take k _), ← h2]

/-- so far all ends are as they have to be -/
structure OkTo (p : Pl) (i k : Nat) : Prop where
  old : ∀ j (hj : j < p.nodes.length), j < i → ∀ e ∈ p.nodes[j].ends, okE p j e
  cur : ∀ (hi : i < p.nodes.length) s (hs : s < p.nodes[i].ends.length), s < k → okE p i p.nodes[i].ends[s]
  nd : (befE p i k).Nodup
theorem OkTo.start (p : Pl) : OkTo p 0 0 := ⟨fun _ _ h => absurd h (by omega), fun _ _ _ h => absurd h (by omega), by rw [befE_zero]; exact List.nodup_nil⟩
theorem OkTo.mem {p : Pl} {i k : Nat} (h : OkTo p i k) {e : E} (he : e ∈ befE p i k) : ∃ j, okE p j e := by
  rcases List.mem_append.1 he with he | he
  · obtain ⟨nd, hnd, he⟩ := List.mem_flatMap.1 he
    obtain ⟨j, hj, rfl⟩ := List.getElem_of_mem hnd
    have hj' : j < i ∧ j < p.nodes.length := by simp at hj; omega
    rw [List.getElem_take] at he
    exact ⟨j, h.old j hj'.2 hj'.1 e he⟩
  · by_cases hi : i < p.nodes.length
    · rw [node_getD hi (·.ends)] at he
      obtain ⟨s, hs, rfl⟩ := List.getElem_of_mem he
      have hs' : s < k ∧ s < p.nodes[i].ends.length := by simp at hs; omega
      rw [List.getElem_take]
      exact ⟨i, h.cur hi s hs'.2 hs'.1⟩
    · rw [List.getElem?_eq_none (by omega)] at he
      simp at he
theorem OkTo.next {p : Pl} {i : Nat} (hi : i < p.nodes.length) (h : OkTo p i p.nodes[i].ends.length) : OkTo p (i + 1) 0 := by
  refine ⟨fun j hj hji e he => ?_, fun _ _ _ h => absurd h (by omega), by rw [← befE_next hi]; exact h.nd⟩
  by_cases e1 : j = i
  · subst e1
    obtain ⟨s, hs, rfl⟩ := List.getElem_of_mem he
    exact h.cur hj s hs hs
  · exact h.old j hj (by omega) e he
theorem OkTo.step {p : Pl} {i k : Nat} (hi : i < p.nodes.length) (hk : k < p.nodes[i].ends.length) (h : OkTo p i k) (h1 : okE p i p.nodes[i].ends[k]) (h2 : p.nodes[i].ends[k] ∉ befE p i k) : OkTo p i (k + 1) := by
  refine ⟨h.old, fun hi' s hs hsk => ?_, ?_⟩
  · by_cases e1 : s = k
    · subst e1; exact h1
    · exact h.cur hi' s hs (by omega)
  · rw [befE_succ hi hk]
    exact List.nodup_append.2 ⟨h.nd, by simp, fun a ha b hb e => by simp at hb; subst hb; subst e; exact h2 ha⟩
/-- what the slots say of an end -/
theorem slot_sign {p : Pl} {i k : Nat} (h : OkTo p i k) {e : E} (h0 : 0 ≤ e.rail) (m2 : Nat) (hl : (endNo e).toNat < (fillS m2 (befQ p i k)).length) :
    0 ≤ (fillS m2 (befQ p i k))[(endNo e).toNat] ↔ e ∈ befE p i k := by
  rw [fillS_sign, ← befQ_fst]
  constructor
  · rintro ⟨x, hx, he⟩
    have hm : x.1 ∈ (befQ p i k).map (·.1) := List.mem_map.2 ⟨x, hx, rfl⟩
    obtain ⟨j, hj⟩ := h.mem (by rw [← befQ_fst]; exact hm)
    rw [← endNo_inj hj.1 h0 he]; exact hm
  · intro hm
    obtain ⟨x, hx, he⟩ := List.mem_map.1 hm
    exact ⟨x, hx, by rw [he]⟩
theorem not_ok_bad {p : Pl} {i k : Nat} (hi : i < p.nodes.length) (hk : k < p.nodes[i].ends.length) (h : ¬ okE p i p.nodes[i].ends[k]) : ¬ okEnds p :=
  fun ho => h (ho.1 i hi _ (List.getElem_mem hk))
theorem not_ok_twice {p : Pl} {i k : Nat} (hi : i < p.nodes.length) (hk : k < p.nodes[i].ends.length) (h : p.nodes[i].ends[k] ∈ befE p i k) : ¬ okEnds p := by
  intro ho
  obtain ⟨r, hr⟩ := flatE_split hi hk
  have := ho.2.1
  rw [hr, List.nodup_append] at this
  exact this.2.2 _ h _ (by simp) rfl
theorem ok_all {p : Pl} (h : OkTo p p.nodes.length 0) : okEnds p ↔ (befE p p.nodes.length 0).length = 2 * p.rails.length := by
  rw [befE_all]
  have hn := h.nd
  rw [befE_all] at hn
  exact ⟨fun ho => ho.2.2, fun hl => ⟨fun i hi e he => h.old i hi hi e he, hn, hl⟩⟩
theorem befE_le {p : Pl} (h4 : ∀ j (hj : j < p.nodes.length), p.nodes[j].ends.length ≤ 4) (i k : Nat) : (befE p i k).length ≤ 4 * i + k := by
  have h1 : ∀ i, ((p.nodes.take i).flatMap (·.ends)).length ≤ 4 * i := by
    intro i
    induction i with
    | zero => simp
    | succ i ih =>
      by_cases hi : i < p.nodes.length
      · rw [List.take_succ_eq_append_getElem hi, List.flatMap_append, List.length_append]
        have := h4 i hi
        simp only [List.flatMap_cons, List.flatMap_nil, List.append_nil]
        omega
      · rw [List.take_of_length_le (by omega)]
        rw [List.take_of_length_le (by omega)] at ih
        omega
  unfold befE
  have := h1 i
  simp only [List.length_append, List.length_take]
  omega
end Go.Proofs.YtekambdnmaompaaGreat
