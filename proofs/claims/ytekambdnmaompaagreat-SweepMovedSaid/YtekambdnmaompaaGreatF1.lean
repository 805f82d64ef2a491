/- Two rows of slices of ints, each slice of the call's own and none sharing its block: what an append or a sort of one of them turns. -/
import Derived.Test.YtekambdnmaompaaGreatE1
namespace Go.Proofs.YtekambdnmaompaaGreat
set_option linter.unusedVariables false
set_option linter.unusedSimpArgs false
open Go.RowKit

def VRow (W : World) (b : Nat) (vs : List Value) : Prop := W.heap[b]? = some (.cells vs.toArray 115 (0, 0))
section
variable {W W' : World} {b : Nat} {vs : List Value}
theorem VRow.lt (h : VRow W b vs) : b < W.heap.size := (Array.getElem?_eq_some_iff.1 h).1
theorem VRow.cell (h : VRow W b vs) (i : Nat) : W.cell? ⟨b, i, none⟩ = vs[i]? := by
  rw [cell_of_row _ b i _ 115 (0, 0) h]; simp
theorem VRow.frozen (h : VRow W b vs) (j : Nat) : W.frozen? ⟨b, j, none⟩ = false := by
  unfold VRow at h
  simp [World.frozen?, h]
theorem VRow.set (h : VRow W b vs) (i : Nat) (u : Value) : VRow (W.setCell ⟨b, i, none⟩ u) b (vs.set i u) := by
  unfold VRow
  rw [heap_set_same _ h]
  simp
end

structure Rws (nb bb base M : Nat) (vs us : List Value) (f h : Nat → List Int) (W : World) : Prop where
  nk : VRow W nb vs
  bk : VRow W bb us
  nl : vs.length = M
  bl : us.length = M
  fo : ∀ (j : Nat) (v : Value), vs[j]? = some v → Own W base 3 1 fI v (f j)
  ho : ∀ (j : Nat) (v : Value), us[j]? = some v → Own W base 3 1 fI v (h j)
  dn : ∀ (i j : Nat) (v u : Value) (k : Nat), vs[i]? = some v → vs[j]? = some u → i ≠ j → v.ownBlock = some k → u.ownBlock ≠ some k
  db : ∀ (i j : Nat) (v u : Value) (k : Nat), us[i]? = some v → us[j]? = some u → i ≠ j → v.ownBlock = some k → u.ownBlock ≠ some k
  dx : ∀ (i j : Nat) (v u : Value) (k : Nat), vs[i]? = some v → us[j]? = some u → v.ownBlock = some k → u.ownBlock ≠ some k
  ne : nb ≠ bb
  b1 : nb < base
  b2 : bb < base
section
variable {nb bb base M : Nat} {vs us : List Value} {f h : Nat → List Int} {W W' W2 : World}
theorem Rws.swap (R : Rws nb bb base M vs us f h W) : Rws bb nb base M us vs h f W :=
  ⟨R.bk, R.nk, R.bl, R.nl, R.ho, R.fo, R.db, R.dn, fun i j v u k h1 h2 h3 h4 => R.dx j i u v k h2 h1 h4 h3, R.ne.symm, R.b2, R.b1⟩
theorem Tch.swap {k : Nat} (t : Tch nb bb W k) : Tch bb nb W k := by
  rcases t with e | e | ⟨b, i, v, e, hc, hv⟩
  · exact .inr (.inl e)
  · exact .inl e
  · exact .inr (.inr ⟨b, i, v, e.symm, hc, hv⟩)
theorem KT.swap (k : KT nb bb W W') : KT bb nb W W' :=
  ⟨k.size, fun j c t f hj hn => k.same j c t f hj fun t => hn t.swap, fun j t => (k.tch j t.swap).imp Tch.swap id, fun hb j t => k.bd (fun i ti => hb i ti.swap) j t.swap⟩
theorem Rws.tch (R : Rws nb bb base M vs us f h W) {k : Nat} (t : Tch nb bb W k) : k = nb ∨ k = bb ∨ (∃ (i : Nat) (v : Value), vs[i]? = some v ∧ v.ownBlock = some k) ∨ ∃ (i : Nat) (v : Value), us[i]? = some v ∧ v.ownBlock = some k := by
  rcases t with e | e | ⟨b, i, v, e | e, hc, hv⟩
  · exact .inl e
  · exact .inr (.inl e)
  · subst e; rw [R.nk.cell] at hc; exact .inr (.inr (.inl ⟨i, v, hc, hv⟩))
  · subst e; rw [R.bk.cell] at hc; exact .inr (.inr (.inr ⟨i, v, hc, hv⟩))
theorem Rws.bd (R : Rws nb bb base M vs us f h W) : ∀ k, Tch nb bb W k → k < W.heap.size := fun k t => by
  rcases R.tch t with rfl | rfl | ⟨i, v, hv, e⟩ | ⟨i, v, hv, e⟩
  · exact R.nk.lt
  · exact R.bk.lt
  · exact ((R.fo i v hv).lt k e).2
  · exact ((R.ho i v hv).lt k e).2
theorem Rws.of_blocks (R : Rws nb bb base M vs us f h W) (hb : ∀ k, Tch nb bb W k → W'.heap[k]? = W.heap[k]?) : Rws nb bb base M vs us f h W' :=
  ⟨(hb nb (.inl rfl)).trans R.nk, (hb bb (.inr (.inl rfl))).trans R.bk, R.nl, R.bl,
   fun j v hv => (R.fo j v hv).of_blocks fun k e => hb k (.inr (.inr ⟨nb, j, v, .inl rfl, (R.nk.cell j).trans hv, e⟩)),
   fun j v hv => (R.ho j v hv).of_blocks fun k e => hb k (.inr (.inr ⟨bb, j, v, .inr rfl, (R.bk.cell j).trans hv, e⟩)), R.dn, R.db, R.dx, R.ne, R.b1, R.b2⟩
theorem Rws.below {B : Nat} (R : Rws nb bb base M vs us f h W) (hb : Below B W W') (hB : W.heap.size ≤ B) : Rws nb bb base M vs us f h W' :=
  R.of_blocks fun k t => hb.block k (Nat.lt_of_lt_of_le (R.bd k t) hB)
/-- a block that is touched is one of cells -/
theorem Rws.cells (R : Rws nb bb base M vs us f h W) {k : Nat} (t : Tch nb bb W k) : ∃ c e, W.heap[k]? = some (.cells c e (0, 0)) := by
  rcases R.tch t with rfl | rfl | ⟨i, v, hv, e⟩ | ⟨i, v, hv, e⟩
  · exact ⟨_, _, R.nk⟩
  · exact ⟨_, _, R.bk⟩
  · rcases (R.fo i v hv).2 with ⟨rfl, _⟩ | ⟨g, cap, cur, rfl, hb, hg, _⟩
    · cases e
    · cases e; exact ⟨_, _, hg⟩
  · rcases (R.ho i v hv).2 with ⟨rfl, _⟩ | ⟨g, cap, cur, rfl, hb, hg, _⟩
    · cases e
    · cases e; exact ⟨_, _, hg⟩
theorem Rws.turn (R : Rws nb bb base M vs us f h W) {row : Option Nat} (hg : W.grownBy W' row) (hr : ∀ r, row = some r → ∃ o : Obj, W.heap[r]? = some o ∧ o.isCells = false) : Rws nb bb base M vs us f h W' :=
  R.of_blocks fun k t => hg.block k (R.bd k t) fun e => by
    obtain ⟨o, h1, h2⟩ := hr k e.symm
    obtain ⟨c, e', h3⟩ := R.cells t
    rw [h1] at h3; cases h3; simp [Obj.isCells] at h2
/-- one row is turned -/
theorem Rws.put (R : Rws nb bb base M vs us f h W) {j : Nat} {v v' : Value} {l : List Int} (hj : vs[j]? = some v) (hs : W.heap.size ≤ W2.heap.size)
    (hb : ∀ k, k < W.heap.size → k ≠ nb → some k ≠ v.ownBlock → W2.heap[k]? = W.heap[k]?) (hn : VRow W2 nb (vs.set j v')) (hown : Own W2 base 3 1 fI v' l)
    (hw : v'.ownBlock = v.ownBlock ∨ v'.ownBlock = some W.heap.size) :
    Rws nb bb base M (vs.set j v') us (fun i => if i = j then l else f i) h W2 ∧ KT nb bb W W2 := by
  have hjl : j < vs.length := (List.getElem?_eq_some_iff.1 hj).1
  have hget : ∀ i u, (vs.set j v')[i]? = some u → (i = j ∧ u = v') ∨ (i ≠ j ∧ vs[i]? = some u) := fun i u hu => by
    rw [List.getElem?_set] at hu
    by_cases e : j = i
    · subst e; rw [if_pos rfl, if_pos hjl] at hu; exact .inl ⟨rfl, (Option.some.inj hu).symm⟩
    · rw [if_neg e] at hu; exact .inr ⟨fun h => e h.symm, hu⟩
  have hR : Rws nb bb base M (vs.set j v') us (fun i => if i = j then l else f i) h W2 := by
    refine ⟨hn, ?_, by rw [List.length_set]; exact R.nl, R.bl, ?_, ?_, ?_, R.db, ?_, R.ne, R.b1, R.b2⟩
    · refine (hb bb R.bk.lt R.ne.symm fun e => ?_).trans R.bk
      have := ((R.fo j v hj).lt bb e.symm).1; have := R.b2; omega
    · intro i u hu
      rcases hget i u hu with ⟨rfl, rfl⟩ | ⟨hne, hu⟩
      · simpa using hown
      · simp only [if_neg hne]
        exact (R.fo i u hu).of_blocks fun k e => hb k ((R.fo i u hu).lt k e).2 (by have := ((R.fo i u hu).lt k e).1; have := R.b1; omega) fun e' => R.dn i j u v k hu hj hne e e'.symm
    · intro i u hu
      exact (R.ho i u hu).of_blocks fun k e => hb k ((R.ho i u hu).lt k e).2 (by have := ((R.ho i u hu).lt k e).1; have := R.b1; omega) fun e' => R.dx j i v u k hj hu e'.symm e
    · intro i i' a u k ha hu hne hk hk'
      rcases hget i a ha with ⟨rfl, rfl⟩ | ⟨hne1, ha2⟩ <;> rcases hget i' u hu with ⟨rfl, rfl⟩ | ⟨hne2, hu2⟩
      · exact hne rfl
      · rcases hw with hw | hw
        · exact R.dn i i' v u k hj hu2 hne (hw ▸ hk) hk'
        · rw [hw] at hk; cases hk; have := ((R.fo i' u hu2).lt _ hk').2; omega
      · rcases hw with hw | hw
        · exact R.dn i i' a v k ha2 hj hne hk (hw ▸ hk')
        · rw [hw] at hk'; cases hk'; have := ((R.fo i a ha2).lt _ hk).2; omega
      · exact R.dn i i' a u k ha2 hu2 hne hk hk'
    · intro i i' a u k ha hu hk hk'
      rcases hget i a ha with ⟨rfl, rfl⟩ | ⟨hne1, ha⟩
      · rcases hw with hw | hw
        · exact R.dx i i' v u k hj hu (hw ▸ hk) hk'
        · rw [hw] at hk; cases hk; have := ((R.ho i' u hu).lt _ hk').2; omega
      · exact R.dx i i' a u k ha hu hk hk'
  refine ⟨hR, hs, ?_, ?_, fun _ => hR.bd⟩
  · intro k c t f' hk hn'
    refine (hb k (Array.getElem?_eq_some_iff.1 hk).1 (fun e => hn' (.inl e)) fun e => hn' (.inr (.inr ⟨nb, j, v, .inl rfl, (R.nk.cell j).trans hj, e.symm⟩))).trans hk
  · intro k t
    rcases hR.tch t with rfl | rfl | ⟨i, u, hu, e⟩ | ⟨i, u, hu, e⟩
    · exact .inl (.inl rfl)
    · exact .inl (.inr (.inl rfl))
    · rcases hget i u hu with ⟨rfl, rfl⟩ | ⟨hne, hu⟩
      · rcases hw with hw | hw
        · exact .inl (.inr (.inr ⟨nb, i, v, .inl rfl, (R.nk.cell i).trans hj, hw ▸ e⟩))
        · rw [hw] at e; cases e; exact .inr (Nat.le_refl _)
      · exact .inl (.inr (.inr ⟨nb, i, u, .inl rfl, (R.nk.cell i).trans hu, e⟩))
    · exact .inl (.inr (.inr ⟨bb, i, u, .inr rfl, (R.bk.cell i).trans hu, e⟩))
end
end Go.Proofs.YtekambdnmaompaaGreat
