/- Texts Mem Own. -/
import Derived.Below
import Derived.Laws.OwnMore
import Derived.Deep.AppendLies
import Derived.Deep.Draws
import Derived.Laws.Rows
import Derived.Maps.AppendAt
import Derived.RegionTactic
import Derived.OwnWalk
namespace Go.Proofs.YtbnfnpakibkboaaGreat
set_option linter.unusedVariables false
set_option linter.unusedSimpArgs false
open Go.RowKit

/-- A slice with the address A reads as the list l, each element as C says, in 'size' cells, below block B. -/
def Sl {α : Type} (w : World) (B size : Nat) (C : α → List Value → Prop) (A : Option Addr) (l : List α) : Prop :=
  l ≠ [] → ∃ b off, A = some ⟨b, off, none⟩ ∧ b < B ∧ ∀ i x, l[i]? = some x → ∃ cs, C x cs ∧ ∀ j u, cs[j]? = some u → w.cell? ⟨b, off + i * size + j, none⟩ = some u

section
variable {α : Type} {w w' : World} {B B' size : Nat} {C C' : α → List Value → Prop} {A : Option Addr} {l : List α}
theorem Sl.nil : Sl w B size C A ([] : List α) := fun h => absurd rfl h

theorem Sl.at_ (h : Sl w B size C A l) {i : Nat} (hi : i < l.length) :
    ∃ b off cs, A = some ⟨b, off, none⟩ ∧ b < B ∧ C l[i] cs ∧ ∀ j u, cs[j]? = some u → w.cell? ⟨b, off + i * size + j, none⟩ = some u := by
  obtain ⟨b, off, e, hb, hc⟩ := h (by intro e; simp [e] at hi)
  obtain ⟨cs, h1, h2⟩ := hc i l[i] (List.getElem?_eq_getElem hi)
  exact ⟨b, off, cs, e, hb, h1, h2⟩

theorem Sl.keep (h : Sl w B size C A l) (hC : ∀ x cs, C x cs → C' x cs) (hk : ∀ p : Addr, p.block < B → w'.cell? p = w.cell? p) : Sl w' B size C' A l := by
  intro hl
  obtain ⟨b, off, e, hb, hc⟩ := h hl
  refine ⟨b, off, e, hb, fun i x hx => ?_⟩
  obtain ⟨cs, h1, h2⟩ := hc i x hx
  exact ⟨cs, hC _ _ h1, fun j u hu => (hk _ hb).trans (h2 j u hu)⟩

theorem Sl.more (h : Sl w B size C A l) (hC : ∀ x cs, C x cs → C' x cs) (hB : B ≤ B') : Sl w B' size C' A l := by
  intro hl
  obtain ⟨b, off, e, hb, hc⟩ := h hl
  refine ⟨b, off, e, by omega, fun i x hx => ?_⟩
  obtain ⟨cs, h1, h2⟩ := hc i x hx
  exact ⟨cs, hC _ _ h1, h2⟩

theorem Sl.below (h : Sl w B size C A l) (hb : Below B w w') : Sl w' B size C A l := h.keep (fun _ _ h => h) fun _ hp => hb.cell hp
end

theorem bDrewN {B : Nat} {a w : World} (h : Below B a w) (n : Nat) : Below B a (w.drewN n) := h.trans ⟨rfl, rfl, rfl, Nat.le_refl _, fun _ _ => rfl⟩

/-- a rail's end -/
structure E where
  rail : Int
  last : Bool
/-- a spot -/
structure S where
  x : Int
  y : Int
/-- a node -/
structure N where
  spot : S
  kind : Int
  ends : List E
  normal : Int
/-- a rail -/
structure R where
  frm : Int
  to : Int
  shape : List S
  limit : Int
  slope : Int
/-- a plan -/
structure Pl where
  nodes : List N
  rails : List R

def CE (e : E) (cs : List Value) : Prop := cs = [.int .i64 e.rail, .bool e.last]
def CS (s : S) (cs : List Value) : Prop := cs = [.int .i64 s.x, .int .i64 s.y]
def CI (x : Int) (cs : List Value) : Prop := cs = [.int .i64 x]
def most : Nat := 140737488351232
def CN (w : World) (B : Nat) (nd : N) (cs : List Value) : Prop :=
  ∃ A c, cs = [.int .i64 nd.spot.x, .int .i64 nd.spot.y, .int .i64 nd.kind, .slice A nd.ends.length c, .int .i64 nd.normal] ∧ Sl w B 2 CE A nd.ends ∧ nd.ends.length ≤ c ∧ c ≤ 140737488351232
def CR (w : World) (B : Nat) (r : R) (cs : List Value) : Prop :=
  ∃ A c, cs = [.int .i64 r.frm, .int .i64 r.to, .slice A r.shape.length c, .int .i64 r.limit, .int .i64 r.slope] ∧ Sl w B 2 CS A r.shape ∧ r.shape.length ≤ c ∧ c ≤ 140737488351232

/-- A plan as it lies in memory, below block B: the two slices. -/
structure PlAt (w : World) (B : Nat) (A : Option Addr) (c : Nat) (A2 : Option Addr) (c2 : Nat) (p : Pl) : Prop where
  ns : Sl w B 5 (CN w B) A p.nodes
  nc : p.nodes.length ≤ c
  nm : c ≤ 140737488351232
  rs : Sl w B 5 (CR w B) A2 p.rails
  rc : p.rails.length ≤ c2
  rm : c2 ≤ 140737488351232

section
variable {w w' : World} {B B' : Nat} {A A2 : Option Addr} {c c2 : Nat} {p : Pl}
theorem CN.below {nd : N} {cs : List Value} (hb : Below B w w') (h : CN w B nd cs) : CN w' B nd cs := by
  obtain ⟨A, c, h1, h2, h3⟩ := h
  exact ⟨A, c, h1, h2.below hb, h3⟩
theorem CR.below {nd : R} {cs : List Value} (hb : Below B w w') (h : CR w B nd cs) : CR w' B nd cs := by
  obtain ⟨A, c, h1, h2, h3⟩ := h
  exact ⟨A, c, h1, h2.below hb, h3⟩
theorem CN.more {nd : N} {cs : List Value} (hb : B ≤ B') (h : CN w B nd cs) : CN w B' nd cs := by
  obtain ⟨A, c, h1, h2, h3⟩ := h
  exact ⟨A, c, h1, h2.more (fun _ _ h => h) hb, h3⟩
theorem CR.more {nd : R} {cs : List Value} (hb : B ≤ B') (h : CR w B nd cs) : CR w B' nd cs := by
  obtain ⟨A, c, h1, h2, h3⟩ := h
  exact ⟨A, c, h1, h2.more (fun _ _ h => h) hb, h3⟩
theorem PlAt.below (h : PlAt w B A c A2 c2 p) (hb : Below B w w') : PlAt w' B A c A2 c2 p :=
  ⟨h.ns.keep (fun _ _ h => h.below hb) fun _ hp => hb.cell hp, h.nc, h.nm, h.rs.keep (fun _ _ h => h.below hb) fun _ hp => hb.cell hp, h.rc, h.rm⟩
theorem PlAt.more (h : PlAt w B A c A2 c2 p) (hb : B ≤ B') : PlAt w B' A c A2 c2 p :=
  ⟨h.ns.more (fun _ _ h => h.more hb) hb, h.nc, h.nm, h.rs.more (fun _ _ h => h.more hb) hb, h.rc, h.rm⟩
/-- what a walk wants of a node: its cells -/
theorem PlAt.node (h : PlAt w B A c A2 c2 p) {i : Nat} (hi : i < p.nodes.length) :
    ∃ b off A' c', A = some ⟨b, off, none⟩ ∧ b < B ∧ Sl w B 2 CE A' p.nodes[i].ends ∧ p.nodes[i].ends.length ≤ c' ∧ c' ≤ 140737488351232 ∧
      w.cell? ⟨b, off + i * 5, none⟩ = some (.int .i64 p.nodes[i].spot.x) ∧ w.cell? ⟨b, off + i * 5 + 1, none⟩ = some (.int .i64 p.nodes[i].spot.y) ∧
      w.cell? ⟨b, off + i * 5 + 2, none⟩ = some (.int .i64 p.nodes[i].kind) ∧ w.cell? ⟨b, off + i * 5 + 3, none⟩ = some (.slice A' p.nodes[i].ends.length c') ∧
      w.cell? ⟨b, off + i * 5 + 4, none⟩ = some (.int .i64 p.nodes[i].normal) := by
  obtain ⟨b, off, cs, e, hb, ⟨A', c', rfl, h1, h2, h3⟩, hc⟩ := h.ns.at_ hi
  exact ⟨b, off, A', c', e, hb, h1, h2, h3, hc 0 _ rfl, hc 1 _ rfl, hc 2 _ rfl, hc 3 _ rfl, hc 4 _ rfl⟩
theorem PlAt.rail (h : PlAt w B A c A2 c2 p) {i : Nat} (hi : i < p.rails.length) :
    ∃ b off A' c', A2 = some ⟨b, off, none⟩ ∧ b < B ∧ Sl w B 2 CS A' p.rails[i].shape ∧ p.rails[i].shape.length ≤ c' ∧ c' ≤ 140737488351232 ∧
      w.cell? ⟨b, off + i * 5, none⟩ = some (.int .i64 p.rails[i].frm) ∧ w.cell? ⟨b, off + i * 5 + 1, none⟩ = some (.int .i64 p.rails[i].to) ∧
      w.cell? ⟨b, off + i * 5 + 2, none⟩ = some (.slice A' p.rails[i].shape.length c') ∧ w.cell? ⟨b, off + i * 5 + 3, none⟩ = some (.int .i64 p.rails[i].limit) ∧
      w.cell? ⟨b, off + i * 5 + 4, none⟩ = some (.int .i64 p.rails[i].slope) := by
  obtain ⟨b, off, cs, e, hb, ⟨A', c', rfl, h1, h2, h3⟩, hc⟩ := h.rs.at_ hi
  exact ⟨b, off, A', c', e, hb, h1, h2, h3, hc 0 _ rfl, hc 1 _ rfl, hc 2 _ rfl, hc 3 _ rfl, hc 4 _ rfl⟩
theorem int_at {l : List Int} {A : Option Addr} (h : Sl w B 1 CI A l) {i : Nat} (hi : i < l.length) :
    ∃ b off, A = some ⟨b, off, none⟩ ∧ b < B ∧ w.cell? ⟨b, off + i, none⟩ = some (.int .i64 l[i]) := by
  obtain ⟨b, off, cs, e, hb, rfl, hc⟩ := h.at_ hi
  exact ⟨b, off, e, hb, by have := hc 0 _ rfl; simpa using this⟩
end
end Go.Proofs.YtbnfnpakibkboaaGreat

namespace Go.Proofs.YtbnfnpakibkboaaGreat
set_option linter.unusedVariables false
set_option linter.unusedSimpArgs false
open Go.RowKit

theorem add_lit (b off k : Nat) : (⟨b, off, none⟩ : Addr).add k = ⟨b, off + k, none⟩ := by
  unfold Addr.add
  split
  · rename_i h; subst h; rfl
  · rfl
section flat
variable {α : Type} {f : α → List Value} {size : Nat}
theorem flat_len (hf : ∀ x, (f x).length = size) (l : List α) : (l.flatMap f).length = l.length * size := by
  induction l with
  | nil => simp
  | cons x r ih => rw [List.flatMap_cons, List.length_append, ih, hf, List.length_cons, Nat.add_mul, Nat.one_mul, Nat.add_comm]
theorem flat_get (hf : ∀ x, (f x).length = size) {j : Nat} (hj : j < size) (l : List α) : ∀ i : Nat, (l.flatMap f)[i * size + j]? = (l[i]?).bind fun x => (f x)[j]? := by
  induction l with
  | nil => intro i; simp
  | cons x r ih =>
    intro i
    rw [List.flatMap_cons]
    cases i with
    | zero => rw [Nat.zero_mul, Nat.zero_add, List.getElem?_append_left (by rw [hf]; exact hj)]; rfl
    | succ i =>
      rw [List.getElem?_append_right (by rw [hf, Nat.add_mul]; omega), hf, show (i + 1) * size + j - size = i * size + j by rw [Nat.add_mul]; omega, ih i]
      simp
theorem flat_one (h1 : ∀ x, ∀ u ∈ f x, u.oneCell' = true) (l : List α) : ∀ u ∈ l.flatMap f, u.oneCell' = true := by
  intro u hu
  obtain ⟨x, _, hx⟩ := List.mem_flatMap.1 hu
  exact h1 x u hx
end flat

/-- A slice that the call itself made (nil, or at the head of a block of its own), which reads as l. -/
def Own {α : Type} (w : World) (base : Nat) (e : TypeId) (size : Nat) (f : α → List Value) (v : Value) (l : List α) : Prop := w.ownsRow base e size v l.length (l.flatMap f)

section own
variable {α : Type} {f : α → List Value} {w w' : World} {base B size : Nat} {e : TypeId} {v : Value} {l : List α}
theorem Own.nil (w : World) (base : Nat) (e : TypeId) (size : Nat) (f : α → List Value) : Own w base e size f (.slice none 0 0) [] := by
  unfold Own; simpa using World.ownsRow_nil w base e size
theorem Own.made (w : World) (cur : Array Value) (cap : Nat) (hb : base ≤ w.heap.size) (hm : cap ≤ maxLen) (hs : cur.size = cap * size) :
    Own (w.alloc (.cells cur e)) base e size f (.slice (some ⟨w.heap.size, 0, none⟩) 0 cap) [] := by
  unfold Own; simpa using World.ownsRow_made w cur cap hb hm hs
theorem Own.form (h : Own w base e size f v l) : ∃ A c, v = .slice A l.length c ∧ l.length ≤ c ∧ c ≤ maxLen ∧ (A = none → l = []) := by
  rcases h.2 with ⟨rfl, hn⟩ | ⟨g, cap, cur, rfl, hb, hg, hn, hm, _⟩
  · exact ⟨none, 0, by rw [hn], by omega, by simp [maxLen], fun _ => List.eq_nil_of_length_eq_zero hn⟩
  · exact ⟨some ⟨g, 0, none⟩, cap, rfl, hn, hm, fun h => by cases h⟩
theorem Own.kept {row : Option Nat} (h : Own w base e size f v l) (hg : w.grownBy w' row) (hne : v.ownBlock = none ∨ v.ownBlock ≠ row) : Own w' base e size f v l := World.ownsRow.kept h hg hne
theorem Own.alloc (h : Own w base e size f v l) (o : Obj) : Own (w.alloc o) base e size f v l := World.ownsRow.alloc h o
theorem Own.drewN (h : Own w base e size f v l) (n : Nat) : Own (w.drewN n) base e size f v l := h
theorem Own.lt (h : Own w base e size f v l) : ∀ k, v.ownBlock = some k → base ≤ k ∧ k < w.heap.size := World.ownsRow.lt h
theorem Own.of_blocks (h : Own w base e size f v l) (hb : ∀ k, v.ownBlock = some k → w'.heap[k]? = w.heap[k]?) : Own w' base e size f v l := by
  refine ⟨h.1, ?_⟩
  rcases h.2 with hn | ⟨g, cap, cur, rfl, hb', hg, r⟩
  · exact .inl hn
  · exact .inr ⟨g, cap, cur, rfl, hb', (hb g rfl).trans hg, r⟩
theorem Own.below (h : Own w base e size f v l) (hb : Below B w w') (hB : w.heap.size ≤ B) : Own w' base e size f v l :=
  h.of_blocks fun k hk => hb.block k (by have := (h.lt k hk).2; omega)
theorem Own.lower {base' : Nat} (h : Own w base e size f v l) (hb : base' ≤ base) : Own w base' e size f v l := by
  refine ⟨h.1, ?_⟩
  rcases h.2 with hn | ⟨g, cap, cur, rfl, hb', r⟩
  · exact .inl hn
  · exact .inr ⟨g, cap, cur, rfl, by omega, r⟩
/-- it reads as l -/
theorem Own.sl (hf : ∀ x, (f x).length = size) (h : Own w base e size f v l) {A : Option Addr} {c : Nat} (hv : v = .slice A l.length c) : Sl w w.heap.size size (fun x cs => cs = f x) A l := by
  intro hl
  rcases h.2 with ⟨_, hn⟩ | ⟨g, cap, cur, rfl, hb, hg, _, _, hc, ht⟩
  · exact absurd (List.eq_nil_of_length_eq_zero hn) hl
  · injection hv with hA _ _
    refine ⟨g, 0, hA.symm, (Array.getElem?_eq_some_iff.1 hg).1, fun i x hx => ⟨f x, rfl, fun j u hu => ?_⟩⟩
    have hj : j < size := by rw [← hf x]; exact (List.getElem?_eq_some_iff.1 hu).1
    have := h.cells (g := g) rfl (i * size + j) u (by rw [flat_get hf hj, hx]; exact hu)
    rw [add_lit] at this
    simpa using this
theorem Sl.flat {A : Option Addr} (hf : ∀ x, (f x).length = size) (hz : 0 < size) (h : Sl w B size (fun x cs => cs = f x) A l) {b off : Nat} (hA : A = some ⟨b, off, none⟩) :
    ∀ k u, (l.flatMap f)[k]? = some u → w.cell? ((⟨b, off, none⟩ : Addr).add k) = some u := by
  intro k u hu
  have hl : l ≠ [] := by rintro rfl; simp at hu
  obtain ⟨b', off', hA', _, hc⟩ := h hl
  rw [hA] at hA'; injection hA' with hA'; injection hA' with e1 e2 _; subst e1; subst e2
  have hk : k = k / size * size + k % size := (Nat.div_add_mod' k size).symm
  have hm : k % size < size := Nat.mod_lt _ hz
  rw [hk, flat_get hf hm] at hu
  obtain ⟨x, hx, hu⟩ := Option.bind_eq_some_iff.1 hu
  obtain ⟨cs, rfl, hcc⟩ := hc _ _ hx
  have := hcc _ _ hu
  rw [add_lit]
  rw [Nat.add_assoc, ← hk] at this
  exact this
end own

section append
variable {α : Type} {f : α → List Value} {P : Program} (w : World)
theorem run_app_nil (base : Nat) (t ty e : TypeId) (i : TypeInfo) (size : Nat) (ht : P.underlying t = some (.slice e)) (hi : P.info? e = some i)
    (v : Value) (n : Nat) (xs : List Value) (hown : w.ownsRow base e size v n xs) (c : Nat) : (Builtin.append_ #[t, t] ty #[v, .slice none 0 c]).run P w = .ok v w := by
  rcases hown.2 with ⟨rfl, rfl⟩ | ⟨g, cap, cur, rfl, _, _, hnc, _⟩
  · simp [Builtin.append_, run_underlying ht, sizeOf, typeInfo, hi, Builtin.lenOf, Builtin.firstCells]
  · simp [Builtin.append_, run_underlying ht, sizeOf, typeInfo, hi, Builtin.lenOf, Builtin.firstCells, hnc, storeCells]

/-- append of a slice that reads as m onto one of the call's own -/
theorem wpList_app {ops : Array Oper} {rest : List Oper} {o : Oper} {a : Act} {Q : Exit → Act → World → Prop} (hgd : o.guard = none) (s x : Operand) (t : TypeId)
    (ho : o.op = .call { callee := .builtin .append, args := #[s, x], argTypes := #[t, t] })
    (base : Nat) (e : TypeId) (i : TypeInfo) (z : Value) (size bytes : Nat) (ht : P.underlying t = some (.slice e)) (hi : P.info? e = some i) (hz : i.zero = some z)
    (hsize : i.size = size) (hby : i.bytes = bytes) (hzs : z.cells.size = size) (hsz : 0 < size) (hf : ∀ x, (f x).length = size) (h1 : ∀ x, ∀ u ∈ f x, u.oneCell' = true)
    (v : Value) (l : List α) (hs : a.eval s = v) (hown : Own w base e size f v l)
    (B : Nat) (A : Option Addr) (m : List α) (c : Nat) (hx : a.eval x = .slice A m.length c) (hr : Sl w B size (fun x cs => cs = f x) A m)
    (h63 : l.length + m.length ≤ maxLen) (hbytes : (l.length + m.length) * bytes ≤ 140737488355328) (hbase : base ≤ w.heap.size) (hA0 : m = [] → A = none ∨ ∃ ad, A = some ad)
    (h : ∀ v' w', Own w' base e size f v' (l ++ m) → w.grownBy w' v.ownBlock → (v'.ownBlock = v.ownBlock ∨ v'.ownBlock = some w.heap.size) → (m ≠ [] → v' ≠ .slice none 0 0) → wpList P ops Q rest (a.put o.dst v') w') :
    wpList P ops Q (o :: rest) a w := by
  refine wpList_plain hgd fun K hK => ?_
  have key : ∃ v' w', (Builtin.append_ #[t, t] o.type #[v, .slice A m.length c]).run P w = .ok v' w' ∧ Own w' base e size f v' (l ++ m) ∧ w.grownBy w' v.ownBlock ∧ (v'.ownBlock = v.ownBlock ∨ v'.ownBlock = some w.heap.size) ∧ (m ≠ [] → v' ≠ .slice none 0 0) := by
    rcases A with _ | ad
    · have hm : m = [] := by
        rcases m with _ | ⟨x, r⟩
        · rfl
        · obtain ⟨_, _, h, _⟩ := hr (by simp); cases h
      subst hm
      exact ⟨v, w, run_app_nil w base t o.type e i size ht hi v _ _ hown c, by simpa using hown, World.grownBy.refl w _, .inl rfl, fun h => absurd rfl h⟩
    · have hcells : ∀ j u, (m.flatMap f)[j]? = some u → w.cell? (ad.add j) = some u := by
        rcases m with _ | ⟨x, r⟩
        · intro j u hu; simp at hu
        · obtain ⟨b, off, h, _⟩ := hr (by simp)
          injection h with h; subst h
          exact hr.flat hf hsz rfl
      obtain ⟨v', w', hrun, h2, h3, h4, h5⟩ := run_append_own_at (P := P) w base t o.type e i z size bytes ht hi hz hsize hby hzs hsz v _ _ hown ad m.length c (m.flatMap f) (flat_len hf m) hcells (flat_one h1 m) h63 hbytes hbase
      refine ⟨v', w', hrun, ?_, h3, h5, fun hm hv => ?_⟩
      · unfold Own; rw [List.length_append, List.flatMap_append]; exact h2
      · exact hm (List.eq_nil_of_length_eq_zero (h4.1 hv).2)
  obtain ⟨v', w', hrun, h2, h3, h4, h5⟩ := key
  refine Oper.wp.eq_1 P o a w K Q ▸ ?_
  unfold execOp
  simp only [ho, resolve, invoke, builtin, Sem.run_bind, Sem.run_pure, Result.andThen_ok, List.map_toArray, List.map_cons, List.map_nil, hs, hx, hrun]
  exact hK _ _ (h v' w' h2 h3 h4 h5)
end append

/-- 'make([]T, 0, n)' and 'make([]T, n)': as an equation for every world -/
theorem run_mk {P : Program} (t e : TypeId) (i : TypeInfo) (z : Value) (size : Nat) (ht : P.underlying t = some (.slice e)) (hi : P.info? e = some i) (hz : i.zero = some z) (hs : i.size = size)
    (l c : Int) (m n : Nat) (hl : l = m) (hc : c = n) (hmn : m ≤ n) (hb : i.bytes * n ≤ 281474976710656) (h63 : n ≤ 9223372036854775807) (w : World) :
    (Instr.makeSlice t (.int .i64 l) (.int .i64 c)).run P w = .ok (.slice (some ⟨w.heap.size, 0, none⟩) m n) (w.alloc (.cells (madeCells z.cells (n * size)) e)) := by
  subst hl; subst hc; subst hs
  have := run_make (P := P) (w := w) t e i z ht hi hz .i64 .i64 (m : Int) (n : Int) (by omega) (by omega) (by rw [← Int.natCast_mul]; omega) (by omega)
  simpa using this
theorem mk_size (z : Value) (n : Nat) : (madeCells z.cells n).size = n := size_madeCells _ _
/-- a row that is made whole: n times the same element -/
theorem Own.full {α : Type} {f : α → List Value} {size : Nat} (w : World) (base : Nat) (e : TypeId) (x : α) (z : Value) (n : Nat) (hzx : z.cells = (f x).toArray) (hf : ∀ x, (f x).length = size) (hsz : 0 < size) (hb : base ≤ w.heap.size) (hm : n ≤ maxLen) :
    Own (w.alloc (.cells (madeCells z.cells (n * size)) e)) base e size f (.slice (some ⟨w.heap.size, 0, none⟩) n n) (List.replicate n x) := by
  have key : (madeCells z.cells (n * size)).toList = (List.replicate n x).flatMap f := by
    apply List.ext_getElem?
    intro k
    by_cases hk : k < n * size
    · have e1 : k = k / size * size + k % size := (Nat.div_add_mod' k size).symm
      have e2 : k % size < size := Nat.mod_lt _ hsz
      have e3 : k / size < n := Nat.div_lt_of_lt_mul (by rw [Nat.mul_comm]; exact hk)
      rw [show ((List.replicate n x).flatMap f)[k]? = (f x)[k % size]? by
        rw [e1, flat_get hf e2, ← e1, List.getElem?_replicate, if_pos e3]; rfl]
      simp [madeCells, hk, hzx, hf]
      rw [List.getElem?_eq_getElem (by rw [hf]; exact e2)]
      rfl
    · rw [List.getElem?_eq_none (by simp [mk_size]; omega), List.getElem?_eq_none (by rw [flat_len hf]; simp; omega)]
  refine ⟨?_, ?_⟩
  · rw [flat_len hf]
  · rw [List.length_replicate]
    exact .inr ⟨w.heap.size, n, _, rfl, hb, heap_alloc_new w _, Nat.le_refl _, hm, mk_size _ _, by rw [List.take_of_length_le (by simp [mk_size])]; exact key⟩

def fI (x : Int) : List Value := [.int .i64 x]
theorem fI_len (s : Int) : (fI s).length = 1 := rfl
theorem fI_one (s : Int) : ∀ u ∈ fI s, u.oneCell' = true := by simp [fI, Value.oneCell']
/-- one new block that holds one element -/
theorem Sl.new {α : Type} {f : α → List Value} {size : Nat} (w : World) (t : TypeId) (x : α) (cs : Array Value) (h : cs = (f x).toArray) :
    Sl (w.alloc (.cells cs t)) (w.heap.size + 1) size (fun x cs => cs = f x) (some ⟨w.heap.size, 0, none⟩) [x] := by
  subst h
  intro _
  refine ⟨w.heap.size, 0, rfl, by omega, fun i y hy => ?_⟩
  cases i with
  | succ i => simp at hy
  | zero =>
    obtain rfl : x = y := by simpa using hy
    refine ⟨_, rfl, fun j u hu => ?_⟩
    rw [cell_of_row _ w.heap.size (0 + 0 * size + j) _ t (0, 0) (heap_alloc_new w _)]
    simpa using hu
/-- 'append(.., x)' and '[]T{x}' lay a new block that holds one element: as a slice of the call's own -/
theorem Own.built {α : Type} {f : α → List Value} {size : Nat} (w : World) (base : Nat) (e : TypeId) (x : α) (cs : Array Value) (h : cs = (f x).toArray) (hf : ∀ x, (f x).length = size) (hb : base ≤ w.heap.size) :
    Own (w.alloc (.cells cs e)) base e size f (.slice (some ⟨w.heap.size, 0, none⟩) 1 1) [x] := by
  subst h
  refine ⟨by simp [hf], .inr ⟨w.heap.size, 1, _, rfl, hb, heap_alloc_new w _, Nat.le_refl _, by simp [maxLen], by simp [hf], ?_⟩⟩
  simp only [List.flatMap_cons, List.flatMap_nil, List.append_nil, Nat.one_mul]
  rw [List.take_of_length_le (by simp [hf])]
end Go.Proofs.YtbnfnpakibkboaaGreat
