/- Words for the copy of a plan whose spots are moved. -/
import Derived.Test.YtekambdnmaompaaGreatU2
import Derived.Test.YtekambdnmaompaaGreatJN
namespace Go.Proofs.YtekambdnmaompaaGreat.SW
set_option linter.unusedVariables false
set_option linter.unusedSimpArgs false
open Go.RowKit

section append
variable {α : Type} {f : α → List Value} {P : Program} (w : World)
/-- append of a slice that reads as m onto one of the call's own -/
theorem wp_app {o : Oper} {a : Act} {K : Act → World → Prop} {Q : Exit → Act → World → Prop} (s x : Operand) (t : TypeId)
    (ho : o.op = .call { callee := .builtin .append, args := #[s, x], argTypes := #[t, t] })
    (base : Nat) (e : TypeId) (i : TypeInfo) (z : Value) (size bytes : Nat) (ht : P.underlying t = some (.slice e)) (hi : P.info? e = some i) (hz : i.zero = some z)
    (hsize : i.size = size) (hby : i.bytes = bytes) (hzs : z.cells.size = size) (hsz : 0 < size) (hf : ∀ x, (f x).length = size) (h1 : ∀ x, ∀ u ∈ f x, u.oneCell' = true)
    (v : Value) (l : List α) (hs : a.eval s = v) (hown : Own w base e size f v l)
    (B : Nat) (A : Option Addr) (m : List α) (c : Nat) (hx : a.eval x = .slice A m.length c) (hr : Sl w B size (fun x cs => cs = f x) A m)
    (h63 : l.length + m.length ≤ maxLen) (hbytes : (l.length + m.length) * bytes ≤ 140737488355328) (hbase : base ≤ w.heap.size) (hA0 : m = [] → A = none ∨ ∃ ad, A = some ad)
    (h : ∀ v' w', Own w' base e size f v' (l ++ m) → w.grownBy w' v.ownBlock → (v'.ownBlock = v.ownBlock ∨ v'.ownBlock = some w.heap.size) → (m ≠ [] → v' ≠ .slice none 0 0) → K (a.put o.dst v') w') : o.wp P a w K Q := by
  have key : ∃ v' w', (Builtin.append_ #[t, t] o.type #[v, .slice A m.length c]).run P w = .ok v' w' ∧ Own w' base e size f v' (l ++ m) ∧ w.grownBy w' v.ownBlock ∧ (v'.ownBlock = v.ownBlock ∨ v'.ownBlock = some w.heap.size) ∧ (m ≠ [] → v' ≠ .slice none 0 0) := by
    rcases A with _ | ad
    · have hm : m = [] := by
        rcases m with _ | ⟨x, r⟩
        · rfl
        · obtain ⟨_, _, h, _⟩ := hr (by simp); cases h
      subst hm
      exact ⟨v, w, run_app_nil w base t o.type e i size ht hi v _ _ hown c, by simpa using hown, World.grownBy.refl w _, .inl rfl, fun h => absurd rfl h⟩
    · have hcells : ∀ j u, (m.flatMap f)[j]? = some u → w.cell? (ad.add j) = some u := by
        rcases m with _ | ⟨x, r⟩
        · intro j u hu; simp at hu
        · obtain ⟨b, off, h, _⟩ := hr (by simp)
          injection h with h; subst h
          exact hr.flat hf hsz rfl
      obtain ⟨v', w', hrun, h2, h3, h4, h5⟩ := run_append_own_at (P := P) w base t o.type e i z size bytes ht hi hz hsize hby hzs hsz v _ _ hown ad m.length c (m.flatMap f) (flat_len hf m) hcells (flat_one h1 m) h63 hbytes hbase
      refine ⟨v', w', hrun, ?_, h3, h5, fun hm hv => ?_⟩
      · unfold Own; rw [List.length_append, List.flatMap_append]; exact h2
      · exact hm (List.eq_nil_of_length_eq_zero (h4.1 hv).2)
  obtain ⟨v', w', hrun, h2, h3, h4, h5⟩ := key
  refine Oper.wp.eq_1 P o a w K Q ▸ ?_
  unfold execOp
  simp only [ho, resolve, invoke, builtin, Sem.run_bind, Sem.run_pure, Result.andThen_ok, List.map_toArray, List.map_cons, List.map_nil, hs, hx, hrun]
  exact h v' w' h2 h3 h4 h5
end append

/-- a row's elements together with what lies behind them -/
theorem sl_lift {α β : Type} {w : World} {B size : Nat} {C : α → List Value → Prop} {D : β → List Value → Prop} {G : β → Prop} (g : β → α) (hC : ∀ x cs, C x cs → ∃ z, g z = x ∧ D z cs ∧ G z) {A : Option Addr} {l : List α} (h : Sl w B size C A l) (hl : l ≠ []) :
    ∃ zs : List β, zs.map g = l ∧ (∀ z ∈ zs, G z) ∧ Sl w B size D A zs := by
  obtain ⟨b, off, e, hb, hc⟩ := h hl
  have h1 : ∀ i : Fin l.length, ∃ z, g z = l[i] ∧ G z ∧ ∃ cs, D z cs ∧ ∀ j u, cs[j]? = some u → w.cell? ⟨b, off + i.1 * size + j, none⟩ = some u := fun i => by
    obtain ⟨cs, h1, h2⟩ := hc i.1 l[i] (List.getElem?_eq_getElem i.2)
    obtain ⟨z, hz, hd, hg⟩ := hC _ _ h1
    exact ⟨z, hz, hg, cs, hd, h2⟩
  obtain ⟨f, hf⟩ := Classical.axiomOfChoice h1
  refine ⟨List.ofFn f, ?_, ?_, fun _ => ⟨b, off, e, hb, fun i z hz => ?_⟩⟩
  · apply List.ext_getElem
    · simp
    · intro i h1 h2
      simp only [List.getElem_map, List.getElem_ofFn]
      exact (hf ⟨i, h2⟩).1
  · intro z hz
    obtain ⟨i, hi, rfl⟩ := List.getElem_of_mem hz
    simp only [List.getElem_ofFn]
    exact (hf _).2.1
  · obtain ⟨hi, rfl⟩ := List.getElem?_eq_some_iff.1 hz
    simp only [List.length_ofFn] at hi
    simp only [List.getElem_ofFn]
    obtain ⟨cs, h1, h2⟩ := (hf ⟨i, hi⟩).2.2
    exact ⟨cs, h1, h2⟩
theorem sl_drop {α β : Type} {w : World} {B size : Nat} {C : α → List Value → Prop} {D : β → List Value → Prop} {zs : List β} (g : β → α) (hC : ∀ z ∈ zs, ∀ cs, D z cs → C (g z) cs) {A : Option Addr} (h : Sl w B size D A zs) : Sl w B size C A (zs.map g) := by
  intro hl
  obtain ⟨b, off, e, hb, hc⟩ := h (by rintro rfl; exact hl rfl)
  refine ⟨b, off, e, hb, fun i x hx => ?_⟩
  rw [List.getElem?_map] at hx
  obtain ⟨z, hz, rfl⟩ := Option.map_eq_some_iff.1 hx
  obtain ⟨cs, h1, h2⟩ := hc i z hz
  exact ⟨cs, hC z (List.mem_of_getElem? hz) cs h1, h2⟩
structure NC where
  nd : N
  A : Option Addr
  c : Nat
def fNC (z : NC) : List Value := [.int .i64 z.nd.spot.x, .int .i64 z.nd.spot.y, .int .i64 z.nd.kind, .slice z.A z.nd.ends.length z.c, .int .i64 z.nd.normal]
theorem fNC_len (z : NC) : (fNC z).length = 5 := rfl
theorem fNC_one (z : NC) : ∀ u ∈ fNC z, u.oneCell' = true := by simp [fNC, Value.oneCell']
def GN (w : World) (B : Nat) (z : NC) : Prop := Sl w B 2 CE z.A z.nd.ends ∧ z.nd.ends.length ≤ z.c ∧ z.c ≤ 9223372036854775807
structure RC where
  rl : R
  A : Option Addr
  c : Nat
def fRC (z : RC) : List Value := [.int .i64 z.rl.frm, .int .i64 z.rl.to, .slice z.A z.rl.shape.length z.c, .int .i64 z.rl.limit, .int .i64 z.rl.slope]
theorem fRC_len (z : RC) : (fRC z).length = 5 := rfl
theorem fRC_one (z : RC) : ∀ u ∈ fRC z, u.oneCell' = true := by simp [fRC, Value.oneCell']
def GR (w : World) (B : Nat) (z : RC) : Prop := Sl w B 2 CS z.A z.rl.shape ∧ z.rl.shape.length ≤ z.c ∧ z.c ≤ 9223372036854775807
theorem PlAt.ncs {w : World} {B : Nat} {A A2 : Option Addr} {c c2 : Nat} {p : Pl} (h : PlAt w B A c A2 c2 p) (hn : p.nodes ≠ []) : ∃ zs : List NC, zs.map (·.nd) = p.nodes ∧ (∀ z ∈ zs, GN w B z) ∧ Sl w B 5 (fun z cs => cs = fNC z) A zs :=
  sl_lift (D := fun z cs => cs = fNC z) (G := GN w B) (·.nd) (fun x cs ⟨A', c', e, h1, h2, h3⟩ => ⟨⟨x, A', c'⟩, rfl, e, h1, h2, h3⟩) h.ns hn
theorem PlAt.rcs {w : World} {B : Nat} {A A2 : Option Addr} {c c2 : Nat} {p : Pl} (h : PlAt w B A c A2 c2 p) (hn : p.rails ≠ []) : ∃ zs : List RC, zs.map (·.rl) = p.rails ∧ (∀ z ∈ zs, GR w B z) ∧ Sl w B 5 (fun z cs => cs = fRC z) A2 zs :=
  sl_lift (D := fun z cs => cs = fRC z) (G := GR w B) (·.rl) (fun x cs ⟨A', c', e, h1, h2, h3⟩ => ⟨⟨x, A', c'⟩, rfl, e, h1, h2, h3⟩) h.rs hn
/-- rows that hold a plan -/
theorem plan_of {w : World} {B : Nat} {A A2 : Option Addr} {c c2 : Nat} {zs : List NC} {rs : List RC} (h1 : Sl w B 5 (fun z cs => cs = fNC z) A zs) (h2 : ∀ z ∈ zs, GN w B z) (h3 : zs.length ≤ c) (h4 : c ≤ 9223372036854775807)
    (g1 : Sl w B 5 (fun z cs => cs = fRC z) A2 rs) (g2 : ∀ z ∈ rs, GR w B z) (g3 : rs.length ≤ c2) (g4 : c2 ≤ 9223372036854775807) : PlAt w B A c A2 c2 ⟨zs.map (·.nd), rs.map (·.rl)⟩ where
  ns := sl_drop (·.nd) (fun z hz cs e => ⟨z.A, z.c, e, h2 z hz⟩) h1
  nc := by simpa using h3
  nm := h4
  rs := sl_drop (·.rl) (fun z hz cs e => ⟨z.A, z.c, e, g2 z hz⟩) g1
  rc := by simpa using g3
  rm := g4
theorem flat_setN (x y : Int) : ∀ (zs : List NC) (k : Nat) (z : NC), zs[k]? = some z → (((zs.flatMap fNC).set (k * 5) (.int .i64 x)).set (k * 5 + 1) (.int .i64 y)) = (zs.set k ⟨⟨⟨x, y⟩, z.nd.kind, z.nd.ends, z.nd.normal⟩, z.A, z.c⟩).flatMap fNC
  | [], k, z, h => by simp at h
  | t :: zs, 0, z, h => by simp at h; subst h; simp [fNC]
  | t :: zs, k + 1, z, h => by
    rw [List.set_cons_succ, List.flatMap_cons, List.flatMap_cons, ← flat_setN x y zs k z (by simpa using h)]
    have e : (k + 1) * 5 = k * 5 + 1 + 1 + 1 + 1 + 1 := by omega
    rw [e]
    simp only [fNC, List.cons_append, List.nil_append, List.set_cons_succ]
theorem flat_setR (A : Option Addr) (sh : List S) (c : Nat) : ∀ (zs : List RC) (k : Nat) (z : RC), zs[k]? = some z → ((zs.flatMap fRC).set (k * 5 + 2) (.slice A sh.length c)) = (zs.set k ⟨⟨z.rl.frm, z.rl.to, sh, z.rl.limit, z.rl.slope⟩, A, c⟩).flatMap fRC
  | [], k, z, h => by simp at h
  | t :: zs, 0, z, h => by simp at h; subst h; simp [fRC]
  | t :: zs, k + 1, z, h => by
    rw [List.set_cons_succ, List.flatMap_cons, List.flatMap_cons, ← flat_setR A sh c zs k z (by simpa using h)]
    have e : (k + 1) * 5 + 2 = k * 5 + 2 + 1 + 1 + 1 + 1 + 1 := by omega
    rw [e]
    simp only [fRC, List.cons_append, List.nil_append, List.set_cons_succ]
theorem own_setN {w : World} {base g cap n : Nat} {e : TypeId} {zs : List NC} (hn : zs.length = n) (h : Own w base e 5 fNC (.slice (some ⟨g, 0, none⟩) n cap) zs) {k : Nat} {z : NC} (hz : zs[k]? = some z) (x y : Int) :
    Own ((w.setCell ⟨g, k * 5, none⟩ (.int .i64 x)).setCell ⟨g, k * 5 + 1, none⟩ (.int .i64 y)) base e 5 fNC (.slice (some ⟨g, 0, none⟩) n cap) (zs.set k ⟨⟨⟨x, y⟩, z.nd.kind, z.nd.ends, z.nd.normal⟩, z.A, z.c⟩) ∧
    w.grownBy ((w.setCell ⟨g, k * 5, none⟩ (.int .i64 x)).setCell ⟨g, k * 5 + 1, none⟩ (.int .i64 y)) (some g) := by
  unfold Own at h
  rw [hn] at h
  have h2 := World.ownsRow.stored h (k * 5) (.int .i64 x)
  have h3 := World.ownsRow.stored h2.1 (k * 5 + 1) (.int .i64 y)
  refine ⟨?_, h2.2.trans h3.2⟩
  unfold Own
  rw [List.length_set, hn, ← flat_setN x y zs k z hz]
  exact h3.1
theorem own_setR {w : World} {base g cap n : Nat} {e : TypeId} {zs : List RC} (hn : zs.length = n) (h : Own w base e 5 fRC (.slice (some ⟨g, 0, none⟩) n cap) zs) {k : Nat} {z : RC} (hz : zs[k]? = some z) (A : Option Addr) (sh : List S) (c : Nat) :
    Own (w.setCell ⟨g, k * 5 + 2, none⟩ (.slice A sh.length c)) base e 5 fRC (.slice (some ⟨g, 0, none⟩) n cap) (zs.set k ⟨⟨z.rl.frm, z.rl.to, sh, z.rl.limit, z.rl.slope⟩, A, c⟩) ∧
    w.grownBy (w.setCell ⟨g, k * 5 + 2, none⟩ (.slice A sh.length c)) (some g) := by
  unfold Own at h
  rw [hn] at h
  have h2 := World.ownsRow.stored h (k * 5 + 2) (.slice A sh.length c)
  refine ⟨?_, h2.2⟩
  unfold Own
  rw [List.length_set, hn, ← flat_setR A sh c zs k z hz]
  exact h2.1
theorem own_at {α : Type} {f : α → List Value} {size : Nat} (hf : ∀ x, (f x).length = size) {w : World} {base g cap n : Nat} {e : TypeId} {l : List α} (hn : l.length = n) (h : Own w base e size f (.slice (some ⟨g, 0, none⟩) n cap) l) :
    (∀ k x, l[k]? = some x → ∀ j u, (f x)[j]? = some u → w.cell? ⟨g, k * size + j, none⟩ = some u) ∧ (∀ i, w.frozen? ⟨g, i, none⟩ = false) ∧ g < w.heap.size ∧ base ≤ g := by
  have hl := h.lt g rfl
  subst hn
  have hs := Own.sl (f := f) (size := size) (l := l) hf h rfl
  refine ⟨fun k x hx j u hu => ?_, fun i => ?_, hl.2, hl.1⟩
  · obtain ⟨b, off, e1, hb, hc⟩ := hs (by rintro rfl; simp at hx)
    cases e1
    obtain ⟨cs, rfl, h2⟩ := hc k x hx
    have := h2 j u hu
    rwa [Nat.zero_add] at this
  · rcases h.2 with ⟨e1, hn⟩ | ⟨g', cap', cur, e1, hb', hg, hn, hm, hc'⟩
    · cases e1
    · cases e1
      simp [World.frozen?, hg]
/-- a row that was appended to is no nil slice -/
theorem own_some {α : Type} {f : α → List Value} {size : Nat} {w : World} {base : Nat} {e : TypeId} {v : Value} {l : List α} (h : Own w base e size f v l) (hne : v ≠ .slice none 0 0) : ∃ g cap, v = .slice (some ⟨g, 0, none⟩) l.length cap ∧ l.length ≤ cap ∧ cap ≤ 9223372036854775807 := by
  rcases h.2 with ⟨e1, hn⟩ | ⟨g', cap', cur, e1, hb', hg, hn, hm, hc'⟩
  · exact absurd e1 hne
  · exact ⟨g', cap', e1, hn, by unfold maxLen at hm; omega⟩
theorem GN.keep {w w' : World} {B B' : Nat} {z : NC} (h : GN w B z) (hB : B ≤ B') (hk : ∀ b, b < B → w'.heap[b]? = w.heap[b]?) : GN w' B' z :=
  ⟨(h.1.keep (fun _ _ h => h) (fun q hq => World.cell?_of_block (hk q.block hq))).more (fun _ _ h => h) hB, h.2⟩
theorem GR.keep {w w' : World} {B B' : Nat} {z : RC} (h : GR w B z) (hB : B ≤ B') (hk : ∀ b, b < B → w'.heap[b]? = w.heap[b]?) : GR w' B' z :=
  ⟨(h.1.keep (fun _ _ h => h) (fun q hq => World.cell?_of_block (hk q.block hq))).more (fun _ _ h => h) hB, h.2⟩
theorem info87 : (Tryz.prog.info? 87).map (fun i => (i.zero, i.size, i.bytes)) = some (some (.agg #[.int .i64 0, .int .i64 0, .int .i64 0, .slice none 0 0, .int .i64 0]), 5, 56) := by kernel_rfl
theorem info63 : (Tryz.prog.info? 63).map (fun i => (i.zero, i.size, i.bytes)) = some (some (.agg #[.int .i64 0, .int .i64 0, .slice none 0 0, .int .i64 0, .int .i64 0]), 5, 56) := by kernel_rfl
section copy
variable {α : Type} {f : α → List Value} {P : Program} (w : World)
/-- a copy of a row -/
theorem wp_copy {o : Oper} {a : Act} {K : Act → World → Prop} {Q : Exit → Act → World → Prop} (s x : Operand) (t : TypeId)
    (ho : o.op = .call { callee := .builtin .append, args := #[s, x], argTypes := #[t, t] })
    (base : Nat) (e : TypeId) (i : TypeInfo) (z : Value) (size bytes : Nat) (ht : P.underlying t = some (.slice e)) (hi : P.info? e = some i) (hz : i.zero = some z)
    (hsize : i.size = size) (hby : i.bytes = bytes) (hzs : z.cells.size = size) (hsz : 0 < size) (hf : ∀ x, (f x).length = size) (h1 : ∀ x, ∀ u ∈ f x, u.oneCell' = true)
    (hs : a.eval s = .slice none 0 0) (B : Nat) (A : Option Addr) (m : List α) (n c : Nat) (hn : m.length = n) (hx : a.eval x = .slice A n c) (hr : Sl w B size (fun x cs => cs = f x) A m) (hm : m ≠ [])
    (hml : m.length ≤ maxLen) (hbytes : m.length * bytes ≤ 140737488355328) (hbase : base ≤ w.heap.size)
    (h : ∀ g cap w', g = w.heap.size → Own w' base e size f (.slice (some ⟨g, 0, none⟩) n cap) m → n ≤ cap → cap ≤ 9223372036854775807 → Below w.heap.size w w' → K (a.put o.dst (.slice (some ⟨g, 0, none⟩) n cap)) w') : o.wp P a w K Q := by
  subst hn
  refine wp_app w s x t ho base e i z size bytes ht hi hz hsize hby hzs hsz hf h1 (.slice none 0 0) [] hs (Own.nil _ _ _ _ _) B A m c hx hr (by simpa using hml) (by simpa using hbytes) hbase (fun h => absurd h hm) ?_
  intro v' w' ho' hg hv hne
  rw [List.nil_append] at ho'
  obtain ⟨g, cap, rfl, l1, l2⟩ := own_some ho' (hne hm)
  rcases hv with e1 | e1
  · cases e1
  · obtain rfl : g = w.heap.size := Option.some.inj e1
    exact h _ cap w' rfl ho' l1 l2 ((Below.refl _ w).grown hg (Nat.le_refl _) (fun k hk => by cases hk))
end copy
/-- the copy of a plan as it lies in memory: its header K, its nodes g1, its rails g2 -/
structure Q3 (B K g1 c1 g2 c2 nn nr : Nat) (W1 : World) (zs : List NC) (rs : List RC) (wx : World) : Prop where
  kr : Rw wx K 25 #[.slice (some ⟨g1, 0, none⟩) nn c1, .slice (some ⟨g2, 0, none⟩) nr c2]
  o1 : Own wx B 87 5 fNC (.slice (some ⟨g1, 0, none⟩) nn c1) zs
  o2 : Own wx B 63 5 fRC (.slice (some ⟨g2, 0, none⟩) nr c2) rs
  kb : B ≤ K
  n1 : K ≠ g1
  n2 : K ≠ g2
  n3 : g1 ≠ g2
  be : Below B W1 wx
  ln : zs.length = nn
  lr : rs.length = nr
  l1 : nn ≤ c1
  m1 : c1 ≤ 9223372036854775807
  l2 : nr ≤ c2
  m2 : c2 ≤ 9223372036854775807
  bw : B ≤ W1.heap.size
theorem Q3.below {B K g1 c1 g2 c2 nn nr : Nat} {W1 w w' : World} {zs : List NC} {rs : List RC} (h : Q3 B K g1 c1 g2 c2 nn nr W1 zs rs w) (hb : Below w.heap.size w w') : Q3 B K g1 c1 g2 c2 nn nr W1 zs rs w' :=
  ⟨h.kr.below hb h.kr.lt, h.o1.below hb (Nat.le_refl _), h.o2.below hb (Nat.le_refl _), h.kb, h.n1, h.n2, h.n3, h.be.trans (hb.mono (Nat.le_trans h.bw h.be.size)), h.ln, h.lr, h.l1, h.m1, h.l2, h.m2, h.bw⟩
/-- a node's spot is stored -/
theorem Q3.setN {B K g1 c1 g2 c2 nn nr : Nat} {W1 w : World} {zs : List NC} {rs : List RC} (h : Q3 B K g1 c1 g2 c2 nn nr W1 zs rs w) {k : Nat} {z : NC} (hz : zs[k]? = some z) (x y : Int) :
    Q3 B K g1 c1 g2 c2 nn nr W1 (zs.set k ⟨⟨⟨x, y⟩, z.nd.kind, z.nd.ends, z.nd.normal⟩, z.A, z.c⟩) rs ((w.setCell ⟨g1, k * 5, none⟩ (.int .i64 x)).setCell ⟨g1, k * 5 + 1, none⟩ (.int .i64 y)) := by
  obtain ⟨h1, h2⟩ := own_setN h.ln h.o1 hz x y
  have hg := (h.o1.lt g1 rfl).1
  exact ⟨(h.kr.far _ _ h.n1).far _ _ h.n1, h1, h.o2.kept h2 (.inr (fun e => h.n3 (Option.some.inj e).symm)), h.kb, h.n1, h.n2, h.n3, h.be.grown h2 (Nat.le_trans h.bw h.be.size) (fun k hk => by cases hk; exact hg), by simpa using h.ln, h.lr, h.l1, h.m1, h.l2, h.m2, h.bw⟩
/-- a rail's shape is stored -/
theorem Q3.setR {B K g1 c1 g2 c2 nn nr : Nat} {W1 w : World} {zs : List NC} {rs : List RC} (h : Q3 B K g1 c1 g2 c2 nn nr W1 zs rs w) {k : Nat} {z : RC} (hz : rs[k]? = some z) (A : Option Addr) (sh : List S) (c : Nat) :
    Q3 B K g1 c1 g2 c2 nn nr W1 zs (rs.set k ⟨⟨z.rl.frm, z.rl.to, sh, z.rl.limit, z.rl.slope⟩, A, c⟩) (w.setCell ⟨g2, k * 5 + 2, none⟩ (.slice A sh.length c)) ∧ w.grownBy (w.setCell ⟨g2, k * 5 + 2, none⟩ (.slice A sh.length c)) (some g2) := by
  obtain ⟨h1, h2⟩ := own_setR h.lr h.o2 hz A sh c
  have hg := (h.o2.lt g2 rfl).1
  exact ⟨⟨h.kr.far _ _ h.n2, h.o1.kept h2 (.inr (fun e => h.n3 (Option.some.inj e))), h1, h.kb, h.n1, h.n2, h.n3, h.be.grown h2 (Nat.le_trans h.bw h.be.size) (fun k hk => by cases hk; exact hg), h.ln, by simpa using h.lr, h.l1, h.m1, h.l2, h.m2, h.bw⟩, h2⟩
def mvN (f : S → S) (z : NC) : NC := ⟨movedN f z.nd, z.A, z.c⟩
/-- the nodes, the first k of them moved -/
def zsTo (f : S → S) (zs : List NC) (k : Nat) : List NC := (zs.take k).map (mvN f) ++ zs.drop k
theorem zsTo_zero (f : S → S) (zs : List NC) : zsTo f zs 0 = zs := by simp [zsTo]
theorem zsTo_all (f : S → S) (zs : List NC) : zsTo f zs zs.length = zs.map (mvN f) := by simp [zsTo]
theorem zsTo_at (f : S → S) {zs : List NC} {k : Nat} (hk : k < zs.length) : (zsTo f zs k)[k]? = some zs[k] := by
  unfold zsTo
  rw [List.getElem?_append_right (by simp; omega)]
  simp [List.length_take, Nat.min_eq_left (Nat.le_of_lt hk), hk]
theorem zsTo_succ (f : S → S) {zs : List NC} {k : Nat} (hk : k < zs.length) : zsTo f zs (k + 1) = (zsTo f zs k).set k (mvN f zs[k]) := by
  apply List.ext_getElem?
  intro i
  rw [List.getElem?_set]
  unfold zsTo
  have l1 : ((zs.take k).map (mvN f)).length = k := by simp; omega
  have l2 : ((zs.take (k + 1)).map (mvN f)).length = k + 1 := by simp; omega
  by_cases h1 : i < k
  · rw [if_neg (by omega), List.getElem?_append_left (by rw [l2]; omega), List.getElem?_append_left (by rw [l1]; exact h1), List.getElem?_map, List.getElem?_map, List.getElem?_take_of_lt (by omega), List.getElem?_take_of_lt h1]
  · by_cases h2 : i = k
    · subst h2
      rw [if_pos rfl, if_pos (by simp; omega), List.getElem?_append_left (by rw [l2]; omega), List.getElem?_map, List.getElem?_take_of_lt (by omega), List.getElem?_eq_getElem hk]
      rfl
    · rw [if_neg (by omega), List.getElem?_append_right (by rw [l2]; omega), List.getElem?_append_right (by rw [l1]; omega), l1, l2, List.getElem?_drop, List.getElem?_drop]
      congr 1
      omega
/-- the shape of a moved rail, behind the copy -/
def GRx (g : Nat) (w : World) (z : RC) : Prop := (Sl w w.heap.size 2 CS z.A z.rl.shape ∧ z.rl.shape.length ≤ z.c ∧ z.c ≤ 9223372036854775807) ∧ ∀ a, z.rl.shape ≠ [] → z.A = some a → a.block ≠ g
theorem GRx.kept {g : Nat} {w w' : World} {z : RC} (h : GRx g w z) (hg : w.grownBy w' (some g)) : GRx g w' z := by
  refine ⟨⟨fun hl => ?_, h.1.2⟩, h.2⟩
  obtain ⟨b, off, e, hb, hc⟩ := h.1.1 hl
  have hne := h.2 _ hl e
  refine ⟨b, off, e, Nat.lt_of_lt_of_le hb hg.size, fun i x hx => ?_⟩
  obtain ⟨cs, h1, h2⟩ := hc i x hx
  exact ⟨cs, h1, fun j u hu => (World.cell?_of_block (hg.block b hb (fun e => hne (Option.some.inj e)))).trans (h2 j u hu)⟩
/-- the rails, the first k of them moved -/
structure Rk (f : S → S) (p : Pl) (g2 : Nat) (rs0 : List RC) (k : Nat) (rs : List RC) (w : World) : Prop where
  dn : ∀ j z, j < k → rs[j]? = some z → (∃ r, p.rails[j]? = some r ∧ z.rl = movedR f r) ∧ GRx g2 w z
  up : ∀ j, k ≤ j → rs[j]? = rs0[j]?
theorem Rk.kept {f : S → S} {p : Pl} {g2 k : Nat} {rs0 rs : List RC} {w w' : World} (h : Rk f p g2 rs0 k rs w) (hg : w.grownBy w' (some g2)) : Rk f p g2 rs0 k rs w' :=
  ⟨fun j z hj hz => ⟨(h.dn j z hj hz).1, (h.dn j z hj hz).2.kept hg⟩, h.up⟩
theorem Rk.step {f : S → S} {p : Pl} {g2 k : Nat} {rs0 rs : List RC} {w w' : World} (h : Rk f p g2 rs0 k rs w) (hg : w.grownBy w' (some g2)) {z : RC} (hz : rs[k]? = some z) (hr : p.rails[k]? = some z.rl) {A : Option Addr} {c : Nat} (hx : GRx g2 w' ⟨movedR f z.rl, A, c⟩) :
    Rk f p g2 rs0 (k + 1) (rs.set k ⟨⟨z.rl.frm, z.rl.to, z.rl.shape.map f, z.rl.limit, z.rl.slope⟩, A, c⟩) w' := by
  have hk : k < rs.length := (List.getElem?_eq_some_iff.1 hz).1
  refine ⟨fun j y hj hy => ?_, fun j hj => ?_⟩
  · rw [List.getElem?_set] at hy
    by_cases e : k = j
    · subst e
      rw [if_pos rfl, if_pos hk] at hy
      obtain rfl := Option.some.inj hy
      exact ⟨⟨_, hr, rfl⟩, hx⟩
    · rw [if_neg e] at hy
      have := (h.kept hg).dn j y (by omega) hy
      exact this
  · rw [List.getElem?_set, if_neg (by omega)]
    exact h.up j (by omega)
theorem Rk.all {f : S → S} {p : Pl} {g2 : Nat} {rs0 rs : List RC} {w : World} (h : Rk f p g2 rs0 rs.length rs w) (hl : rs.length = p.rails.length) : rs.map (·.rl) = p.rails.map (movedR f) ∧ ∀ z ∈ rs, GR w w.heap.size z := by
  refine ⟨?_, fun z hz => ?_⟩
  · apply List.ext_getElem?
    intro i
    rw [List.getElem?_map, List.getElem?_map]
    by_cases hi : i < rs.length
    · obtain ⟨⟨r, h1, h2⟩, _⟩ := h.dn i rs[i] hi (List.getElem?_eq_getElem hi)
      rw [List.getElem?_eq_getElem hi, h1]
      simp [h2]
    · rw [List.getElem?_eq_none (by omega), List.getElem?_eq_none (by omega)]
      rfl
  · obtain ⟨i, hi, rfl⟩ := List.getElem_of_mem hz
    exact (h.dn i rs[i] hi (List.getElem?_eq_getElem hi)).2.1
theorem strip_nat2 {p : Pl} (hv : Vld p) {r k : Int} (h : stripB p r k = true) : ∃ (n j : Nat) (L : List S), r = (n : Int) ∧ k = (j : Int) ∧ RlOk p n L ∧ j + 1 < L.length := by
  unfold stripB at h
  obtain ⟨h1, h2⟩ := Bool.and_eq_true_iff.1 h
  have h3 := of_decide_eq_true h1
  obtain ⟨n, rfl⟩ := Int.eq_ofNat_of_zero_le h3.1
  have hn : n < p.rails.length := by omega
  rw [segN_eq hn] at h2
  unfold inB at h2
  obtain ⟨h4, h5⟩ := Bool.and_eq_true_iff.1 h2
  have h4 := of_decide_eq_true h4
  have h5 := of_decide_eq_true h5
  obtain ⟨j, rfl⟩ := Int.eq_ofNat_of_zero_le h4
  refine ⟨n, j, _, rfl, rfl, Vld.rl hv hn, ?_⟩
  have := (Vld.rl hv hn).len
  omega
end Go.Proofs.YtekambdnmaompaaGreat.SW
