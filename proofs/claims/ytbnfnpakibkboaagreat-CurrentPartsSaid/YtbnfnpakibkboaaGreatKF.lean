/- Texts C8 C9. -/
import Derived.Test.YtbnfnpakibkboaaGreatKE
import Derived.Maps.OwnIn
import Derived.Deep.DeepMust
namespace Go.Proofs.YtbnfnpakibkboaaGreat
set_option linter.unusedVariables false
set_option linter.unusedSimpArgs false
open Go.RowKit

theorem wpListIn_app {α : Type} {f : α → List Value} {P : Program} {w : World} {F : Fence} {nF : Nat} {ops : Array Oper} {rest : List Oper} {o : Oper} {a : Act} {Q : Exit → Act → World → Prop} (hgd : o.guard = none) (s x : Operand) (t : TypeId)
    (ho : o.op = .call { callee := .builtin .append, args := #[s, x], argTypes := #[t, t] })
    (base : Nat) (e : TypeId) (i : TypeInfo) (z : Value) (size bytes : Nat) (ht : P.underlying t = some (.slice e)) (hi : P.info? e = some i) (hz : i.zero = some z)
    (hsize : i.size = size) (hby : i.bytes = bytes) (hzs : z.cells.size = size) (hsz : 0 < size) (hf : ∀ x, (f x).length = size) (h1 : ∀ x, ∀ u ∈ f x, u.oneCell' = true)
    (v : Value) (l : List α) (hs : a.eval s = v) (hown : Own w base e size f v l)
    (B b : Nat) (m : α) (hx : a.eval x = .slice (some ⟨b, 0, none⟩) 1 1) (hr : Sl w B size (fun x cs => cs = f x) (some ⟨b, 0, none⟩) [m])
    (h63 : l.length + 1 ≤ maxLen) (hbytes : (l.length + 1) * bytes ≤ 140737488355328) (hbase : base ≤ w.heap.size)
    (h : ∀ v' w', Own w' base e size f v' (l ++ [m]) → w.grownBy w' v.ownBlock → (v'.ownBlock = v.ownBlock ∨ v'.ownBlock = some w.heap.size) → wpListIn F nF P ops Q rest (a.put o.dst v') w') : wpListIn F nF P ops Q (o :: rest) a w :=
  wpListIn_append_own_at w hgd s x t ho base e i z size bytes ht hi hz hsize hby hzs hsz v l.length (l.flatMap f) hs hown ⟨b, 0, none⟩ 1 1 ([m].flatMap f) hx (by rw [flat_len hf]; rfl) (fun j u hu => hr.flat hf hsz rfl j u hu) (flat_one h1 [m]) h63 hbytes hbase
    (fun v' w' h2 h3 h4 h5 => h v' w' (by unfold Own; rw [List.length_append, List.flatMap_append]; exact h2) h3 h5)
/-- where a number is in a list, -1 if it is not there -/
def ixI (l : List Int) (x : Int) : Int := if x ∈ l then (l.idxOf x : Int) else -1
theorem idxOf_first {l : List Int} {x : Int} {i : Nat} (hi : i < l.length) (hx : l[i] = x) (hb : ∀ j (hj : j < l.length), j < i → l[j] ≠ x) : l.idxOf x = i := by
  have hm : x ∈ l := by rw [← hx]; exact List.getElem_mem hi
  have h1 := List.idxOf_lt_length_iff.2 hm
  have h2 := List.getElem_idxOf h1
  rcases Nat.lt_trichotomy (l.idxOf x) i with q | q | q
  · exact absurd h2 (hb _ h1 q)
  · exact q
  · exfalso
    have h3 := List.not_of_lt_findIdx (p := (· == x)) (xs := l) (i := i) (by simpa [List.idxOf] using q)
    exact absurd hx (by simpa using h3)
theorem ixI_at {l : List Int} {x : Int} {i : Nat} (hi : i < l.length) (hx : l[i] = x) (hb : ∀ j (hj : j < l.length), j < i → l[j] ≠ x) : ixI l x = i := by
  unfold ixI
  rw [if_pos (by rw [← hx]; exact List.getElem_mem hi), idxOf_first hi hx hb]
theorem ixI_no {l : List Int} {x : Int} (hb : ∀ j (hj : j < l.length), l[j] ≠ x) : ixI l x = -1 := by
  unfold ixI
  rw [if_neg (fun h => by obtain ⟨j, hj, e⟩ := List.getElem_of_mem h; exact hb j hj e)]
theorem ixI_mem (l : List Int) (x : Int) : decide (0 ≤ ixI l x) = decide (x ∈ l) := by
  unfold ixI; split <;> rename_i h
  · rw [decide_eq_true h]; exact decide_eq_true (by omega)
  · rw [decide_eq_false h]; rfl
set_option maxRecDepth 100000 in
set_option maxHeartbeats 4000000 in
theorem index_any (A : Option Addr) (n c : Nat) (l : List Int) (x : Int) (w : World) (hn : l.length = n) (hm : n ≤ 1000000) (hS : Sl w w.heap.size 1 CI A l) :
    Calls Tryz.prog 110 #[.slice A n c, .int .i64 x] w fun e w' => e = .returned (.int .i64 (ixI l x)) ∧ w = w' := by
  have HS := Lib.hid hS; have HN := Lib.hid hn
  clear hS hn
  go_enter Tryz.func110, Tryz.ntmps110
  go_wp2
  go_loopw [8] (fun sl wr => ∃ i : Nat, i ≤ n ∧ sl = .int .i64 (i : Int) ∧ (∀ j (hj : j < l.length), j < i → l[j] ≠ x) ∧ w = wr) (fun sl _ => n - (intOf sl).toNat)
  case atStart => exact ⟨0, Nat.zero_le _, rfl, fun j _ h => by omega, rfl⟩
  case round =>
    obtain ⟨i, hi, rfl, hb, rfl⟩ := hrel
    have HB := Lib.hid hb
    clear hb
    by_cases hin : i < n
    · have hii : (i : Int) < (n : Int) := by omega
      have hi0 : (0 : Int) ≤ (i : Int) := by omega
      have hil : i < l.length := by have := HN.out; omega
      obtain ⟨b, o, rfl, gb, c0⟩ := int_at HS.out hil
      obtain ⟨g, hg⟩ : ∃ g, l[i] = g := ⟨_, rfl⟩
      rw [hg] at c0
      have HI := Lib.hid hin
      by_cases hx : g = x
      · have HE := Lib.hid (show ixI l x = i from ixI_at hil (hg.trans hx) HB.out)
        have hbe : (x == g) = true := by rw [hx]; exact beq_self_eq_true _
        have hbe' : x = g := hx.symm
        clear hil hg hx
        go_wp2
        go_ret
        exact ⟨by rw [HE.out]; first | done | rfl | simp, rfl⟩
      · have HNX := Lib.hid (show ∀ j (hj : j < l.length), j < i + 1 → l[j] ≠ x from fun j hj hji => by
          rcases Nat.lt_or_ge j i with q | q
          · exact HB.out j hj q
          · have : j = i := by omega
            subst this; rw [hg]; exact hx)
        have hbe : (x == g) = false := by rw [beq_eq_false_iff_ne]; exact fun e => hx e.symm
        have hbe' : ¬ x = g := fun e => hx e.symm
        clear hil hg hx
        go_wp2
        go_roundw
        case rel => exact ⟨i + 1, by have := HI.out; omega, by simp, HNX.out, by first | rfl | trivial⟩
        case measure => have := HI.out; simp [intOf] <;> omega
    · have hii : ¬ (i : Int) < (n : Int) := by omega
      have HE := Lib.hid (show ixI l x = -1 from ixI_no (fun j hj => HB.out j hj (by have := HN.out; omega)))
      go_wp2
      go_ret
      exact ⟨by rw [HE.out]; first | done | rfl | simp, rfl⟩
set_option maxRecDepth 100000 in
set_option maxHeartbeats 4000000 in
theorem contains_any (A : Option Addr) (n c : Nat) (l : List Int) (x : Int) (w : World) (hn : l.length = n) (hm : n ≤ 1000000) (hS : Sl w w.heap.size 1 CI A l) :
    Calls Tryz.prog 106 #[.slice A n c, .int .i64 x] w fun e w' => e = .returned (.bool (decide (x ∈ l))) ∧ w = w' := by
  have HI := Lib.hid (index_any A n c l x w hn hm hS)
  have HE := Lib.hid (ixI_mem l x)
  clear hS hn
  go_enter Tryz.func106, Tryz.ntmps106
  go_wp2_with fail
  (with_reducible refine (HI.out).mono ?_)
  rintro e w3 ⟨rfl, rfl⟩
  go_wp2
  go_ret
  exact ⟨by rw [← HE.out]; first | done | rfl | simp, rfl⟩
set_option maxRecDepth 100000 in
set_option maxHeartbeats 4000000 in
theorem parts_any (Aw Af At : Option Addr) (nw cw nf cf nt ct : Nat) (g : Gv) (w : World) :
    Calls Tryz.prog 49 #[.agg #[.int .i64 g.nodes, .slice Aw nw cw, .slice Af nf cf, .int .i64 g.least], .slice At nt ct] w fun e w' => e = .returned (.func (.func 73) #[] #[.pointer (some ⟨w.heap.size, 0, none⟩), .pointer (some ⟨w.heap.size + 1, 0, none⟩)]) ∧ (w.alloc (.cells #[.int .i64 g.nodes, .slice Aw nw cw, .slice Af nf cf, .int .i64 g.least] 25)).alloc (.cells #[.slice At nt ct] 26) = w' := by
  go_enter Tryz.func49, Tryz.ntmps49
  go_wp2
  go_ret
  exact ⟨by first | rfl | simp, rfl⟩
end Go.Proofs.YtbnfnpakibkboaaGreat

namespace Go.Proofs.YtbnfnpakibkboaaGreat
set_option linter.unusedVariables false
set_option linter.unusedSimpArgs false
open Go.RowKit Go.Shelf Go.Lib Go.BigFrame
attribute [local go_sem] Oper.semAt_some

/-- the marks that ranges over functions leave -/
theorem leaves_mks {P : Program} {fn : Func} {tmps : Array Value} {R : Ending → World → Prop} {F : Fence} {n : Nat} :
    ∀ (Ds : List Nat) (W : World), Ds.Nodup → (∀ D ∈ Ds, W.heap[D]? = some (.deferred (some []))) →
      (∀ W', (∀ k, (∀ D ∈ Ds, k ≠ D) → W'.heap[k]? = W.heap[k]?) → W'.heap.size = W.heap.size → W'.os = W.os → W'.tape = W.tape → W'.output = W.output → LeavesInM F n P fn tmps R [] .returning W') →
      LeavesInM F n P fn tmps R (Ds.map fun D => { target := .collected D, args := #[] }) .returning W := by
  intro Ds
  induction Ds with
  | nil => intro W _ _ h; exact h W (fun _ _ => rfl) rfl rfl rfl rfl
  | cons D Ds ih =>
    intro W hn hd h
    have hD := hd D (by simp)
    rw [List.nodup_cons] at hn
    refine ⟨by simp, .inl ⟨_, _, rfl, run_takeDeferred hD, ih _ hn.2 (fun E hE => ?_) fun W' hb hs h1 h2 h3 => ?_⟩⟩
    · exact (World.putObj_heap_other (by rintro rfl; exact hn.1 hE)).trans (hd E (List.mem_cons_of_mem _ hE))
    · refine h W' (fun k hk => (hb k fun E hE => hk E (List.mem_cons_of_mem _ hE)).trans (World.putObj_heap_other (hk D (by simp)))) (by simpa using hs) h1 h2 h3
theorem keeps_below {B : Nat} {W W' : World} (h : Below B W W') (hB : W.heap.size ≤ B) : KeepsOthers W W' := ⟨h.size, fun k o ho _ => (h.block k (Nat.lt_of_lt_of_le (Array.getElem?_eq_some_iff.1 ho).1 hB)).trans ho⟩
theorem info60 : (Tryz.prog.info? 60).map (fun i => (i.zero, i.size, i.bytes)) = some (some (.agg #[.int .i64 0, .int .i64 0, .int .i64 0, .bool false]), 4, 32) := by kernel_rfl
theorem info132 : (Tryz.prog.info? 132).map (fun i => (i.zero, i.size, i.bytes)) = some (some (.agg #[.slice none 0 0, .slice none 0 0, .slice none 0 0]), 3, 72) := by kernel_rfl
/-- a part, with its wires and its feeders -/
structure Pv where
  nodes : List Nat
  wires : List Wv
  feeds : List Nat
/-- a slice's parts -/
structure Sc where
  A : Option Addr
  n : Nat
  c : Nat
def Sc.v (s : Sc) : Value := .slice s.A s.n s.c
structure Pm where
  s1 : Sc
  s2 : Sc
  s3 : Sc
  p : Pv
def fPm (x : Pm) : List Value := [x.s1.v, x.s2.v, x.s3.v]
theorem fPm_len (x : Pm) : (fPm x).length = 3 := rfl
theorem fPm_one (x : Pm) : ∀ u ∈ fPm x, u.oneCell' = true := by simp [fPm, Sc.v, Value.oneCell']
theorem fWv_len (x : Wv) : (fWv x).length = 4 := rfl
theorem fWv_one (x : Wv) : ∀ u ∈ fWv x, u.oneCell' = true := by simp [fWv, Value.oneCell']
def nI (l : List Nat) : List Int := l.map fun z : Nat => (z : Int)
/-- what lies behind a part's slices -/
structure PmIn (W : World) (B : Nat) (x : Pm) : Prop where
  o1 : Own W B 3 1 fI x.s1.v (nI x.p.nodes)
  o2 : Own W B 60 4 fWv x.s2.v x.p.wires
  o3 : Own W B 3 1 fI x.s3.v (nI x.p.feeds)
def wiresTo (ws : List Wv) (on : List Bool) (ns : List Nat) (k : Nat) : List Wv := (((ws.zip on).take k).filter (fun p => p.2 && decide (p.1.a ∈ nI ns))).map (·.1)
def feedsTo (fs : List Fv) (ns : List Nat) (k : Nat) : List Nat := (List.range k).filter (fun i => decide (((fs[i]?).map Fv.pl).getD (-1) ∈ nI ns))
def partV (g : Gv) (on : List Bool) (ns : List Nat) : Pv := ⟨ns, wiresTo g.wires on ns g.wires.length, feedsTo g.feeds ns g.feeds.length⟩
theorem wiresTo_succ {ws : List Wv} {on : List Bool} {ns : List Nat} {k : Nat} {x : Wv} {y : Bool} (h1 : ws[k]? = some x) (h2 : on[k]? = some y) : wiresTo ws on ns (k + 1) = wiresTo ws on ns k ++ (if y && decide (x.a ∈ nI ns) then [x] else []) := by
  unfold wiresTo
  obtain ⟨k1, e1⟩ := List.getElem?_eq_some_iff.1 h1
  obtain ⟨k2, e2⟩ := List.getElem?_eq_some_iff.1 h2
  have hz : k < (ws.zip on).length := by rw [List.length_zip]; omega
  have e : (ws.zip on)[k] = (x, y) := by rw [List.getElem_zip, e1, e2]
  rw [List.take_succ_eq_append_getElem hz, List.filter_append, List.map_append, e]
  congr 1
  rw [List.filter_cons]
  split <;> simp
theorem feedsTo_succ {fs : List Fv} {ns : List Nat} {k : Nat} {x : Fv} (h : fs[k]? = some x) : feedsTo fs ns (k + 1) = feedsTo fs ns k ++ (if decide (x.pl ∈ nI ns) then [k] else []) := by
  unfold feedsTo
  rw [List.range_succ, List.filter_append]
  congr 1
  rw [List.filter_cons, h]
  split <;> simp_all
theorem wiresTo_len (ws : List Wv) (on : List Bool) (ns : List Nat) (k : Nat) : (wiresTo ws on ns k).length ≤ ws.length := by
  unfold wiresTo
  rw [List.length_map]
  refine Nat.le_trans (List.length_filter_le _ _) ?_
  rw [List.length_take, List.length_zip]; omega
theorem feedsTo_len (fs : List Fv) (ns : List Nat) (k : Nat) : (feedsTo fs ns k).length ≤ k := by
  unfold feedsTo
  refine Nat.le_trans (List.length_filter_le _ _) ?_
  rw [List.length_range]; omega
section
variable {w w' : World} {B B' : Nat} {x : Pm}
theorem PmIn.below (h : PmIn w B x) (hb : Below B' w w') (hB : w.heap.size ≤ B') : PmIn w' B x := ⟨h.o1.below hb hB, h.o2.below hb hB, h.o3.below hb hB⟩
theorem PmIn.lower (h : PmIn w B x) (hb : B' ≤ B) : PmIn w B' x := ⟨h.o1.lower hb, h.o2.lower hb, h.o3.lower hb⟩
theorem PmIn.of_blocks (h : PmIn w B x) (hb : ∀ k, (x.s1.v.ownBlock = some k ∨ x.s2.v.ownBlock = some k ∨ x.s3.v.ownBlock = some k) → w'.heap[k]? = w.heap[k]?) : PmIn w' B x :=
  ⟨h.o1.of_blocks (fun k e => hb k (.inl e)), h.o2.of_blocks (fun k e => hb k (.inr (.inl e))), h.o3.of_blocks (fun k e => hb k (.inr (.inr e)))⟩
end
/-- an own row's block has the type of its elements -/
theorem own_type {α : Type} {f : α → List Value} {w : World} {base size : Nat} {e : TypeId} {v : Value} {l : List α} (h : Own w base e size f v l) {k : Nat} (hk : v.ownBlock = some k) : ∃ cs, w.heap[k]? = some (.cells cs e (0, 0)) := by
  rcases h.2 with ⟨rfl, _⟩ | ⟨g, cap, cur, rfl, _, hg, _⟩
  · cases hk
  · have : g = k := Option.some.inj hk
    subst this; exact ⟨_, hg⟩
theorem own_cells {α : Type} {f : α → List Value} {w : World} {base size : Nat} {e : TypeId} {v : Value} {l : List α} (h : Own w base e size f v l) {k : Nat} {o : Obj} (hk : v.ownBlock = some k) (ho : w.heap[k]? = some o) (hc : o.isCells = false) : False := by
  obtain ⟨cs, hcs⟩ := own_type h hk
  rw [hcs] at ho; cases ho; simp [Obj.isCells] at hc
theorem own_apart {α β : Type} {f : α → List Value} {f' : β → List Value} {w : World} {base size base' size' : Nat} {e e' : TypeId} {v v' : Value} {l : List α} {l' : List β} (h : Own w base e size f v l) (h' : Own w base' e' size' f' v' l') (hne : e ≠ e') {k k' : Nat} (hk : v.ownBlock = some k) (hk' : v'.ownBlock = some k') : k ≠ k' := by
  intro e1; subst e1
  obtain ⟨_, h1⟩ := own_type h hk
  obtain ⟨_, h2⟩ := own_type h' hk'
  rw [h1] at h2; cases h2; exact hne rfl
/-- what stands between two rounds: L: the box of the list; all else below stays -/
structure PI (H L : Nat) (g : Gv) (on : List Bool) (w3 : World) (pre : List (Value × List Nat)) (W : World) : Prop where
  bl : Below L w3 W
  ok : ∀ x ∈ pre, x.2.length ≤ 10
  row : ∃ (s : Sc) (xs : List Pm), Rw W L 106 #[.slice s.A s.n s.c] ∧ Own W (H + 1) 132 3 fPm s.v xs ∧ (∀ x ∈ xs, PmIn W (H + 1) x) ∧ xs.map (·.p) = pre.map (fun y => partV g on y.2)
end Go.Proofs.YtbnfnpakibkboaaGreat
