/- What is foul of a rail: what the loop of Zone holds. -/
import Derived.Test.YtekambdnmaompaaGreatK0
import Derived.Test.YtekambdnmaompaaGreatJ3
namespace Go.Proofs.YtekambdnmaompaaGreat.SW
set_option linter.unusedVariables false
set_option linter.unusedSimpArgs false
open Go.RowKit Go.Shelf Go.Lib
attribute [local go_sem] Oper.semAt_some

set_option maxRecDepth 100000 in
set_option maxHeartbeats 4000000 in
theorem strips_seq2 (d : Nat) (hd : 3 ≤ d) (nb k rb b0 o0 c r n : Nat) (L : List S) (w : World) (hSt : StAt nb k rb (some ⟨b0, o0, none⟩) c r L w) (hn : L.length = n) (hl : 2 ≤ n) (hn2 : n ≤ 42) (hR : allR L) (hok : okL L = true) :
    SeqD Fence.wide d Tryz.prog 98 #[.pointer (some ⟨k, 0, none⟩), .pointer (some ⟨rb, 0, none⟩)] (fun x : SwM => #[.agg (fSw x).toArray]) (KT nb nb) (fun x W => DSw nb x W ∧ x.s ∈ alongL r L) (fun xs => xs.map (·.s) = alongL r L) (n - 1) w := by
  intro l J W hW hJ hY h0
  have hne : L ≠ [] := by intro h; subst h; simp at hn; omega
  have hSW := hSt.below hne hW (Nat.le_refl _)
  clear hSt
  refine callsIn_of_wp Tryz.func98 rfl trivial ?_ rfl
  simp only [Tryz.ntmps98, List.size_toArray, List.length_cons, List.length_nil, Nat.reduceAdd, Nat.reduceSub, Array.replicate_succ, Array.replicate_zero, List.push_toArray, List.append_toArray, List.nil_append, List.cons_append]
  gi_wp2
  refine wpIn_loop (fun a W' => ∃ (j : Nat) (xs : List SwM) (v6 v7 v10 : Value), a = FS l k rb j (lenTo L j : Nat) v6 v7 v10 (fun i => a.tmps.getD i undef) ∧ j + 1 ≤ n ∧ xs.map (·.s) = (alongL r L).take j ∧ J xs W' ∧ StAt nb k rb (some ⟨b0, o0, none⟩) c r L W') (fun a _ => n - (intOf (a.tmps.getD 5 undef)).toNat) ?atStart ?round
  case atStart => exact ⟨0, [], _, _, _, rfl, by omega, rfl, h0, hSW⟩
  case round =>
    rintro a W1 ⟨j, xs, v6, v7, v10, ha, hj, hxs, hJ1, hS1⟩
    obtain ⟨u, rfl⟩ : ∃ u, a = FS l k rb j (lenTo L j : Nat) v6 v7 v10 u := ⟨_, ha⟩
    clear ha hSW h0
    have x1 := hS1.x1
    rw [hn] at x1
    have HS1 := Lib.hid hS1
    have HX := Lib.hid (And.intro hxs hJ1)
    clear hxs hJ1 hS1
    simp only [FS]
    by_cases hlt : j + 1 < n
    · have hlt' : (j : Int) + 1 < (n : Int) := by omega
      change Code.wpIn Fence.wide d Tryz.prog (.seq (sqL b98) (.seq (.block 1 (prepA (prepB c13))) (sqR (sqR b98)))) _ _ _
      gi_wp2
      conv => arg 4; whnf
      gi_wp2
      refine wpIn_wide.2 ?_
      refine at_fs l k rb j (lenTo L j : Nat) v6 v7 v10 rfl fun u => ?_
      refine prepA_wp l k rb j r c n b0 o0 L W1 v6 v7 v10 u _ _ x1 HS1.out.x2 HS1.out.sl hn hn2 hlt hR hok ?_
      rintro a2 W2 A B T ha2 hA hB hT hA1 hB1 hAT hBT hT1 hfr hb2
      obtain ⟨u2, rfl⟩ : ∃ u2, a2 = FS l k rb j (lenTo L j : Nat) (.pointer (some ⟨A, 0, none⟩)) (.pointer (some ⟨B, 0, none⟩)) (.pointer (some ⟨T, 0, none⟩)) u2 := ⟨_, ha2⟩
      clear ha2 x1
      have hTl := World.block_lt_of_cell? W2 _ (hT 8 _ rfl)
      have hAl := World.block_lt_of_cell? W2 _ hA.1
      have hBl := World.block_lt_of_cell? W2 _ hB.1
      have hS2 := HS1.out.below hne hb2 (Nat.le_refl _)
      have y2 := hS2.x1
      rw [hn] at y2
      obtain ⟨base, hbase⟩ : ∃ z, W2.heap.size = z := ⟨_, rfl⟩
      unfold prepB
      go_wp2
      refine bend1_wp l k rb j c n b0 o0 A B T L W2 _ (sAt L j) [] (.slice none 0 0) _ base u2 _ _ y2 hS2.sl hn hn2 hlt hR hT (Own.nil _ _ _ _ _) (by simp) hA hAT (by omega) (by omega) (by omega) hfr ?_
      rintro a3 W3 v3 ha3 hT3 hv3 hfr3 hb3 hc3
      obtain ⟨u3, rfl⟩ : ∃ u3, a3 = FS l k rb j (lenTo L j : Nat) (.pointer (some ⟨A, 0, none⟩)) (.pointer (some ⟨B, 0, none⟩)) (.pointer (some ⟨T, 0, none⟩)) u3 := ⟨_, ha3⟩
      clear ha3
      have hb13 := hb2.trans (hb3.mono hT1)
      have hS3 := HS1.out.below hne hb13 (Nat.le_refl _)
      have y3 := hS3.x1
      rw [hn] at y3
      have hB3 : B1s B (sAt L (j + 1)) W3 := ⟨hc3 ⟨B, 0, none⟩ (by show B < base; omega) hBT _ hB.1, hc3 ⟨B, 1, none⟩ (by show B < base; omega) hBT _ hB.2⟩
      have hz3 := hb3.size
      go_wp2
      refine bend2_wp l k rb j c n b0 o0 A B T L W3 _ (sAt L (j + 1)) _ v3 _ base u3 _ _ y3 hS3.sl hn hn2 hlt hR hT3 hv3 (by simp; split <;> simp) hB3 hBT (by omega) (by omega) (by omega) hfr3 ?_
      rintro a4 W4 v4 ha4 hT4 hv4 hfr4 hb4 hc4
      obtain ⟨u4, rfl⟩ : ∃ u4, a4 = FS l k rb j (lenTo L j : Nat) (.pointer (some ⟨A, 0, none⟩)) (.pointer (some ⟨B, 0, none⟩)) (.pointer (some ⟨T, 0, none⟩)) u4 := ⟨_, ha4⟩
      clear ha4
      have hb14 := hb13.trans (hb4.mono hT1)
      have hS4 := HS1.out.below hne hb14 (Nat.le_refl _)
      obtain ⟨Ab, cb, rfl, hcb1, hcb2, _⟩ := hv4.form
      have c0 := hT4 0 _ rfl
      have c1 := hT4 1 _ rfl
      have c2 := hT4 2 _ rfl
      have c3 := hT4 3 _ rfl
      have c4 := hT4 4 _ rfl
      have c5 := hT4 5 _ rfl
      have c6 := hT4 6 _ rfl
      have c7 := hT4 7 _ rfl
      have c8 := hT4 8 _ rfl
      have c9 := hT4 9 _ rfl
      have c10 := hT4 10 _ rfl
      have c11 := hT4 11 _ rfl
      have c12 := hT4 12 _ rfl
      have hnt : ∀ q, W1.heap.size ≤ q → ¬ Tch nb nb W4 q := fun q hq h => by
        have := HS1.out.bd _ (Tch.of_cells (fun i => hb14.cell (p := ⟨nb, i, none⟩) HS1.out.lt.2.2) (fun i => hb14.cell (p := ⟨nb, i, none⟩) HS1.out.lt.2.2) h)
        omega
      have hD : DSw nb ⟨stripAt r L j, Ab, cb⟩ W4 := ⟨hv4.sl fS_len rfl, fun a ha => by
        subst ha
        obtain ⟨h1, h2⟩ := hv4.lt a.block rfl
        exact ⟨h2, hnt _ (by have := hb2.size; omega)⟩, ⟨hcb1, hcb2⟩, fun a ha => by
        subst ha
        have h1 := (hv4.lt a.block rfl).1
        have h2 := HS1.out.lt.2.2
        have h3 := hb2.size
        omega⟩
      have hJ4 := jbelow hJ HX.out.2 hb14
      have hlen : xs.length = j := by
        have := congrArg List.length HX.out.1
        rw [List.length_map, List.length_take, alongL_len, hn] at this
        omega
      obtain ⟨fn, tmps, assign, body, hy, hRd⟩ := hY xs ⟨stripAt r L j, Ab, cb⟩ W4 hJ4 ⟨hD, List.mem_map.2 ⟨j, List.mem_range.2 (by omega), rfl⟩⟩ (by omega)
      have hy2 : (Instr.yield l #[.agg #[.int .i64 (r : Int), .int .i64 (j : Int), .int .i64 (sAt L j).x, .int .i64 (sAt L j).y, .int .i64 (sAt L (j + 1)).x, .int .i64 (sAt L (j + 1)).y, .int .i64 (lenTo L j : Nat), .int .i64 (lenTo L (j + 1) : Nat), .slice Ab (([] ++ if isBendB L j then [sAt L j] else []) ++ if isBendB L (j + 1) then [sAt L (j + 1)] else []).length cb, .int .i64 (min (sAt L j).x (sAt L (j + 1)).x), .int .i64 (min (sAt L j).y (sAt L (j + 1)).y), .int .i64 (max (sAt L j).x (sAt L (j + 1)).x), .int .i64 (max (sAt L j).y (sAt L (j + 1)).y)]]).run Tryz.prog W4 = .ok (.round l fn tmps assign body) W4 := hy
      obtain ⟨m, hm⟩ : ∃ m, (([] ++ if isBendB L j then [sAt L j] else []) ++ if isBendB L (j + 1) then [sAt L (j + 1)] else [] : List S).length = m := ⟨_, rfl⟩
      rw [hm] at c8 hy2
      have HRD := Lib.hid (And.intro hRd (And.intro hS4 (And.intro hnt hT1)))
      have HT4 := Lib.hid hT4
      clear hm hRd hy hD hv4 hT4 hc4 hb4 hc3 hb3 hv3 hT3 hT hA hB hb2 hb13 hb14 hS2 hS3 hS4 y2 y3 hB3 hcb1 hcb2 hJ4 hnt hfr hfr3 hfr4
      go_wp2
      refine (wpIn_wide (n := d)).1 ?_
      conv => arg 4; whnf
      simp only [FS]
      gi_wp2
      refine ⟨(fun h => by cases h), HRD.out.1.mono ?_⟩
      rintro e W5 ⟨rfl, hJ5, hk5⟩
      have c7' := hk5.cell c7 (HRD.out.2.2.1 _ HRD.out.2.2.2)
      gi_wp2
      conv => arg 4; whnf
      gi_wp2
      refine ⟨⟨j + 1, xs ++ [⟨stripAt r L j, Ab, cb⟩], .pointer (some ⟨A, 0, none⟩), .pointer (some ⟨B, 0, none⟩), .pointer (some ⟨T, 0, none⟩), ?f, by omega, ?m, hJ5, HRD.out.2.1.keep hne hk5⟩, ?meas⟩
      case m =>
        have hja : j < (alongL r L).length := by rw [alongL_len, hn]; omega
        rw [List.map_append, HX.out.1, List.take_succ_eq_append_getElem hja, alongL_at hja]
        rfl
      case f => rfl
      case meas => simp [intOf, FS]; omega
    · obtain rfl : n = j + 1 := by omega
      gi_wp2
      go_end0
      refine ⟨⟨_, rfl⟩, xs, ?_, HX.out.2⟩
      rw [HX.out.1, List.take_of_length_le (by rw [alongL_len, hn]; omega)]

def zfoldS (fo : Swp → Bool) (l : List Swp) : List C3 := l.foldl (fun acc x => if fo x then zput acc x.rail x.bg x.en else acc) []
def zfold (fo : Swp → Bool) (xs : List SwM) : List C3 := zfoldS fo (xs.map (·.s))
theorem zfold_snoc (fo : Swp → Bool) (pre : List SwM) (x : SwM) : zfold fo (pre ++ [x]) = if fo x.s then zput (zfold fo pre) x.s.rail x.s.bg x.s.en else zfold fo pre := by
  unfold zfold zfoldS
  rw [List.map_append, List.foldl_append]
  rfl
theorem zfold_along {fo : Swp → Bool} {r : Nat} {L : List S} : ∀ k, zfoldS fo ((List.range k).map (stripAt r L)) = zoneL r L (fun j => fo (stripAt r L j)) k
  | 0 => rfl
  | k + 1 => by
    have ih := zfold_along (fo := fo) (r := r) (L := L) k
    unfold zfoldS at ih ⊢
    rw [List.range_succ, List.map_append, List.foldl_append, ih]
    rfl
theorem zfold_len (fo : Swp → Bool) (xs : List SwM) : (zfold fo xs).length ≤ xs.length := by
  have key : ∀ (l : List Swp) (acc : List C3), (l.foldl (fun acc x => if fo x then zput acc x.rail x.bg x.en else acc) acc).length ≤ acc.length + l.length := fun l => by
    induction l with
    | nil => intro acc; simp
    | cons x l ih =>
      intro acc
      rw [List.foldl_cons, List.length_cons]
      refine Nat.le_trans (ih _) ?_
      split
      · have := zput_len acc x.rail x.bg x.en; omega
      · omega
  have := key (xs.map (·.s)) []
  simpa [zfold, zfoldS] using this
theorem tch_oneT {nb : Nat} {W : World} {v : Value} {t : TypeId} (h : W.heap[nb]? = some (.cells #[v] t (0, 0))) : ∀ j, Tch nb nb W j → j = nb ∨ v.ownBlock = some j := by
  rintro j (rfl | rfl | ⟨b, i, u, hb, hc, hu⟩)
  · exact .inl rfl
  · exact .inl rfl
  · obtain rfl : b = nb := by rcases hb with h | h <;> exact h
    rw [cell_of_row _ _ i _ _ _ h] at hc
    cases i with
    | zero => right; simp at hc; rw [hc]; exact hu
    | succ i => simp at hc
/-- what the loop of Zone holds -/
structure ZI (fo : Swp → Bool) (nb base : Nat) (w1 : World) (pre : List SwM) (W : World) : Prop where
  ex : ∃ v, W.heap[nb]? = some (.cells #[v] 69 (0, 0)) ∧ Own W base 79 3 fC v (zfold fo pre) ∧ (∀ j, Tch nb nb W j → j = nb ∨ v.ownBlock = some j)
  bl : Below nb w1 W
  sz : base ≤ W.heap.size ∧ nb < base
theorem ZI.own {fo : Swp → Bool} {nb base B : Nat} {w1 : World} (hw : nb ≤ w1.heap.size) (hB : nb ≤ B) : OwnFrom B (ZI fo nb base w1) := by
  rintro pre W W' row ⟨⟨v, hv, ho, ht⟩, hb, hs⟩ hg hrB
  have hr : ∀ r, row = some r → ∃ o : Obj, W.heap[r]? = some o ∧ o.isCells = false := fun r e => (hrB r e).2
  have hnb : nb < W.heap.size := by omega
  have hcl : ∀ i, W'.cell? ⟨nb, i, none⟩ = W.cell? ⟨nb, i, none⟩ := fun i => World.cell?_of_block (grownBy_keeps_cells hg hr hv rfl)
  refine ⟨⟨v, (grownBy_keeps_cells hg hr hv rfl).trans hv, ?_, fun j hj => ht j (Tch.of_cells hcl hcl hj)⟩, ?_, ?_, hs.2⟩
  · refine ho.of_blocks fun k hk2 => ?_
    rcases ho.2 with ⟨rfl, _⟩ | ⟨g, cap, cur, rfl, _, hg2, _⟩
    · cases hk2
    · cases hk2; exact grownBy_keeps_cells hg hr hg2 rfl
  · exact hb.grown hg (Nat.le_trans hw hb.size) fun k hk => Nat.le_trans hB (hrB k hk).1
  · have := hg.size; omega
/-- the frame of Zone, in a round -/
def FZ (k7 k9 k12 xb bt : Nat) (u : Nat → Value) : Act := ⟨#[u 0, u 1, u 2, u 3, u 4, u 5, u 6, .pointer (some ⟨k7, 0, none⟩), u 8, .pointer (some ⟨k9, 0, none⟩), u 10, u 11, .pointer (some ⟨k12, 0, none⟩), .pointer (some ⟨bt, 0, none⟩), .pointer (some ⟨xb, 0, none⟩), u 15, u 16, u 17, u 18, u 19, u 20, u 21, u 22, u 23, u 24, u 25, u 26, u 27, u 28, u 29, u 30, u 31, u 32, u 33, u 34, u 35, u 36, u 37, u 38, u 39, u 40, u 41, u 42, u 43, u 44, u 45, u 46, u 47, u 48, u 49, u 50, u 51, u 52, u 53, u 54, u 55, u 56, u 57, u 58, u 59, u 60, u 61, u 62, u 63, u 64, u 65, u 66, u 67, u 68, u 69, u 70, u 71, u 72, u 73, u 74, u 75, u 76, u 77, u 78, u 79, u 80, u 81, u 82, u 83, u 84], []⟩
/-- between the loop variable's box and the body -/
structure ZB (fo : Swp → Bool) (P : Swp → Prop) (k7 k9 k12 nb base : Nat) (w1 : World) (t : List SwM × SwM × Act) (W : World) : Prop where
  ai : ZI fo nb base w1 t.1 W
  ds : DSw nb t.2.1 W ∧ P t.2.1.s
  bx : ∃ xb : Nat, W.heap[xb]? = some (.cells (fSw t.2.1).toArray 98 (0, 0)) ∧ ¬ Tch nb nb W xb ∧ t.2.2 = FZ k7 k9 k12 xb nb (fun i => t.2.2.tmps.getD i undef)
theorem ZB.own {fo : Swp → Bool} {P : Swp → Prop} {k7 k9 k12 nb base B : Nat} {w1 : World} (hw : nb ≤ w1.heap.size) (hB : nb ≤ B) : OwnFrom B (ZB fo P k7 k9 k12 nb base w1) := by
  rintro ⟨pre, x, a⟩ W W' row ⟨ha, ⟨hd, hp⟩, xb, hx, hnt, e⟩ hg hrB
  have hr : ∀ r, row = some r → ∃ o : Obj, W.heap[r]? = some o ∧ o.isCells = false := fun r e => (hrB r e).2
  obtain ⟨v, hv, _, _⟩ := ha.ex
  have hnb : nb < W.heap.size := by have := ha.sz; omega
  have hcl : ∀ i, W'.cell? ⟨nb, i, none⟩ = W.cell? ⟨nb, i, none⟩ := fun i => World.cell?_of_block (grownBy_keeps_cells hg hr hv rfl)
  exact ⟨ZI.own hw hB pre W W' row ha hg hrB, ⟨hd.keep (kt_own hnb ⟨_, hv, rfl⟩ hg hr), hp⟩, xb, (grownBy_keeps_cells hg hr hx rfl).trans hx, fun h => hnt (Tch.of_cells hcl hcl h), e⟩
theorem ZI.push {fo : Swp → Bool} {nb base : Nat} {w1 W w4 : World} {pre : List SwM} {x : SwM} {v v' : Value} {o : Obj} (h : ZI fo nb base w1 pre W) (hv : W.heap[nb]? = some (.cells #[v] 69 (0, 0))) (hown : Own W base 79 3 fC v (zfold fo pre))
    (htc : ∀ j, Tch nb nb W j → j = nb ∨ v.ownBlock = some j) (hg : (W.alloc o).grownBy w4 v.ownBlock) (ho : Own w4 base 79 3 fC v' (zfold fo (pre ++ [x]))) (hw : v'.ownBlock = v.ownBlock ∨ v'.ownBlock = some (W.alloc o).heap.size) :
    KeepsOthers W (w4.setCell ⟨nb, 0, none⟩ v') ∧ KT nb nb W (w4.setCell ⟨nb, 0, none⟩ v') ∧ ZI fo nb base w1 (pre ++ [x]) (w4.setCell ⟨nb, 0, none⟩ v') := by
  obtain ⟨hsz, hsz2⟩ := h.sz
  have hnb : nb < W.heap.size := by omega
  have hvl := hown.lt
  have hal : ∀ k, k < W.heap.size → (W.alloc o).heap[k]? = W.heap[k]? := fun k hk => Below.heap_alloc _ _ _ hk
  have hz : (W.alloc o).heap.size = W.heap.size + 1 := by simp
  have hz4 := hg.size
  have hnr : some nb ≠ v.ownBlock := fun e => by have := (hvl nb e.symm).1; omega
  have h4 : ∀ k, k < W.heap.size → some k ≠ v.ownBlock → w4.heap[k]? = W.heap[k]? := fun k hk hne => (hg.block k (by omega) hne).trans (hal k hk)
  have hother : ∀ k, k ≠ nb → (w4.setCell ⟨nb, 0, none⟩ v').heap[k]? = w4.heap[k]? := fun k hk => Below.heap_setCell _ _ _ k hk
  have hs5 : (w4.setCell ⟨nb, 0, none⟩ v').heap.size = w4.heap.size := World.size_setCell _ _ _
  have hn5 : (w4.setCell ⟨nb, 0, none⟩ v').heap[nb]? = some (.cells #[v'] 69 (0, 0)) := by
    rw [heap_set_same _ ((h4 nb hnb hnr).trans hv)]; simp
  have ht5 : ∀ j, Tch nb nb (w4.setCell ⟨nb, 0, none⟩ v') j → j = nb ∨ v'.ownBlock = some j := tch_oneT hn5
  have tv : ∀ j, v.ownBlock = some j → Tch nb nb W j := fun j hj => .inr (.inr ⟨nb, 0, v, .inl rfl, cell_of_row _ _ 0 _ _ _ hv, hj⟩)
  have hko : KeepsOthers W (w4.setCell ⟨nb, 0, none⟩ v') := (KeepsOthers.alloc _ _).trans ((KeepsOthers.of_grownBy hg fun j o' hj ho' => by
    rcases (hown.alloc o).2 with ⟨rfl, _⟩ | ⟨g, cap, cur, rfl, _, hg2, _⟩
    · cases hj
    · cases hj; rw [hg2] at ho'; cases ho'; rfl).trans (KeepsOthers.setCell _ _ _))
  have hkt : KT nb nb W (w4.setCell ⟨nb, 0, none⟩ v') := by
    refine ⟨by rw [hs5]; omega, fun k c t f hk hn => ?_, fun k hk => ?_, fun hb k hk => ?_⟩
    · have hkl := (Array.getElem?_eq_some_iff.1 hk).1
      exact (hother k fun e => hn (.inl e)).trans ((h4 k hkl fun e => hn (tv k e.symm)).trans hk)
    · rcases ht5 k hk with e | e
      · exact .inl (.inl e)
      · rcases hw with h1 | h1 <;> rw [h1] at e
        · exact .inl (tv k e)
        · cases e; right; omega
    · rcases ht5 k hk with e | e
      · omega
      · have := (ho.lt k e).2; omega
  refine ⟨hko, hkt, ⟨⟨v', hn5, ho.of_blocks fun k hk => hother k fun e => by have := (ho.lt k hk).1; omega, ht5⟩, ?_, by omega, hsz2⟩⟩
  · refine h.bl.trans ⟨hg.os, hg.tape, hg.output, by rw [hs5]; omega, fun k hk => (hother k (by omega)).trans (h4 k (by omega) fun e => by have := (hvl k e.symm).1; omega)⟩
theorem keeps_below {B : Nat} {W W' : World} (h : Below B W W') (hB : W.heap.size ≤ B) : KeepsOthers W W' := ⟨h.size, fun k o ho _ => (h.block k (Nat.lt_of_lt_of_le (Array.getElem?_eq_some_iff.1 ho).1 hB)).trans ho⟩
theorem ZI.below {fo : Swp → Bool} {nb base : Nat} {w1 W W' : World} {pre : List SwM} (h : ZI fo nb base w1 pre W) (hb : Below W.heap.size W W') : ZI fo nb base w1 pre W' := by
  obtain ⟨⟨v, hv, ho, ht⟩, hbl, hs⟩ := h
  have hnb : nb < W.heap.size := by omega
  have hcl : ∀ i, W'.cell? ⟨nb, i, none⟩ = W.cell? ⟨nb, i, none⟩ := fun i => World.cell?_of_block (hb.block nb hnb)
  refine ⟨⟨v, (hb.block nb hnb).trans hv, ho.below hb (Nat.le_refl _), fun j hj => ht j (Tch.of_cells hcl hcl hj)⟩, hbl.trans (hb.mono (by omega)), by have := hb.size; omega, hs.2⟩
theorem ZI.same {fo : Swp → Bool} {nb base : Nat} {w1 W : World} {pre : List SwM} {x : SwM} (h : ZI fo nb base w1 pre W) (he : zfold fo (pre ++ [x]) = zfold fo pre) : ZI fo nb base w1 (pre ++ [x]) W := by
  obtain ⟨⟨v, hv, ho, ht⟩, hbl, hs⟩ := h
  exact ⟨⟨v, hv, by rw [he]; exact ho, ht⟩, hbl, hs⟩
theorem ZI.store {fo : Swp → Bool} {nb base g cap n : Nat} {w1 W : World} {pre : List SwM} {x : SwM} {l : List C3} {y : C3} (t : Int) (h : ZI fo nb base w1 pre W) (hv : W.heap[nb]? = some (.cells #[.slice (some ⟨g, 0, none⟩) (n + 1) cap] 69 (0, 0)))
    (hown : Own W base 79 3 fC (.slice (some ⟨g, 0, none⟩) (n + 1) cap) (l ++ [y])) (hn : l.length = n) (he : zfold fo (pre ++ [x]) = l ++ [⟨y.rail, y.frm, t⟩]) :
    KeepsOthers W (W.setCell ⟨g, n * 3 + 2, none⟩ (.int .i64 t)) ∧ KT nb nb W (W.setCell ⟨g, n * 3 + 2, none⟩ (.int .i64 t)) ∧ ZI fo nb base w1 (pre ++ [x]) (W.setCell ⟨g, n * 3 + 2, none⟩ (.int .i64 t)) := by
  obtain ⟨hsz, hsz2⟩ := h.sz
  have hgl := hown.lt g rfl
  have hne : nb ≠ g := by omega
  have hs := Own.setTo t hn hown
  have hother : ∀ k, k ≠ g → (W.setCell ⟨g, n * 3 + 2, none⟩ (.int .i64 t)).heap[k]? = W.heap[k]? := fun k hk => Below.heap_setCell _ _ _ k hk
  have hz : (W.setCell ⟨g, n * 3 + 2, none⟩ (.int .i64 t)).heap.size = W.heap.size := World.size_setCell _ _ _
  have hv2 : (W.setCell ⟨g, n * 3 + 2, none⟩ (.int .i64 t)).heap[nb]? = some (.cells #[.slice (some ⟨g, 0, none⟩) (n + 1) cap] 69 (0, 0)) := (hother nb hne).trans hv
  have ht2 := tch_oneT hv2
  have ht1 := tch_oneT hv
  have tg : Tch nb nb W g := .inr (.inr ⟨nb, 0, _, .inl rfl, cell_of_row _ _ 0 _ _ _ hv, rfl⟩)
  refine ⟨KeepsOthers.setCell _ _ _, ⟨by rw [hz]; exact Nat.le_refl _, fun k c t f hk hn => (hother k fun e => hn (by rw [e]; exact tg)).trans hk, fun k hk => ?_, fun hb k hk => ?_⟩, ⟨⟨_, hv2, by rw [he]; exact hs.1, ht2⟩, h.bl.trans ((Below.refl _ _).setCell (by show nb ≤ g; omega) _), by rw [hz]; exact hsz, hsz2⟩⟩
  · rcases ht2 k hk with e | e
    · exact .inl (.inl e)
    · cases e; exact .inl tg
  · rw [hz]
    rcases ht2 k hk with e | e
    · omega
    · cases e; exact hgl.2
end Go.Proofs.YtekambdnmaompaaGreat.SW
