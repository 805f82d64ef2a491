/- Contracts at the plan of the examples. -/
import Derived.Test.YtcpanfpijljeaaaW1
import Derived.Test.YtcpanfpijljeaaaKn
namespace Go.Proofs.Ytcpanfpijljeaaa
set_option linter.unusedVariables false
set_option linter.unusedSimpArgs false
open Go.RowKit

def PlainPost (v : Value) (w : World) (e : Ending) (w' : World) : Prop := e = .returned v ∧ Below w.heap.size w w'
theorem Length_ex (A A2 : Option Addr) (w : World) (h : PlAt w w.heap.size A 4 A2 3 exP) : Calls Try.prog 12 #[.agg #[.slice A 4 4, .slice A2 3 3], .int .i64 2] w (PlainPost (.tuple #[.int .i64 1240, .int .i64 0]) w) := by
  refine (Length_any A A2 4 3 exP 2 w h).mono ?_
  rintro e w' ⟨⟨_, _, rfl⟩ | ⟨h1 | h1, _⟩, hb⟩
  · exact ⟨by rw [ex_len2], hb⟩
  · exact absurd ex_valid h1
  · exact absurd h1 (by decide)
def NextExPost (w : World) (e : Ending) (w' : World) : Prop := (∃ A c, e = .returned (.tuple #[.slice A 2 c, .int .i64 0]) ∧ Sl w' w'.heap.size 2 CE A [⟨1, false⟩, ⟨2, false⟩]) ∧ Below w.heap.size w w'
theorem Next_ex (A A2 : Option Addr) (w : World) (h : PlAt w w.heap.size A 4 A2 3 exP) : Calls Try.prog 19 #[.agg #[.slice A 4 4, .slice A2 3 3], .agg #[.int .i64 0, .bool false]] w (NextExPost w) := by
  refine (Next_any A A2 4 3 exP ⟨0, false⟩ w h).mono ?_
  rintro e w' ⟨⟨_, _, v, rfl, ho⟩ | ⟨h1 | h1, _⟩, hb⟩
  · rw [show (nextL exP (keyE ⟨0, false⟩)).map moveE = [⟨1, false⟩, ⟨2, false⟩] by rw [show keyE ⟨0, false⟩ = 0 from rfl, ex_next0]; rfl] at ho
    obtain ⟨A3, c3, rfl, _, _, _⟩ := ho.form
    exact ⟨⟨A3, c3, rfl, (ho.sl fE_len rfl).keep (fun _ _ h => h) fun _ _ => rfl⟩, hb⟩
  · exact absurd ex_valid h1
  · exact absurd h1 (by decide)
theorem Between_ex (A A2 : Option Addr) (w : World) (h : PlAt w w.heap.size A 4 A2 3 exP) : Calls Try.prog 21 #[.agg #[.slice A 4 4, .slice A2 3 3], .agg #[.int .i64 0, .bool false], .agg #[.int .i64 2, .bool false]] w (PlainPost (.tuple #[.agg #[.int .i64 1, .int .i64 2], .int .i64 0]) w) := by
  refine (Between_any A A2 4 3 exP ⟨0, false⟩ ⟨2, false⟩ w h).mono ?_
  rintro e w' ⟨⟨h1 | h1 | h1, _⟩ | ⟨_, _, _, ⟨h1, _⟩ | ⟨_, _, rfl⟩⟩, hb⟩
  · exact absurd ex_valid h1
  · exact absurd h1 (by decide)
  · exact absurd h1 (by decide)
  · exact absurd ⟨ex_fol04, ex_kind⟩ h1
  · exact ⟨by rw [show keyE ⟨0, false⟩ = 0 from rfl, show keyE ⟨2, false⟩ = 4 from rfl, ex_at, ex_set], hb⟩
theorem ex_way : wayOk exP [⟨2, true⟩, ⟨0, true⟩] := by
  refine ⟨by decide, by decide, fun j hj => ?_⟩
  rcases (show j = 0 ∨ j = 1 by simp at hj; omega) with rfl | rfl
  · exact ⟨by decide, fun h => absurd h (by omega)⟩
  · exact ⟨by decide, fun _ => ex_fol51⟩
def CovExPost (w : World) (e : Ending) (w' : World) : Prop := (∃ A c, e = .returned (.tuple #[.slice A 2 c, .int .i64 0]) ∧ Sl w' w'.heap.size 3 CC A [⟨2, 0, 540⟩, ⟨0, 740, 1000⟩]) ∧ Below w.heap.size w w'
theorem Covers_ex (A A2 Aw : Option Addr) (w : World) (h : PlAt w w.heap.size A 4 A2 3 exP) (hA : Sl w w.heap.size 2 CE Aw [⟨2, true⟩, ⟨0, true⟩]) :
    Calls Try.prog 36 #[.agg #[.slice A 4 4, .slice A2 3 3], .slice Aw 2 2, .int .i64 1500, .int .i64 800] w (CovExPost w) := by
  refine (Covers_any A A2 Aw 4 3 2 exP [⟨2, true⟩, ⟨0, true⟩] 1500 800 w h hA (by decide)).mono ?_
  rintro e w' ⟨⟨_, v, rfl, ho⟩ | ⟨h1, _⟩, hb⟩
  · rw [show covL exP ([⟨2, true⟩, ⟨0, true⟩].map endNo) (1500 - 800) 1500 = [⟨2, 0, 540⟩, ⟨0, 740, 1000⟩] from ex_cov] at ho
    obtain ⟨A3, c3, rfl, _, _, _⟩ := ho.form
    exact ⟨⟨A3, c3, rfl, (ho.sl fC_len rfl).keep (fun _ _ h => h) fun _ _ => rfl⟩, hb⟩
  · refine absurd ⟨ex_valid, ex_way, by decide, by decide, ?_⟩ h1
    simp [wlen, endNo, lenAt, ex_lens]
def exRes : List C2 := [(1240, 1), (-1, 0), (-1, 0), (-1, 0), (0, 0), (-1, 0)]
theorem ex_costs : costsL (lenAt exP) (befL exP 6) (List.replicate 6 false) 6 4 5 = some exRes := by decide +kernel
def DistExPost (w : World) (e : Ending) (w' : World) : Prop := (∃ A, e = .returned (.tuple #[.slice A 6 6, .int .i64 0]) ∧ Sl w' w'.heap.size 1 CI A [1240, -1, -1, -1, 0, -1]) ∧ Below w.heap.size w w'
theorem Distances_ex (A A2 : Option Addr) (w : World) (h : PlAt w w.heap.size A 4 A2 3 exP) : Calls Try.prog 28 #[.agg #[.slice A 4 4, .slice A2 3 3], .agg #[.int .i64 2, .bool false]] w (DistExPost w) := by
  refine (Distances_any A A2 4 3 5 exRes exP ⟨2, false⟩ w h fun _ _ => ex_costs).mono ?_
  rintro e w' ⟨⟨_, _, rb, rfl, hr, hb'⟩ | ⟨h1 | h1, _⟩, hb⟩
  · exact ⟨⟨_, rfl, (show IRow w' rb [1240, -1, -1, -1, 0, -1] from hr).sl.more (fun _ _ h => h) hr.lt⟩, hb⟩
  · exact absurd ex_valid h1
  · exact absurd h1 (by decide)
theorem same_yes {α : Type} {l : List α} {w w' : World} {e : Ending} (h : SamePost l l w e w') : e = .returned (.bool true) ∧ Below w.heap.size w w' := by
  obtain ⟨⟨b, rfl, hb⟩, h2⟩ := h
  rw [hb.2 rfl]
  exact ⟨rfl, h2⟩

/-- the plan of the examples at block K, in a world that is later -/
structure Kst (w wr : World) (K : Nat) (A A2 : Option Addr) : Prop where
  k0 : wr.cell? ⟨K, 0, none⟩ = some (.slice A 4 4)
  k1 : wr.cell? ⟨K, 1, none⟩ = some (.slice A2 3 3)
  pl : PlAt wr wr.heap.size A 4 A2 3 exP
  be : Below w.heap.size w wr
  lt : K < wr.heap.size
theorem Kst.next {w wr w' : World} {K : Nat} {A A2 : Option Addr} (h : Kst w wr K A A2) (hb : Below wr.heap.size wr w') : Kst w w' K A A2 :=
  ⟨(hb.cell (p := ⟨K, 0, none⟩) h.lt).trans h.k0, (hb.cell (p := ⟨K, 1, none⟩) h.lt).trans h.k1, (h.pl.below hb).more hb.size, h.be.trans (hb.mono h.be.size), Nat.lt_of_lt_of_le h.lt hb.size⟩
theorem Sl.next {α : Type} {w w' : World} {size : Nat} {C : α → List Value → Prop} {A : Option Addr} {l : List α} (h : Sl w w.heap.size size C A l) (hb : Below w.heap.size w w') : Sl w' w'.heap.size size C A l := (h.below hb).more (fun _ _ h => h) hb.size
theorem bel_alloc (w : World) (o : Obj) : Below w.heap.size w (w.alloc o) := (Below.refl _ w).alloc (Nat.le_refl _) o
end Go.Proofs.Ytcpanfpijljeaaa
/- Contract: known: the rows of the examples come out. -/
namespace Go.Proofs.Ytcpanfpijljeaaa
open Go.RowKit

theorem new_blk (W : World) (cs : Array Value) (t : TypeId) : (W.alloc (.cells cs t)).heap[W.heap.size]? = some (.cells cs t) := heap_alloc_new W _
theorem new_moves (W : World) (a b : E) : Sl (W.alloc (.cells #[.int .i64 a.rail, .bool a.last, .int .i64 b.rail, .bool b.last] 40)) (W.alloc (.cells #[.int .i64 a.rail, .bool a.last, .int .i64 b.rail, .bool b.last] 40)).heap.size 2 CE (some ⟨W.heap.size, 0, none⟩) [a, b] :=
  Sl.blk (new_blk W _ _) (by simp) fun i x hx => by
    rcases i with _ | _ | i
    · obtain rfl : _ = x := by simpa using hx
      exact ⟨_, rfl, fun j u hu => by rcases j with _ | _ | j <;> simp_all⟩
    · obtain rfl : _ = x := by simpa using hx
      exact ⟨_, rfl, fun j u hu => by rcases j with _ | _ | j <;> simp_all⟩
    · simp at hx
theorem new_covers (W : World) (a b : C3) : Sl (W.alloc (.cells #[.int .i64 a.rail, .int .i64 a.frm, .int .i64 a.to, .int .i64 b.rail, .int .i64 b.frm, .int .i64 b.to] 82)) (W.alloc (.cells #[.int .i64 a.rail, .int .i64 a.frm, .int .i64 a.to, .int .i64 b.rail, .int .i64 b.frm, .int .i64 b.to] 82)).heap.size 3 CC (some ⟨W.heap.size, 0, none⟩) [a, b] :=
  Sl.blk (new_blk W _ _) (by simp) fun i x hx => by
    rcases i with _ | _ | i
    · obtain rfl : _ = x := by simpa using hx
      exact ⟨_, rfl, fun j u hu => by rcases j with _ | _ | _ | j <;> simp_all⟩
    · obtain rfl : _ = x := by simpa using hx
      exact ⟨_, rfl, fun j u hu => by rcases j with _ | _ | _ | j <;> simp_all⟩
    · simp at hx
theorem new_ints (W : World) (l : List Int) : Sl (W.alloc (.cells (l.map (Value.int .i64)).toArray 3)) (W.alloc (.cells (l.map (Value.int .i64)).toArray 3)).heap.size 1 CI (some ⟨W.heap.size, 0, none⟩) l :=
  (show IRow (W.alloc (.cells (l.map (Value.int .i64)).toArray 3)) W.heap.size l from heap_alloc_new W _).sl.more (fun _ _ h => h) (by simp)

set_option maxRecDepth 100000 in
set_option maxHeartbeats 4000000 in
theorem known_any (w : World) : Calls Try.prog 10 #[] w (PlainPost (.bool true) w) := by
  go_enter Try.func10, Try.ntmps10
  go_wp2_with fail
  refine (Example_any _).mono ?_
  rintro e w1 ⟨⟨A, A2, rfl, hP⟩, hb⟩
  have H1 := Lib.hid (show Kst w (w1.alloc (.cells #[.slice A 4 4, .slice A2 3 3] 25)) w1.heap.size A A2 from
    ⟨cell_of_row _ _ 0 _ _ _ (new_blk _ _ _), cell_of_row _ _ 1 _ _ _ (new_blk _ _ _), hP.box _, hb.alloc hb.size _, by simp⟩)
  clear hP hb
  go_wp2_with fail
  refine (Length_ex A A2 _ H1.out.pl).mono ?_
  rintro e w2 ⟨rfl, hb2⟩
  have H2 := Lib.hid (H1.out.next hb2)
  clear hb2 H1
  obtain ⟨k0, k1, _, _, _⟩ := H2.out
  go_wp2_with fail
  refine (Next_ex A A2 _ H2.out.pl).mono ?_
  rintro e w3 ⟨⟨A3, c3, rfl, hs3⟩, hb3⟩
  have H3 := Lib.hid (H2.out.next hb3)
  have S3 := Lib.hid hs3
  clear hb3 H2 hs3 k0 k1
  obtain ⟨k0, k1, _, _, _⟩ := H3.out
  go_wp2_with fail
  refine (Between_ex A A2 _ H3.out.pl).mono ?_
  rintro e w4 ⟨rfl, hb4⟩
  have H4 := Lib.hid ((H3.out.next hb4).next (bel_alloc w4 (.cells #[.int .i64 1, .int .i64 2] 48)))
  have S4 := Lib.hid ((S3.out.next hb4).next (bel_alloc w4 (.cells #[.int .i64 1, .int .i64 2] 48)))
  have C4 := Lib.hid (new_blk w4 #[.int .i64 1, .int .i64 2] 48)
  clear hb4 H3 S3 k0 k1
  obtain ⟨W4, hW4⟩ : ∃ W, w4.alloc (.cells #[.int .i64 1, .int .i64 2] 48) = W := ⟨_, rfl⟩
  have hz4 : w4.heap.size < W4.heap.size := by rw [← hW4]; simp
  rw [hW4] at H4 S4 C4
  obtain ⟨k0, k1, _, _, _⟩ := H4.out
  have H5 := Lib.hid (H4.out.next (bel_alloc W4 (.cells #[.int .i64 2, .bool true, .int .i64 0, .bool true] 40)))
  have S5 := Lib.hid (S4.out.next (bel_alloc W4 (.cells #[.int .i64 2, .bool true, .int .i64 0, .bool true] 40)))
  have C5 := Lib.hid (((bel_alloc W4 (.cells #[.int .i64 2, .bool true, .int .i64 0, .bool true] 40)).block w4.heap.size hz4).trans C4.out)
  go_wp2_with fail
  refine (Covers_ex A A2 (some ⟨W4.heap.size, 0, none⟩) _ H5.out.pl (new_moves W4 ⟨2, true⟩ ⟨0, true⟩)).mono ?_
  rintro e w6 ⟨⟨A5, c5, rfl, hs6⟩, hb6⟩
  have H6 := Lib.hid (H5.out.next hb6)
  have S6 := Lib.hid (S5.out.next hb6)
  have C6 := Lib.hid ((hb6.block w4.heap.size (by simp; omega)).trans C5.out)
  have hz6 : w4.heap.size < w6.heap.size := by have := hb6.size; simp at this; omega
  have T6 := Lib.hid hs6
  clear hb6 H5 S5 C5 H4 S4 C4 hs6 k0 k1 hW4
  obtain ⟨k0, k1, _, _, _⟩ := H6.out
  go_wp2_with fail
  refine (Distances_ex A A2 _ H6.out.pl).mono ?_
  rintro e w7 ⟨⟨A6, rfl, hs7⟩, hb7⟩
  have H7 := Lib.hid (H6.out.next hb7)
  have S7 := Lib.hid (S6.out.next hb7)
  have T7 := Lib.hid (T6.out.next hb7)
  have C7 := Lib.hid ((hb7.block w4.heap.size hz6).trans C6.out)
  have hz7 : w4.heap.size < w7.heap.size := by have := hb7.size; omega
  have U7 := Lib.hid hs7
  clear hb7 H6 S6 C6 T6 hs7 k0 k1
  have HA := Lib.hid (bel_alloc w7 (.cells #[.int .i64 1, .bool false, .int .i64 2, .bool false] 40))
  go_wp2_with fail
  refine (sameMoves_any A3 (some ⟨w7.heap.size, 0, none⟩) [⟨1, false⟩, ⟨2, false⟩] [⟨1, false⟩, ⟨2, false⟩] c3 2 _ (S7.out.next HA.out) (new_moves w7 ⟨1, false⟩ ⟨2, false⟩) (by decide)).mono ?_
  intro e w8 hp8
  obtain ⟨rfl, hb8⟩ := same_yes hp8
  have HB8 := Lib.hid (HA.out.trans (hb8.mono HA.out.size))
  have T8 := Lib.hid (T7.out.next HB8.out)
  have U8 := Lib.hid (U7.out.next HB8.out)
  have hc8 := (HB8.out.block w4.heap.size hz7).trans C7.out
  have y0 : w8.cell? ⟨w4.heap.size, 0, none⟩ = some (.int .i64 1) := cell_of_row _ _ 0 _ _ _ hc8
  have y1 : w8.cell? ⟨w4.heap.size, 1, none⟩ = some (.int .i64 2) := cell_of_row _ _ 1 _ _ _ hc8
  have HC := Lib.hid (bel_alloc w8 (.cells #[.int .i64 2, .int .i64 0, .int .i64 540, .int .i64 0, .int .i64 740, .int .i64 1000] 82))
  clear hp8 hb8 hc8
  go_wp2_with fail
  refine (sameCovers_any A5 (some ⟨w8.heap.size, 0, none⟩) [⟨2, 0, 540⟩, ⟨0, 740, 1000⟩] [⟨2, 0, 540⟩, ⟨0, 740, 1000⟩] c5 2 _ (T8.out.next HC.out) (new_covers w8 ⟨2, 0, 540⟩ ⟨0, 740, 1000⟩) (by decide)).mono ?_
  intro e w9 hp9
  obtain ⟨rfl, hb9⟩ := same_yes hp9
  have HB9 := Lib.hid (HC.out.trans (hb9.mono HC.out.size))
  have U9 := Lib.hid (U8.out.next HB9.out)
  have HD := Lib.hid (bel_alloc w9 (.cells #[.int .i64 1240, .int .i64 (-1), .int .i64 (-1), .int .i64 (-1), .int .i64 0, .int .i64 (-1)] 3))
  clear hp9 hb9 y0 y1
  go_wp2_with fail
  refine (same_any A6 (some ⟨w9.heap.size, 0, none⟩) [1240, -1, -1, -1, 0, -1] [1240, -1, -1, -1, 0, -1] 6 6 _ (U9.out.next HD.out) (new_ints w9 [1240, -1, -1, -1, 0, -1]) (by decide)).mono ?_
  intro e w10 hp10
  obtain ⟨rfl, hb10⟩ := same_yes hp10
  have HE := Lib.hid (H7.out.be.trans ((((HB8.out.trans (HB9.out.mono HB8.out.size)).trans (HD.out.mono (Nat.le_trans HB8.out.size HB9.out.size))).trans (hb10.mono (Nat.le_trans (Nat.le_trans HB8.out.size HB9.out.size) HD.out.size))).mono H7.out.be.size))
  clear hp10 hb10
  go_wp2
  go_ret
  exact ⟨rfl, HE.out⟩
end Go.Proofs.Ytcpanfpijljeaaa
