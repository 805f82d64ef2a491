/- TrackChecks returns true, whatever the plan and the rail. -/
import Derived.Test.YtcpanfpijljeaaaW3
import Derived.Test.YtcpanfpijljeaaaV1
import Derived.Test.YtcpanfpijljeaaaA1
namespace Go.Proofs.Ytcpanfpijljeaaa
set_option linter.unusedVariables false
set_option linter.unusedSimpArgs false
open Go.RowKit

/-- a plan at block K, in a world that is later -/
structure Gst (w wr : World) (K : Nat) (A : Option Addr) (c : Nat) (A2 : Option Addr) (c2 : Nat) (p : Pl) : Prop where
  k0 : wr.cell? ⟨K, 0, none⟩ = some (.slice A p.nodes.length c)
  k1 : wr.cell? ⟨K, 1, none⟩ = some (.slice A2 p.rails.length c2)
  pl : PlAt wr wr.heap.size A c A2 c2 p
  be : Below w.heap.size w wr
  lt : K < wr.heap.size
theorem Gst.next {w wr w' : World} {K c c2 : Nat} {A A2 : Option Addr} {p : Pl} (h : Gst w wr K A c A2 c2 p) (hb : Below wr.heap.size wr w') : Gst w w' K A c A2 c2 p :=
  ⟨(hb.cell (p := ⟨K, 0, none⟩) h.lt).trans h.k0, (hb.cell (p := ⟨K, 1, none⟩) h.lt).trans h.k1, (h.pl.below hb).more hb.size, h.be.trans (hb.mono h.be.size), Nat.lt_of_lt_of_le h.lt hb.size⟩
theorem Gst.start {w : World} {c c2 : Nat} {A A2 : Option Addr} {p : Pl} (h : PlAt w w.heap.size A c A2 c2 p) :
    Gst w (w.alloc (.cells #[.slice A p.nodes.length c, .slice A2 p.rails.length c2] 25)) w.heap.size A c A2 c2 p :=
  ⟨cell_of_row _ _ 0 _ _ _ (new_blk _ _ _), cell_of_row _ _ 1 _ _ _ (new_blk _ _ _), h.box _, (Below.refl _ w).alloc (Nat.le_refl _) _, by simp⟩

section
variable (A A2 : Option Addr) (c c2 : Nat) (p : Pl) (r : Int) (w : World)
theorem Length_in (hP : PlAt w w.heap.size A c A2 c2 p) (hv : Vld p) (hr : railIn p r = true) :
    Calls Try.prog 12 #[.agg #[.slice A p.nodes.length c, .slice A2 p.rails.length c2], .int .i64 r] w (PlainPost (.tuple #[.int .i64 (lenAt p r), .int .i64 0]) w) :=
  (Length_any A A2 c c2 p r w hP).mono fun e w' h => by
    obtain ⟨⟨_, _, rfl⟩ | ⟨h1 | h1, _⟩, hb⟩ := h
    · exact ⟨rfl, hb⟩
    · exact absurd hv h1
    · rw [hr] at h1; cases h1
theorem Length_out (hP : PlAt w w.heap.size A c A2 c2 p) (hv : ¬ Vld p ∨ railIn p r = false) :
    Calls Try.prog 12 #[.agg #[.slice A p.nodes.length c, .slice A2 p.rails.length c2], .int .i64 r] w (PlainPost (.tuple #[.int .i64 0, .int .i64 2]) w) :=
  (Length_any A A2 c c2 p r w hP).mono fun e w' h => by
    obtain ⟨⟨h1, h2, _⟩ | ⟨_, rfl⟩, hb⟩ := h
    · rcases hv with h | h
      · exact absurd h1 h
      · rw [h] at h2; cases h2
    · exact ⟨rfl, hb⟩
def LineIn (p : Pl) (r : Int) (w : World) (e : Ending) (w' : World) : Prop := (∃ B d, e = .returned (.tuple #[.slice B (lineOf p (railAt p r)).length d, .int .i64 0]) ∧ Sl w' w'.heap.size 2 CS B (lineOf p (railAt p r))) ∧ Below w.heap.size w w'
theorem Line_in (hP : PlAt w w.heap.size A c A2 c2 p) (hv : Vld p) (hr : railIn p r = true) :
    Calls Try.prog 13 #[.agg #[.slice A p.nodes.length c, .slice A2 p.rails.length c2], .int .i64 r] w (LineIn p r w) :=
  (Line_any A A2 c c2 p r w hP).mono fun e w' h => by
    obtain ⟨⟨_, _, v, rfl, ho⟩ | ⟨h1 | h1, _⟩, hb⟩ := h
    · obtain ⟨B, d, rfl, _, _, _⟩ := ho.form
      exact ⟨⟨B, d, rfl, (ho.sl fS_len rfl).keep (fun _ _ h => h) fun _ _ => rfl⟩, hb⟩
    · exact absurd hv h1
    · rw [hr] at h1; cases h1
theorem Line_out (hP : PlAt w w.heap.size A c A2 c2 p) (hv : ¬ Vld p ∨ railIn p r = false) :
    Calls Try.prog 13 #[.agg #[.slice A p.nodes.length c, .slice A2 p.rails.length c2], .int .i64 r] w (PlainPost (.tuple #[.slice none 0 0, .int .i64 2]) w) :=
  (Line_any A A2 c c2 p r w hP).mono fun e w' h => by
    obtain ⟨⟨h1, h2, _⟩ | ⟨_, rfl⟩, hb⟩ := h
    · rcases hv with h | h
      · exact absurd h1 h
      · rw [h] at h2; cases h2
    · exact ⟨rfl, hb⟩
theorem Check_in (hP : PlAt w w.heap.size A c A2 c2 p) (hv : Vld p) :
    Calls Try.prog 14 #[.agg #[.slice A p.nodes.length c, .slice A2 p.rails.length c2]] w (PlainPost (.int .i64 0) w) :=
  (Check_any A A2 c c2 p w hP).mono fun e w' h => by
    obtain ⟨⟨_, rfl⟩ | ⟨h1, _⟩, hb⟩ := h
    · exact ⟨rfl, hb⟩
    · exact absurd hv h1
theorem Check_out (hP : PlAt w w.heap.size A c A2 c2 p) (hv : ¬ Vld p) :
    Calls Try.prog 14 #[.agg #[.slice A p.nodes.length c, .slice A2 p.rails.length c2]] w (PlainPost (.int .i64 2) w) :=
  (Check_any A A2 c c2 p w hP).mono fun e w' h => by
    obtain ⟨⟨h1, _⟩ | ⟨_, rfl⟩, hb⟩ := h
    · exact absurd h1 hv
    · exact ⟨rfl, hb⟩
theorem Valid_is (b : Bool) (hP : PlAt w w.heap.size A c A2 c2 p) (hv : b = true ↔ Vld p) :
    Calls Try.prog 11 #[.agg #[.slice A p.nodes.length c, .slice A2 p.rails.length c2]] w (PlainPost (.bool b) w) :=
  (Valid_any A A2 c c2 p w hP).mono fun e w' h => by
    obtain ⟨⟨b', rfl, h1⟩, hb⟩ := h
    have : b' = b := by rw [Bool.eq_iff_iff]; exact h1.trans hv.symm
    exact ⟨by rw [this], hb⟩
theorem small_is (b : Bool) (hP : PlAt w w.heap.size A c A2 c2 p) (hs : smallB p = b) :
    Calls Try.prog 9 #[.agg #[.slice A p.nodes.length c, .slice A2 p.rails.length c2]] w (PlainPost (.bool b) w) :=
  (small_any A A2 c c2 p w hP).mono fun e w' h => by
    obtain ⟨rfl, hb⟩ := h
    exact ⟨by rw [hs], hb⟩
end
def SpotsYes (w : World) := PlainPost (.bool true) w
theorem sameSpots_yes (A B : Option Addr) (l : List S) (c d : Nat) (w : World) (hA : Sl w w.heap.size 2 CS A l) (hB : Sl w w.heap.size 2 CS B l) (hl : l.length ≤ 140737488351232) :
    Calls Try.prog 16 #[.slice A l.length c, .slice B l.length d] w (PlainPost (.bool true) w) :=
  (sameSpots_any A B l l c d w hA hB hl).mono fun _ _ h => same_yes h
theorem rLength_in (A A2 : Option Addr) (c c2 : Nat) (p : Pl) (k : Nat) (w : World) (hP : PlAt w w.heap.size A c A2 c2 p) (hv : Vld p) (hk : k < p.rails.length) :
    Calls Try.prog 15 #[.agg #[.slice A p.nodes.length c, .slice A2 p.rails.length c2], .int .i64 (k : Int)] w (PlainPost (.int .i64 (lenAt p (k : Int))) w) := by
  have h1 := railB_ix (hv.rail hk).1
  refine (rLength_any A A2 c c2 p k w hP hk h1.1 h1.2.1 (by omega) (allR_line (spots_ok hv.nodes) (hv.rail hk).1)).mono ?_
  rintro e w' ⟨rfl, hb⟩
  exact ⟨by rw [show lenAt p (k : Int) = ((lenOf (lineOf p p.rails[k]) : Nat) : Int) by simp [lenAt, lensOf, lenZ, hk]], hb⟩
def RLineIn (p : Pl) (r : Int) (w : World) (e : Ending) (w' : World) : Prop := (∃ B d, e = .returned (.slice B (lineOf p (railAt p r)).length d) ∧ Sl w' w'.heap.size 2 CS B (lineOf p (railAt p r))) ∧ Below w.heap.size w w'
theorem rLine_in (A A2 : Option Addr) (c c2 : Nat) (p : Pl) (k : Nat) (w : World) (hP : PlAt w w.heap.size A c A2 c2 p) (hv : Vld p) (hk : k < p.rails.length) :
    Calls Try.prog 17 #[.agg #[.slice A p.nodes.length c, .slice A2 p.rails.length c2], .int .i64 (k : Int)] w (RLineIn p (k : Int) w) := by
  have h1 := railB_ix (hv.rail hk).1
  refine (rLine_any A A2 c c2 p k w hP hk h1.1 h1.2.1 (by omega)).mono ?_
  rintro e w' ⟨v, rfl, ho, hb⟩
  rw [show p.rails[k] = railAt p (k : Int) by simp [railAt, hk]] at ho
  obtain ⟨B, d, rfl, _, _, _⟩ := ho.form
  exact ⟨⟨B, d, rfl, (ho.sl fS_len rfl).keep (fun _ _ h => h) fun _ _ => rfl⟩, hb⟩

set_option maxRecDepth 100000 in
set_option maxHeartbeats 4000000 in
theorem TrackChecks_big (A A2 : Option Addr) (c c2 : Nat) (p : Pl) (r : Int) (w : World) (hP : PlAt w w.heap.size A c A2 c2 p) (hs : smallB p = false) :
    Calls Try.prog 3 #[.agg #[.slice A p.nodes.length c, .slice A2 p.rails.length c2], .int .i64 r] w (PlainPost (.bool true) w) := by
  have H1 := Lib.hid (Gst.start hP)
  have HS := Lib.hid hs
  clear hP hs
  go_enter Try.func3, Try.ntmps3
  go_wp2_with fail
  refine (small_is A A2 c c2 p _ false H1.out.pl HS.out).mono ?_
  rintro e w2 ⟨rfl, hb2⟩
  have H2 := Lib.hid (H1.out.next hb2)
  clear hb2
  go_wp2_with fail
  refine (known_any _).mono ?_
  rintro e w3 ⟨rfl, hb3⟩
  have H3 := Lib.hid (H2.out.next hb3)
  clear hb3
  go_wp2
  go_ret
  exact ⟨rfl, H3.out.be⟩

set_option maxRecDepth 100000 in
set_option maxHeartbeats 4000000 in
theorem TrackChecks_not (A A2 : Option Addr) (c c2 : Nat) (p : Pl) (r : Int) (w : World) (hP : PlAt w w.heap.size A c A2 c2 p) (hs : smallB p = true) (hv : ¬ Vld p) :
    Calls Try.prog 3 #[.agg #[.slice A p.nodes.length c, .slice A2 p.rails.length c2], .int .i64 r] w (PlainPost (.bool true) w) := by
  have H1 := Lib.hid (Gst.start hP)
  have HS := Lib.hid hs; have HV := Lib.hid hv
  clear hP hs hv
  go_enter Try.func3, Try.ntmps3
  go_wp2_with fail
  refine (small_is A A2 c c2 p _ true H1.out.pl HS.out).mono ?_
  rintro e w2 ⟨rfl, hb2⟩
  have H2 := Lib.hid (H1.out.next hb2)
  obtain ⟨k0, k1, _, _, _⟩ := H2.out
  clear hb2 H1
  go_wp2_with fail
  refine (Valid_is A A2 c c2 p _ false H2.out.pl ⟨(fun h => by cases h), fun h => absurd h HV.out⟩).mono ?_
  rintro e w3 ⟨rfl, hb3⟩
  have H3 := Lib.hid (H2.out.next hb3)
  clear hb3 H2 k0 k1
  obtain ⟨k0, k1, _, _, _⟩ := H3.out
  go_wp2_with fail
  refine (Length_out A A2 c c2 p r _ H3.out.pl (.inl HV.out)).mono ?_
  rintro e w4 ⟨rfl, hb4⟩
  have H4 := Lib.hid (H3.out.next hb4)
  clear hb4 H3 k0 k1
  obtain ⟨k0, k1, _, _, _⟩ := H4.out
  go_wp2_with fail
  refine (Line_out A A2 c c2 p r _ H4.out.pl (.inl HV.out)).mono ?_
  rintro e w5 ⟨rfl, hb5⟩
  have H5 := Lib.hid (H4.out.next hb5)
  clear hb5 H4 k0 k1
  obtain ⟨k0, k1, _, _, _⟩ := H5.out
  go_wp2_with fail
  refine (Check_out A A2 c c2 p _ H5.out.pl HV.out).mono ?_
  rintro e w6 ⟨rfl, hb6⟩
  have H6 := Lib.hid (H5.out.next hb6)
  clear hb6 H5 k0 k1
  obtain ⟨k0, k1, _, _, _⟩ := H6.out
  go_wp2_with fail
  refine (Check_out A A2 c c2 p _ H6.out.pl HV.out).mono ?_
  rintro e w7 ⟨rfl, hb7⟩
  have H7 := Lib.hid (H6.out.next hb7)
  clear hb7 H6 k0 k1
  go_wp2_with fail
  refine (known_any _).mono ?_
  rintro e w8 ⟨rfl, hb8⟩
  have H8 := Lib.hid (H7.out.next hb8)
  clear hb8 H7
  go_wp2
  go_ret
  exact ⟨rfl, H8.out.be⟩

set_option maxRecDepth 100000 in
set_option maxHeartbeats 4000000 in
theorem TrackChecks_out (A A2 : Option Addr) (c c2 : Nat) (p : Pl) (r : Int) (w : World) (hP : PlAt w w.heap.size A c A2 c2 p) (hs : smallB p = true) (hv : Vld p) (hr : railIn p r = false) :
    Calls Try.prog 3 #[.agg #[.slice A p.nodes.length c, .slice A2 p.rails.length c2], .int .i64 r] w (PlainPost (.bool true) w) := by
  have H1 := Lib.hid (Gst.start hP)
  have HS := Lib.hid hs; have HV := Lib.hid hv; have HR := Lib.hid hr
  have hr' : r < 0 ∨ (0 ≤ r ∧ (p.rails.length : Int) ≤ r) := by
    have := of_decide_eq_false hr; omega
  clear hP hs hv hr
  have HRR := Lib.hid hr'
  clear hr'
  go_enter Try.func3, Try.ntmps3
  go_wp2_with fail
  refine (small_is A A2 c c2 p _ true H1.out.pl HS.out).mono ?_
  rintro e w2 ⟨rfl, hb2⟩
  have H2 := Lib.hid (H1.out.next hb2)
  obtain ⟨k0, k1, _, _, _⟩ := H2.out
  clear hb2 H1
  go_wp2_with fail
  refine (Valid_is A A2 c c2 p _ true H2.out.pl ⟨fun _ => HV.out, fun _ => rfl⟩).mono ?_
  rintro e w3 ⟨rfl, hb3⟩
  have H3 := Lib.hid (H2.out.next hb3)
  clear hb3 H2 k0 k1
  obtain ⟨k0, k1, _, _, _⟩ := H3.out
  go_wp2_with fail
  refine (Length_out A A2 c c2 p r _ H3.out.pl (.inr HR.out)).mono ?_
  rintro e w4 ⟨rfl, hb4⟩
  have H4 := Lib.hid (H3.out.next hb4)
  clear hb4 H3 k0 k1
  obtain ⟨k0, k1, _, _, _⟩ := H4.out
  go_wp2_with fail
  refine (Line_out A A2 c c2 p r _ H4.out.pl (.inr HR.out)).mono ?_
  rintro e w5 ⟨rfl, hb5⟩
  have H5 := Lib.hid (H4.out.next hb5)
  clear hb5 H4 k0 k1
  obtain ⟨k0, k1, _, _, _⟩ := H5.out
  go_wp2_with fail
  refine (Check_in A A2 c c2 p _ H5.out.pl HV.out).mono ?_
  rintro e w6 ⟨rfl, hb6⟩
  have H6 := Lib.hid (H5.out.next hb6)
  clear hb6 H5 k0 k1
  obtain ⟨k0, k1, _, _, _⟩ := H6.out
  rcases HRR.out with h1 | ⟨h1, h2⟩
  · go_wp2_with fail
    refine (known_any _).mono ?_
    rintro e w8 ⟨rfl, hb8⟩
    have H8 := Lib.hid (H6.out.next hb8)
    clear hb8 H6
    go_wp2
    go_ret
    exact ⟨rfl, H8.out.be⟩
  · go_wp2_with fail
    refine (known_any _).mono ?_
    rintro e w8 ⟨rfl, hb8⟩
    have H8 := Lib.hid (H6.out.next hb8)
    clear hb8 H6
    go_wp2
    go_ret
    exact ⟨rfl, H8.out.be⟩

set_option maxRecDepth 100000 in
set_option maxHeartbeats 4000000 in
theorem TrackChecks_in (A A2 : Option Addr) (c c2 : Nat) (p : Pl) (k : Nat) (w : World) (hP : PlAt w w.heap.size A c A2 c2 p) (hs : smallB p = true) (hv : Vld p) (hk : k < p.rails.length) :
    Calls Try.prog 3 #[.agg #[.slice A p.nodes.length c, .slice A2 p.rails.length c2], .int .i64 (k : Int)] w (PlainPost (.bool true) w) := by
  have H1 := Lib.hid (Gst.start hP)
  have HS := Lib.hid hs; have HV := Lib.hid hv; have HR := Lib.hid (show railIn p (k : Int) = true by simp [railIn]; omega)
  have j0 : (0 : Int) ≤ (k : Int) := by omega
  have j1 : (k : Int) < (p.rails.length : Int) := by omega
  have j2 : ¬ (k : Int) < 0 := by omega
  have HL := Lib.hid (show (lineOf p (railAt p (k : Int))).length ≤ 140737488351232 by
    have h3 := (railB_ix (hv.rail hk).1).2.2
    rw [show railAt p (k : Int) = p.rails[k] by simp [railAt, hk]]
    simp [lineOf]; omega)
  clear hP hs hv
  go_enter Try.func3, Try.ntmps3
  go_wp2_with fail
  refine (small_is A A2 c c2 p _ true H1.out.pl HS.out).mono ?_
  rintro e w2 ⟨rfl, hb2⟩
  have H2 := Lib.hid (H1.out.next hb2)
  obtain ⟨k0, k1, _, _, _⟩ := H2.out
  clear hb2 H1
  go_wp2_with fail
  refine (Valid_is A A2 c c2 p _ true H2.out.pl ⟨fun _ => HV.out, fun _ => rfl⟩).mono ?_
  rintro e w3 ⟨rfl, hb3⟩
  have H3 := Lib.hid (H2.out.next hb3)
  clear hb3 H2 k0 k1
  obtain ⟨k0, k1, _, _, _⟩ := H3.out
  go_wp2_with fail
  refine (Length_in A A2 c c2 p (k : Int) _ H3.out.pl HV.out HR.out).mono ?_
  rintro e w4 ⟨rfl, hb4⟩
  have H4 := Lib.hid (H3.out.next hb4)
  clear hb4 H3 k0 k1
  obtain ⟨k0, k1, _, _, _⟩ := H4.out
  go_wp2_with fail
  refine (Line_in A A2 c c2 p (k : Int) _ H4.out.pl HV.out HR.out).mono ?_
  rintro e w5 ⟨⟨B5, d5, rfl, hs5⟩, hb5⟩
  have H5 := Lib.hid (H4.out.next hb5)
  have S5 := Lib.hid hs5
  clear hb5 hs5 H4 k0 k1
  obtain ⟨k0, k1, _, _, _⟩ := H5.out
  go_wp2_with fail
  refine (Check_in A A2 c c2 p _ H5.out.pl HV.out).mono ?_
  rintro e w6 ⟨rfl, hb6⟩
  have H6 := Lib.hid (H5.out.next hb6)
  have S6 := Lib.hid (S5.out.next hb6)
  clear hb6 H5 S5 k0 k1
  obtain ⟨k0, k1, _, _, _⟩ := H6.out
  go_wp2_with fail
  refine (rLength_in A A2 c c2 p k _ H6.out.pl HV.out hk).mono ?_
  rintro e w7 ⟨rfl, hb7⟩
  have H7 := Lib.hid (H6.out.next hb7)
  have S7 := Lib.hid (S6.out.next hb7)
  clear hb7 H6 S6 k0 k1
  obtain ⟨k0, k1, _, _, _⟩ := H7.out
  go_wp2_with fail
  refine (rLine_in A A2 c c2 p k _ H7.out.pl HV.out hk).mono ?_
  rintro e w8 ⟨⟨B8, d8, rfl, hs8⟩, hb8⟩
  have H8 := Lib.hid (H7.out.next hb8)
  have S8 := Lib.hid (S7.out.next hb8)
  have T8 := Lib.hid hs8
  clear hb8 hs8 H7 S7 k0 k1
  go_wp2_with fail
  refine (sameSpots_yes B5 B8 (lineOf p (railAt p (k : Int))) d5 d8 _ S8.out T8.out HL.out).mono ?_
  rintro e w9 ⟨rfl, hb9⟩
  have H9 := Lib.hid (H8.out.next hb9)
  clear hb9 H8 S8 T8
  go_wp2_with fail
  refine (known_any _).mono ?_
  rintro e w10 ⟨rfl, hb10⟩
  have H10 := Lib.hid (H9.out.next hb10)
  clear hb10 H9
  go_wp2
  go_ret
  exact ⟨rfl, H10.out.be⟩

theorem TrackChecks_any (A A2 : Option Addr) (c c2 : Nat) (p : Pl) (r : Int) (w : World) (hP : PlAt w w.heap.size A c A2 c2 p) :
    Calls Try.prog 3 #[.agg #[.slice A p.nodes.length c, .slice A2 p.rails.length c2], .int .i64 r] w (PlainPost (.bool true) w) := by
  cases hs : smallB p
  · exact TrackChecks_big A A2 c c2 p r w hP hs
  · by_cases hv : Vld p
    · cases hr : railIn p r
      · exact TrackChecks_out A A2 c c2 p r w hP hs hv hr
      · have h2 := of_decide_eq_true hr
        obtain ⟨k, rfl⟩ := Int.eq_ofNat_of_zero_le h2.1
        exact TrackChecks_in A A2 c c2 p k w hP hs hv (by omega)
    · exact TrackChecks_not A A2 c c2 p r w hP hs hv
end Go.Proofs.Ytcpanfpijljeaaa
