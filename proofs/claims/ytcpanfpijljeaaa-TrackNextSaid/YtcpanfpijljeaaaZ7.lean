/- TrackNext returns true for every plan and every two moves; its arguments read afterwards as they read before. No condition. -/
import Derived.Test.YtcpanfpijljeaaaRows
import Derived.Test.YtcpanfpijljeaaaZ5
import Derived.Test.YtcpanfpijljeaaaS1
import Derived.Test.YtcpanfpijljeaaaX2
import Derived.Test.YtcpanfpijljeaaaW3
import Derived.Test.YtcpanfpijljeaaaV1
import Derived.WalkKit
import Derived.ProofKit
import Derived.Deep.OwnRows
import Derived.Deep.CondSized
import Derived.WideKeyArgs
import Derived.ReadAgain
namespace Go.Proofs.Ytcpanfpijljeaaa
set_option linter.unusedVariables false
set_option linter.unusedSimpArgs false
open Go.RowKit

/-- what the two Betweens say, side by side -/
theorem btw_ref {p : Pl} {m n : E} : ∃ X Y Er : Int, ∃ sb : Bool, btwV p m n = .tuple #[.agg #[.int .i64 X, .int .i64 Y], .int .i64 Er] ∧
    (folB p (keyE m) (endNo n) = false → X = 0 ∧ Y = 0 ∧ Er = 4) ∧
    (folB p (keyE m) (endNo n) = true → settingV p (keyE m) (keyE n) = .tuple #[.agg #[.int .i64 X, .int .i64 Y], .bool sb] ∧ (sb = true → Er = 0) ∧ (sb = false → X = 0 ∧ Y = 0 ∧ Er = 4)) := by
  unfold btwV settingV
  by_cases h : (atN p (flip (keyE m))).kind = 4
  · by_cases hf : folB p (keyE m) (endNo n) = true
    · exact ⟨_, _, _, true, by rw [if_pos ⟨hf, h⟩], fun h' => (by rw [hf] at h'; cases h'), fun _ => ⟨by rw [if_pos h], fun _ => rfl, fun h' => by cases h'⟩⟩
    · exact ⟨_, _, _, true, by rw [if_neg (fun h' => hf h'.1)], fun _ => ⟨rfl, rfl, rfl⟩, fun h' => absurd h' hf⟩
  · exact ⟨_, _, _, false, by rw [if_neg (fun h' => h h'.2)], fun _ => ⟨rfl, rfl, rfl⟩, fun _ => ⟨by rw [if_neg h], (fun h' => by cases h'), fun _ => ⟨rfl, rfl, rfl⟩⟩⟩

set_option maxRecDepth 100000 in
set_option maxHeartbeats 1000000 in
theorem TrackNext_not (A A2 : Option Addr) (c c2 : Nat) (p : Pl) (m n : E) (w : World) (hP : PlAt w w.heap.size A c A2 c2 p)
    (hF : ∀ w, PlAt w w.heap.size A c A2 c2 p → Calls Try.prog 18 #[.agg #[.slice A p.nodes.length c, .slice A2 p.rails.length c2], .agg #[.int .i64 m.rail, .bool m.last], .agg #[.int .i64 n.rail, .bool n.last]] w fun e w' => e = .returned (.bool false) ∧ Below w.heap.size w w')
    (hK : ∀ w, Calls Try.prog 10 #[] w fun e w' => e = .returned (.bool true) ∧ Below w.heap.size w w') :
    Calls Try.prog 4 #[.agg #[.slice A p.nodes.length c, .slice A2 p.rails.length c2], .agg #[.int .i64 m.rail, .bool m.last], .agg #[.int .i64 n.rail, .bool n.last]] w fun e w' => e = .returned (.bool true) ∧ Below w.heap.size w w' := by
  have H1 := Lib.hid (G3st.start m n hP)
  have HF := Lib.hid hF; have HK := Lib.hid hK
  clear hP hF hK
  go_enter Try.func4, Try.ntmps4
  go_wp2_with fail
  refine (HF.out _ H1.out.pl).mono ?_
  rintro e w2 ⟨rfl, hb2⟩
  have H2 := Lib.hid (H1.out.next hb2)
  clear hb2 H1
  go_wp2_with fail
  refine (HK.out _).mono ?_
  rintro e w3 ⟨rfl, hb3⟩
  have H3 := Lib.hid (H2.out.next hb3)
  clear hb3 H2
  go_wp2
  go_ret
  exact ⟨rfl, H3.out.be⟩

set_option maxRecDepth 100000 in
set_option maxHeartbeats 4000000 in
theorem TrackNext_in (A A2 : Option Addr) (c c2 : Nat) (p : Pl) (m n : E) (w : World) (hP : PlAt w w.heap.size A c A2 c2 p) (hv : Vld p) (hm : railIn p m.rail = true) (hn : railIn p n.rail = true)
    (hF : ∀ w, PlAt w w.heap.size A c A2 c2 p → Calls Try.prog 18 #[.agg #[.slice A p.nodes.length c, .slice A2 p.rails.length c2], .agg #[.int .i64 m.rail, .bool m.last], .agg #[.int .i64 n.rail, .bool n.last]] w fun e w' => e = .returned (.bool true) ∧ Below w.heap.size w w')
    (hK : ∀ w, Calls Try.prog 10 #[] w fun e w' => e = .returned (.bool true) ∧ Below w.heap.size w w') :
    Calls Try.prog 4 #[.agg #[.slice A p.nodes.length c, .slice A2 p.rails.length c2], .agg #[.int .i64 m.rail, .bool m.last], .agg #[.int .i64 n.rail, .bool n.last]] w fun e w' => e = .returned (.bool true) ∧ Below w.heap.size w w' := by
  obtain ⟨l, hl⟩ : ∃ x, (nextL p (keyE m)).map moveE = x := ⟨_, rfl⟩
  have hl2 : l.length ≤ 140737488351232 := by rw [← hl, List.length_map]; have := nextL_len p (keyE m); omega
  obtain ⟨X, Y, Er, sb, hB, hNo, hYes⟩ := btw_ref (p := p) (m := m) (n := n)
  obtain ⟨is, his⟩ : ∃ x, folB p (keyE m) (endNo n) = x := ⟨_, rfl⟩
  have C19 := Lib.hid (show ∀ w, PlAt w w.heap.size A c A2 c2 p → Calls Try.prog 19 #[.agg #[.slice A p.nodes.length c, .slice A2 p.rails.length c2], .agg #[.int .i64 m.rail, .bool m.last]] w fun e w' => (∃ B d, e = .returned (.tuple #[.slice B l.length d, .int .i64 0]) ∧ Sl w' w'.heap.size 2 CE B l) ∧ Below w.heap.size w w' from fun w hP =>
    (Next_any A A2 c c2 p m w hP).mono fun e w' h => by
      obtain ⟨⟨_, _, v, rfl, ho⟩ | ⟨h1 | h1, _⟩, hb⟩ := h
      · rw [hl] at ho
        obtain ⟨B, d, rfl, _, _, _⟩ := ho.form
        exact ⟨⟨B, d, rfl, (ho.sl fE_len rfl).keep (fun _ _ h => h) fun _ _ => rfl⟩, hb⟩
      · exact absurd hv h1
      · rw [hm] at h1; cases h1)
  have C23 := Lib.hid (show ∀ w, PlAt w w.heap.size A c A2 c2 p → Calls Try.prog 23 #[.agg #[.slice A p.nodes.length c, .slice A2 p.rails.length c2], .agg #[.int .i64 m.rail, .bool m.last]] w fun e w' => (∃ B d, e = .returned (.slice B l.length d) ∧ Sl w' w'.heap.size 2 CE B l) ∧ Below w.heap.size w w' from fun w hP =>
    (rNext_any A A2 c c2 p m w hP hv hm).mono fun e w' h => by
      obtain ⟨⟨v, rfl, ho⟩, hb⟩ := h
      rw [hl] at ho
      obtain ⟨B, d, rfl, _, _, _⟩ := ho.form
      exact ⟨⟨B, d, rfl, (ho.sl fE_len rfl).keep (fun _ _ h => h) fun _ _ => rfl⟩, hb⟩)
  have C22 := Lib.hid (show ∀ (A B : Option Addr) (c d : Nat) (w : World), Sl w w.heap.size 2 CE A l → Sl w w.heap.size 2 CE B l → Calls Try.prog 22 #[.slice A l.length c, .slice B l.length d] w fun e w' => e = .returned (.bool true) ∧ Below w.heap.size w w' from fun A B c d w hA hB =>
    (sameMoves_any A B l l c d w hA hB hl2).mono fun e w' ⟨⟨b, h1, h2⟩, h3⟩ => ⟨by rw [h1, h2.2 rfl], h3⟩)
  have C20 := Lib.hid (show ∀ w, PlAt w w.heap.size A c A2 c2 p → Calls Try.prog 20 #[.agg #[.slice A p.nodes.length c, .slice A2 p.rails.length c2], .agg #[.int .i64 m.rail, .bool m.last], .agg #[.int .i64 n.rail, .bool n.last]] w fun e w' => e = .returned (.tuple #[.bool is, .int .i64 0]) ∧ Below w.heap.size w w' from fun w hP => by
    have := Follows_in A A2 c c2 p m n w hP hv hm hn
    rw [his] at this; exact this)
  have C24 := Lib.hid (show ∀ w, PlAt w w.heap.size A c A2 c2 p → Calls Try.prog 24 #[.agg #[.slice A p.nodes.length c, .slice A2 p.rails.length c2], .agg #[.int .i64 m.rail, .bool m.last], .agg #[.int .i64 n.rail, .bool n.last]] w fun e w' => e = .returned (.bool is) ∧ Below w.heap.size w w' from fun w hP => by
    have := rFollows_any A A2 c c2 p m n w hP hv hm hn
    rw [his] at this; exact this)
  have C21 := Lib.hid (show ∀ w, PlAt w w.heap.size A c A2 c2 p → Calls Try.prog 21 #[.agg #[.slice A p.nodes.length c, .slice A2 p.rails.length c2], .agg #[.int .i64 m.rail, .bool m.last], .agg #[.int .i64 n.rail, .bool n.last]] w fun e w' => e = .returned (.tuple #[.agg #[.int .i64 X, .int .i64 Y], .int .i64 Er]) ∧ Below w.heap.size w w' from fun w hP => by
    have := Between_in A A2 c c2 p m n w hP hv hm hn
    rw [hB] at this; exact this)
  have C25 := Lib.hid (show is = true → ∀ w, PlAt w w.heap.size A c A2 c2 p → Calls Try.prog 25 #[.agg #[.slice A p.nodes.length c, .slice A2 p.rails.length c2], .agg #[.int .i64 m.rail, .bool m.last], .agg #[.int .i64 n.rail, .bool n.last]] w fun e w' => e = .returned (.tuple #[.agg #[.int .i64 X, .int .i64 Y], .bool sb]) ∧ Below w.heap.size w w' from fun h w hP => by
    have := rBetween_any A A2 c c2 p m n w hP hv hm hn (by rw [his]; exact h)
    rw [(hYes (by rw [his]; exact h)).1] at this; exact this)
  have HNo := Lib.hid (show is = false → X = 0 ∧ Y = 0 ∧ Er = 4 from fun h => hNo (by rw [his]; exact h))
  have HYes := Lib.hid (show is = true → (sb = true → Er = 0) ∧ (sb = false → X = 0 ∧ Y = 0 ∧ Er = 4) from fun h => (hYes (by rw [his]; exact h)).2)
  have HF := Lib.hid hF; have HK := Lib.hid hK
  have H1 := Lib.hid (G3st.start m n hP)
  clear hP hF hK hv hn hm hl hB hNo hYes his
  go_enter Try.func4, Try.ntmps4
  go_wp2_with fail
  refine (HF.out _ H1.out.pl).mono ?_
  rintro e w2 ⟨rfl, hb2⟩
  have H2 := Lib.hid (H1.out.next hb2)
  clear hb2 H1
  obtain ⟨k0, k1, m0, m1, n0, n1, _, _, _⟩ := H2.out
  go_wp2_with fail
  refine (C19.out _ H2.out.pl).mono ?_
  rintro e w3 ⟨⟨B, d, rfl, hs3⟩, hb3⟩
  have H3 := Lib.hid (H2.out.next hb3)
  clear hb3 H2 k0 k1 m0 m1 n0 n1
  obtain ⟨k0, k1, m0, m1, n0, n1, _, _, _⟩ := H3.out
  go_wp2_with fail
  refine (C20.out _ H3.out.pl).mono ?_
  rintro e w4 ⟨rfl, hb4⟩
  have H4 := Lib.hid (H3.out.next hb4)
  have hs4 := (hs3.below hb4).more (fun _ _ h => h) hb4.size
  clear hb4 H3 k0 k1 m0 m1 n0 n1 hs3
  obtain ⟨k0, k1, m0, m1, n0, n1, _, _, _⟩ := H4.out
  go_wp2_with fail
  refine (C21.out _ H4.out.pl).mono ?_
  rintro e w6 ⟨rfl, hb6⟩
  have H6 := Lib.hid (H4.out.next hb6)
  have hs6 := (hs4.below hb6).more (fun _ _ h => h) hb6.size
  clear hb6 H4 k0 k1 m0 m1 n0 n1 hs4
  have hbA := (Below.refl _ w6).alloc (Nat.le_refl _) (.cells #[.int .i64 X, .int .i64 Y] 48)
  have H7 := Lib.hid (H6.out.next hbA)
  have S7 := Lib.hid ((hs6.below hbA).more (fun _ _ h => h) hbA.size)
  obtain ⟨x0, x1, _, _⟩ := row2 (heap_alloc_new w6 (.cells #[.int .i64 X, .int .i64 Y] 48))
  have hz11 : w6.heap.size < (w6.alloc (.cells #[.int .i64 X, .int .i64 Y] 48)).heap.size := by simp
  clear hbA hs6 H6
  obtain ⟨k0, k1, m0, m1, n0, n1, _, _, _⟩ := H7.out
  go_upto_region 6 with (fail)
  generalize w6.alloc (.cells #[.int .i64 X, .int .i64 Y] 48) = w7 at *
  generalize w6.heap.size = K11 at *
  go_wp2_with fail
  refine (C23.out _ H7.out.pl).mono ?_
  rintro e w8 ⟨⟨B2, d2, rfl, hs8⟩, hb8⟩
  have H8 := Lib.hid (H7.out.next hb8)
  have S8 := Lib.hid ((S7.out.below hb8).more (fun _ _ h => h) hb8.size)
  have T8 := Lib.hid hs8
  replace x0 := (hb8.cell (p := ⟨K11, 0, none⟩) hz11).trans x0
  replace x1 := (hb8.cell (p := ⟨K11, 1, none⟩) hz11).trans x1
  replace hz11 := Nat.lt_of_lt_of_le hz11 hb8.size
  clear hb8 hs8 H7 S7 k0 k1 m0 m1 n0 n1
  obtain ⟨k0, k1, m0, m1, n0, n1, _, _, _⟩ := H8.out
  go_wp2_with fail
  refine (C22.out B B2 d d2 _ S8.out T8.out).mono ?_
  rintro e w9 ⟨rfl, hb9⟩
  have H9 := Lib.hid (H8.out.next hb9)
  replace x0 := (hb9.cell (p := ⟨K11, 0, none⟩) hz11).trans x0
  replace x1 := (hb9.cell (p := ⟨K11, 1, none⟩) hz11).trans x1
  replace hz11 := Nat.lt_of_lt_of_le hz11 hb9.size
  clear hb9 H8 S8 T8 k0 k1 m0 m1 n0 n1
  obtain ⟨k0, k1, m0, m1, n0, n1, _, _, _⟩ := H9.out
  go_wp2_with fail
  refine (C24.out _ H9.out.pl).mono ?_
  rintro e wa ⟨rfl, hba⟩
  have Ha := Lib.hid (H9.out.next hba)
  replace x0 := (hba.cell (p := ⟨K11, 0, none⟩) hz11).trans x0
  replace x1 := (hba.cell (p := ⟨K11, 1, none⟩) hz11).trans x1
  replace hz11 := Nat.lt_of_lt_of_le hz11 hba.size
  clear hba H9 k0 k1 m0 m1 n0 n1 C19 C20 C21 C22 C23 C24 HF
  obtain ⟨k0, k1, m0, m1, n0, n1, _, _, _⟩ := Ha.out
  cases is
  · obtain ⟨rfl, rfl, rfl⟩ := HNo.out rfl
    clear HNo HYes C25
    go_wp2_with fail
    refine (HK.out _).mono ?_
    rintro e wb ⟨rfl, hbb⟩
    have Hb := Lib.hid (Ha.out.next hbb)
    clear hbb
    go_wp2
    go_ret
    exact ⟨rfl, Hb.out.be⟩
  · have HY := Lib.hid (HYes.out rfl)
    have CB := Lib.hid (C25.out rfl)
    clear HNo HYes C25
    go_wp2_with fail
    refine (CB.out _ Ha.out.pl).mono ?_
    rintro e wb ⟨rfl, hbb⟩
    have Hb := Lib.hid (Ha.out.next hbb)
    replace x0 := (hbb.cell (p := ⟨K11, 0, none⟩) hz11).trans x0
    replace x1 := (hbb.cell (p := ⟨K11, 1, none⟩) hz11).trans x1
    replace hz11 := Nat.lt_of_lt_of_le hz11 hbb.size
    clear hbb Ha k0 k1 m0 m1 n0 n1
    have HBb := Lib.hid Hb.out.be
    cases sb
    · obtain ⟨rfl, rfl, rfl⟩ := HY.out.2 rfl
      go_wp2_with fail
      refine (HK.out _).mono ?_
      rintro e wd ⟨rfl, hbd⟩
      have HD := Lib.hid (HBb.out.trans (((Below.refl _ wb).alloc (Nat.le_refl _) (.cells #[.int .i64 0, .int .i64 0] 48)).trans (hbd.mono (by simp)) |>.mono HBb.out.size))
      clear hbd
      go_wp2
      go_ret
      exact ⟨rfl, HD.out⟩
    · obtain rfl := HY.out.1 rfl
      go_wp2_with fail
      refine (HK.out _).mono ?_
      rintro e wd ⟨rfl, hbd⟩
      have HD := Lib.hid (HBb.out.trans (((Below.refl _ wb).alloc (Nat.le_refl _) (.cells #[.int .i64 X, .int .i64 Y] 48)).trans (hbd.mono (by simp)) |>.mono HBb.out.size))
      clear hbd
      go_wp2
      go_ret
      exact ⟨rfl, HD.out⟩

theorem TrackNext_of (A A2 : Option Addr) (c c2 : Nat) (p : Pl) (m n : E) (w : World) (hP : PlAt w w.heap.size A c A2 c2 p)
    (hV : ∃ v : Bool, (v = true ↔ Vld p) ∧ ∀ w, PlAt w w.heap.size A c A2 c2 p → Calls Try.prog 11 #[.agg #[.slice A p.nodes.length c, .slice A2 p.rails.length c2]] w fun e w' => e = .returned (.bool v) ∧ Below w.heap.size w w')
    (hK : ∀ w, Calls Try.prog 10 #[] w fun e w' => e = .returned (.bool true) ∧ Below w.heap.size w w') :
    Calls Try.prog 4 #[.agg #[.slice A p.nodes.length c, .slice A2 p.rails.length c2], .agg #[.int .i64 m.rail, .bool m.last], .agg #[.int .i64 n.rail, .bool n.last]] w fun e w' => e = .returned (.bool true) ∧ Below w.heap.size w w' := by
  obtain ⟨v, hv, hV⟩ := hV
  have hF := fun w hP => fine_of A A2 c c2 p m n w hP v hV
  cases hf : fineB p v m n
  · rw [hf] at hF
    exact TrackNext_not A A2 c c2 p m n w hP hF hK
  · rw [hf] at hF
    simp only [fineB, Bool.and_eq_true] at hf
    obtain ⟨⟨⟨_, h1⟩, h2⟩, h3⟩ := hf
    exact TrackNext_in A A2 c c2 p m n w hP (hv.1 h1) h2 h3 hF hK

section row
open Go.ChangeShapes Go.WideShapes Go.ChangeAt Go.Deep
theorem Try.c40z : Try.prog.cellsOf 40 = 2 := by kernel_rfl
section
variable {H : Type} {enc : TypeId × Value → H} {w : World} {fuel : Nat} {cs : List Value} {x : DataW H × List MemPlace}
set_option maxRecDepth 100000 in
theorem read_Mz (h : DataW.trod enc Try.prog w 0 (fun _ => true) true fuel 40 cs = some x) (hl : InReach Try.prog 40 x.1) : ∃ z : E, CE z cs := by
  have hn := read_len Try.underlying40 h
  rw [Try.c40z] at hn
  obtain ⟨n1, y1, h1, _⟩ := read_at Try.underlying40 h hl 0 rfl Try.c3
  obtain ⟨n2, y2, h2, _⟩ := read_at Try.underlying40 h hl 1 rfl Try.c4
  obtain ⟨a, ha, _, _⟩ := DataW.trod_int Try.underlying3 h1
  obtain ⟨b, hb, _⟩ := DataW.trod_bool Try.underlying4 h2
  match cs, hn with
  | [u, v], _ =>
    simp at ha hb
    subst ha; subst hb
    exact ⟨⟨a, b⟩, rfl⟩
end

/-- what the specification's Valid answers -/
def ValidIsz : Prop := ∀ (A A2 : Option Addr) (c c2 : Nat) (p : Pl) (w : World), PlAt w w.heap.size A c A2 c2 p →
  Calls Try.prog 11 #[.agg #[.slice A p.nodes.length c, .slice A2 p.rails.length c2]] w fun e w' => (∃ b, e = .returned (.bool b) ∧ (b = true ↔ Vld p)) ∧ Below w.heap.size w w'
theorem valid_boolz (hV : ValidIsz) (A A2 : Option Addr) (c c2 : Nat) (p : Pl) : ∃ v : Bool, (v = true ↔ Vld p) ∧ ∀ w, PlAt w w.heap.size A c A2 c2 p → Calls Try.prog 11 #[.agg #[.slice A p.nodes.length c, .slice A2 p.rails.length c2]] w fun e w' => e = .returned (.bool v) ∧ Below w.heap.size w w' := by
  by_cases hv : Vld p
  · refine ⟨true, ⟨fun _ => hv, fun _ => rfl⟩, fun w hP => (hV A A2 c c2 p w hP).mono ?_⟩
    rintro e w' ⟨⟨b, rfl, h1⟩, hb⟩
    exact ⟨by rw [h1.2 hv], hb⟩
  · refine ⟨false, ⟨fun h => (by cases h), fun h => absurd h hv⟩, fun w hP => (hV A A2 c c2 p w hP).mono ?_⟩
    rintro e w' ⟨⟨b, rfl, h1⟩, hb⟩
    cases b
    · exact ⟨rfl, hb⟩
    · exact absurd (h1.1 rfl) hv

set_option maxRecDepth 100000 in
set_option maxHeartbeats 1600000 in
theorem trackNext_lifted (hVal : ValidIsz) (os : Os) (started : os.Started) (H : Type) (enc : TypeId × Value → H) :
    ReturnsInHanded {} Try.checked os 4 .any (Rows.trackNextSpec.pre6 enc Try.prog Try.f4 Rows.trackNextRow.domain false) (Rows.trackNextSpec.post enc Try.prog Try.f4 false true false false) := by
  refine returnsInHanded_of_change_sized (C := Try.checked) (by kernel_rfl : ownKnob Try.prog.godebug = none) started (by kernel_rfl) Try.func4
    (ChangeSpec.witness6 (enc := enc) (C := Try.checked) false ⟨#[], #[.agg #[.slice none 0 0, .slice none 0 0], .agg #[.int .i64 0, .bool false], .agg #[.int .i64 0, .bool false]], []⟩ 8 (by kernel_rfl) (by kernel_rfl) (by kernel_rfl) (by kernel_rfl)) ?_
  intro W base args ds gs before hval0 hW _ hsz0 _
  have hsz : (DataW.weightsEach Try.prog (Try.f4.params.toList ++ Rows.trackNextSpec.plain.varTypes Try.prog) (ds ++ gs)).all (· ≤ reachBytes) = true := hsz0
  clear hsz0
  have hval : ∀ (j : Nat) t v, Try.f4.params[j]? = some t → args[j]? = some v → Value.okWide Try.prog W .any base t v := hval0
  have hW' := hW
  obtain ⟨p, q, hA0, hV, rfl, hfz, _⟩ := hW
  have hA : DataW.TrodAll enc Try.prog W 0 (fun _ => true) true Try.f4.params.toList args.toList ds p := hA0
  rw [Try.params4] at hA hval hsz
  obtain ⟨v0, v1, v2, d0, d1, d2, p0, p1, p2, rfl, rfl, rfl, h0, h1, h2⟩ := trodAll_three hA
  obtain ⟨rfl, rfl⟩ := trodVars_none hV
  obtain ⟨cs, rfl, hcs⟩ := okWide_struct Try.underlying25 (hval 0 25 v0 rfl rfl)
  obtain ⟨cs1, rfl, hcs1⟩ := okWide_struct Try.underlying40 (hval 1 40 v1 rfl rfl)
  obtain ⟨cs2, rfl, hcs2⟩ := okWide_struct Try.underlying40 (hval 2 40 v2 rfl rfl)
  have h0k := h0
  have h1k := h1
  have h2k := h2
  obtain ⟨fuel, hf⟩ := h0
  obtain ⟨fuel1, hf1⟩ := h1
  obtain ⟨fuel2, hf2⟩ := h2
  clear hA0 hval0 hA
  simp only [List.append_nil] at hW' hsz
  have hlt : ∀ x ∈ p0 ++ p1 ++ p2, x.block < W.heap.size := fun x hx => hW'.lt x hx
  obtain ⟨pl, A, c, A2, c2, hcs3, hP⟩ := read_Pl (enc := enc) (w := W) (x := (d0, p0)) hf (fun n hn => by
    have := List.all_eq_true.1 hsz n (DataW.weights_mem_each (j := 0) (t := 25) (d := d0) rfl rfl n hn)
    simpa using this)
  obtain ⟨m, hm⟩ := read_Mz (enc := enc) (w := W) (x := (d1, p1)) hf1 (fun n hn => by
    have := List.all_eq_true.1 hsz n (DataW.weights_mem_each (j := 1) (t := 40) (d := d1) rfl rfl n hn)
    simpa using this)
  obtain ⟨n, hn⟩ := read_Mz (enc := enc) (w := W) (x := (d2, p2)) hf2 (fun n hn => by
    have := List.all_eq_true.1 hsz n (DataW.weights_mem_each (j := 2) (t := 40) (d := d2) rfl rfl n hn)
    simpa using this)
  have hcs4 : cs = #[.slice A pl.nodes.length c, .slice A2 pl.rails.length c2] := by
    apply Array.toList_inj.1
    simpa [Value.cells] using hcs3
  have hm4 : cs1 = #[.int .i64 m.rail, .bool m.last] := by
    apply Array.toList_inj.1
    unfold CE at hm
    simpa [Value.cells] using hm
  have hn4 : cs2 = #[.int .i64 n.rail, .bool n.last] := by
    apply Array.toList_inj.1
    unfold CE at hn
    simpa [Value.cells] using hn
  subst hcs4; subst hm4; subst hn4
  refine (TrackNext_of A A2 c c2 pl m n W hP (valid_boolz hVal A A2 c c2 pl) known_any).mono fun e W' ⟨he, hb⟩ => ?_
  subst he
  have hs : W.Since W.heap.size W' := ⟨hb.os, hb.tape, hb.output, hb.size, hb.block⟩
  have laid : laidOutB Try.prog = true := by kernel_rfl
  have hargs : DataW.Trod enc Try.prog W' 0 (fun b => decide (b < W.heap.size)) true 25 (.agg #[.slice A pl.nodes.length c, .slice A2 pl.rails.length c2]) d0 p0 :=
    WideElems.Trod_stays laid (by kernel_rfl) (of_decide_eq_true (by kernel_rfl)) h0k (fun x hx => hs.sameAt (hlt x (by simp [hx]))) (fun x hx => by simpa using hlt x (by simp [hx]))
  have hargs1 : DataW.Trod enc Try.prog W' 0 (fun b => decide (b < W.heap.size)) true 40 (.agg #[.int .i64 m.rail, .bool m.last]) d1 p1 :=
    WideElems.Trod_stays laid (by kernel_rfl) (of_decide_eq_true (by kernel_rfl)) h1k (fun x hx => hs.sameAt (hlt x (by simp [hx]))) (fun x hx => by simpa using hlt x (by simp [hx]))
  have hargs2 : DataW.Trod enc Try.prog W' 0 (fun b => decide (b < W.heap.size)) true 40 (.agg #[.int .i64 n.rail, .bool n.last]) d2 p2 :=
    WideElems.Trod_stays laid (by kernel_rfl) (of_decide_eq_true (by kernel_rfl)) h2k (fun x hx => hs.sameAt (hlt x (by simp [hx]))) (fun x hx => by simpa using hlt x (by simp [hx]))
  exact ⟨_, rfl, _, _, _, [], p0 ++ p1 ++ p2, [], hW', trodAll_mk1 (shut_bool Try.underlying4 true), by have := trodAll_mk3 hargs hargs1 hargs2; rw [← List.append_assoc] at this; exact this, rfl, hs.frame _, fun h => by cases h⟩

theorem trackNext_of (hVal : ValidIsz) : Rows.TrackNextSaid :=
  OpenClaim.holds_of_wide 4 Try.f4 rfl rfl rfl rfl rfl rfl rfl ⟨rfl, rfl, rfl, rfl, rfl⟩ rfl rfl rfl rfl rfl (by kernel_rfl) Try.func4 (by kernel_rfl)
    (of_decide_eq_true (by kernel_rfl)) (by unfold Func.isWrapper; rw [if_neg (of_decide_eq_false (by kernel_rfl))]; exact ⟨rfl, rfl⟩)
    (fun os started H enc _ => trackNext_lifted hVal os started H enc)

theorem trackNext_holds : Rows.TrackNextSaid := trackNext_of fun A A2 c c2 p w hP => Valid_any A A2 c c2 p w hP
end row
end Go.Proofs.Ytcpanfpijljeaaa
