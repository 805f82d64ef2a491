/- TrackRefuses returns true for every plan and every move; its arguments read afterwards as they read before. No condition. -/
import Derived.Test.YtcpanfpijljeaaaGreatRows
import Derived.Test.YtcpanfpijljeaaaGreatU5
import Derived.Test.YtcpanfpijljeaaaGreatX2
import Derived.Test.YtcpanfpijljeaaaGreatV1
import Derived.WalkKit
import Derived.ProofKit
import Derived.Deep.OwnRows
import Derived.Deep.CondSized
import Derived.WideKeyArgs
import Derived.ReadAgain
namespace Go.Proofs.YtcpanfpijljeaaaGreat
set_option linter.unusedVariables false
set_option linter.unusedSimpArgs false
open Go.RowKit

section
variable (A A2 : Option Addr) (c c2 : Nat) (p : Pl) (m n : E) (w : World)
set_option maxRecDepth 100000 in
set_option maxHeartbeats 1000000 in
theorem Settings_no (A3 : Option Addr) (c3 : Nat) (l : List E) (hP : PlAt w w.heap.size A c A2 c2 p) (hA : Sl w w.heap.size 2 CE A3 l) (hl : l.length ≤ 140737488351232) (hn : ¬ (Vld p ∧ wayOk p l)) :
    Calls Tryz.prog 16 #[.agg #[.slice A p.nodes.length c, .slice A2 p.rails.length c2], .slice A3 l.length c3] w (PlainPost (.tuple #[.slice none 0 0, .int .i64 2]) w) := by
  have HP := Lib.hid (hP.box (.cells #[.slice A p.nodes.length c, .slice A2 p.rails.length c2] 25))
  have hB0 := (Below.refl w.heap.size w).alloc (Nat.le_refl _) (.cells #[.slice A p.nodes.length c, .slice A2 p.rails.length c2] 25)
  have HA := Lib.hid ((hA.below hB0).more (fun _ _ h => h) hB0.size)
  have HB0 := Lib.hid hB0
  have HN := Lib.hid hn
  clear hP hA hB0 hn
  go_enter Tryz.func16, Tryz.ntmps16
  go_wp2_with fail
  refine (surveyWay_any A A2 A3 c c2 c3 p l _ HP.out HA.out hl).mono ?_
  rintro e w1 ⟨⟨hv, hw, g, v, rfl, hN, ho⟩ | ⟨hw, x, rfl⟩, hb⟩
  · exact absurd ⟨hv, hw⟩ HN.out
  · have HB := Lib.hid (HB0.out.trans (hb.mono (by simp)))
    clear hw hb
    go_wp2
    go_ret2
    exact ⟨rfl, HB.out⟩

set_option maxRecDepth 100000 in
set_option maxHeartbeats 1000000 in
theorem Shortest_no (hP : PlAt w w.heap.size A c A2 c2 p) (hn : ¬ Vld p ∨ railIn p m.rail = false) :
    Calls Tryz.prog 18 #[.agg #[.slice A p.nodes.length c, .slice A2 p.rails.length c2], .agg #[.int .i64 m.rail, .bool m.last], .agg #[.int .i64 n.rail, .bool n.last]] w (PlainPost (.tuple #[.slice none 0 0, .int .i64 2]) w) := by
  have H1 := Lib.hid (G3st.start m n hP)
  have HN := Lib.hid hn
  clear hP hn
  go_enter Tryz.func18, Tryz.ntmps18
  go_wp2_with fail
  refine (survey_any A A2 c c2 p _ H1.out.pl).mono ?_
  rintro e w1 ⟨hb, ⟨hv, rfl⟩ | ⟨hv, g, rfl, hg, hN⟩⟩
  · have H2 := Lib.hid (H1.out.next hb)
    clear hv hb
    go_wp2
    go_ret2
    exact ⟨rfl, H2.out.be⟩
  · have H2 := Lib.hid (H1.out.next hb)
    have HNw := Lib.hid hN
    have HR := Lib.hid (show railIn p m.rail = false from HN.out.resolve_left fun h => h hv)
    clear hv hb hN H1
    obtain ⟨_, _, m0, m1, _, _, _, _, _⟩ := H2.out
    go_wp2_with fail
    refine (hasRail_any _ g p m.rail _ HNw.out).mono ?_
    rintro e w2 ⟨rfl, rfl⟩
    rw [HR.out]
    go_wp2
    go_ret2
    exact ⟨rfl, H2.out.be⟩

set_option maxRecDepth 100000 in
set_option maxHeartbeats 1000000 in
theorem Ways_no (most : Int) (hP : PlAt w w.heap.size A c A2 c2 p) (hn : ¬ Vld p ∨ railIn p m.rail = false) :
    Calls Tryz.prog 20 #[.agg #[.slice A p.nodes.length c, .slice A2 p.rails.length c2], .agg #[.int .i64 m.rail, .bool m.last], .agg #[.int .i64 n.rail, .bool n.last], .int .i64 most] w (PlainPost (.tuple #[.slice none 0 0, .int .i64 2]) w) := by
  have H1 := Lib.hid (G3st.start m n hP)
  have HN := Lib.hid hn
  clear hP hn
  go_enter Tryz.func20, Tryz.ntmps20
  go_wp2_with fail
  refine (survey_any A A2 c c2 p _ H1.out.pl).mono ?_
  rintro e w1 ⟨hb, ⟨hv, rfl⟩ | ⟨hv, g, rfl, hg, hN⟩⟩
  · have H2 := Lib.hid (H1.out.next hb)
    clear hv hb
    go_wp2
    go_ret2
    exact ⟨rfl, H2.out.be⟩
  · have H2 := Lib.hid (H1.out.next hb)
    have HNw := Lib.hid hN
    have HR := Lib.hid (show railIn p m.rail = false from HN.out.resolve_left fun h => h hv)
    clear hv hb hN H1
    obtain ⟨_, _, m0, m1, _, _, _, _, _⟩ := H2.out
    go_wp2_with fail
    refine (hasRail_any _ g p m.rail _ HNw.out).mono ?_
    rintro e w2 ⟨rfl, rfl⟩
    rw [HR.out]
    go_wp2
    go_ret2
    exact ⟨rfl, H2.out.be⟩

set_option maxRecDepth 100000 in
set_option maxHeartbeats 1000000 in
theorem Turns_no (r : Int) (hP : PlAt w w.heap.size A c A2 c2 p) (hn : ¬ Vld p ∨ railIn p r = false) :
    Calls Tryz.prog 21 #[.agg #[.slice A p.nodes.length c, .slice A2 p.rails.length c2], .int .i64 r] w (PlainPost (.tuple #[.bool false, .int .i64 2]) w) := by
  have HP := Lib.hid (hP.box (.cells #[.slice A p.nodes.length c, .slice A2 p.rails.length c2] 25))
  have HB0 := Lib.hid ((Below.refl w.heap.size w).alloc (Nat.le_refl _) (.cells #[.slice A p.nodes.length c, .slice A2 p.rails.length c2] 25))
  have HN := Lib.hid hn
  clear hP hn
  go_enter Tryz.func21, Tryz.ntmps21
  go_wp2_with fail
  refine (survey_any A A2 c c2 p _ HP.out).mono ?_
  rintro e w1 ⟨hb, ⟨hv, rfl⟩ | ⟨hv, g, rfl, hg, hN⟩⟩
  · have HB := Lib.hid (HB0.out.trans (hb.mono (by simp)))
    clear hv hb
    go_wp2
    go_ret2
    exact ⟨rfl, HB.out⟩
  · have HB := Lib.hid (HB0.out.trans (hb.mono (by simp)))
    have HNw := Lib.hid hN
    have HR := Lib.hid (show railIn p r = false from HN.out.resolve_left fun h => h hv)
    clear hv hb hN
    go_wp2_with fail
    refine (hasRail_any _ g p r _ HNw.out).mono ?_
    rintro e w2 ⟨rfl, rfl⟩
    rw [HR.out]
    go_wp2
    go_ret2
    exact ⟨rfl, HB.out⟩

/-- a plan at block K and a move behind it, in a world that is later -/
structure G2st (w wr : World) (K : Nat) (A : Option Addr) (c : Nat) (A2 : Option Addr) (c2 : Nat) (p : Pl) (m : E) : Prop where
  k0 : wr.cell? ⟨K, 0, none⟩ = some (.slice A p.nodes.length c)
  k1 : wr.cell? ⟨K, 1, none⟩ = some (.slice A2 p.rails.length c2)
  m0 : wr.cell? ⟨K + 1, 0, none⟩ = some (.int .i64 m.rail)
  m1 : wr.cell? ⟨K + 1, 1, none⟩ = some (.bool m.last)
  pl : PlAt wr wr.heap.size A c A2 c2 p
  be : Below w.heap.size w wr
  lt : K + 1 < wr.heap.size
variable {A A2 c c2 p m w}
theorem G2st.next {wr w' : World} {K : Nat} (h : G2st w wr K A c A2 c2 p m) (hb : Below wr.heap.size wr w') : G2st w w' K A c A2 c2 p m := by
  have hl := h.lt
  have hk : ∀ b i, b ≤ K + 1 → w'.cell? ⟨b, i, none⟩ = wr.cell? ⟨b, i, none⟩ := fun b i hb' => hb.cell (p := ⟨b, i, none⟩) (Nat.lt_of_le_of_lt hb' hl)
  exact ⟨(hk _ _ (by omega)).trans h.k0, (hk _ _ (by omega)).trans h.k1, (hk _ _ (by omega)).trans h.m0, (hk _ _ (by omega)).trans h.m1, (h.pl.below hb).more hb.size, h.be.trans (hb.mono h.be.size), Nat.lt_of_lt_of_le h.lt hb.size⟩
theorem G2st.start (m : E) (h : PlAt w w.heap.size A c A2 c2 p) :
    G2st w ((w.alloc (.cells #[.slice A p.nodes.length c, .slice A2 p.rails.length c2] 25)).alloc (.cells #[.int .i64 m.rail, .bool m.last] 27)) w.heap.size A c A2 c2 p m := by
  have hz : ∀ i, ((w.alloc (.cells #[.slice A p.nodes.length c, .slice A2 p.rails.length c2] 25)).alloc (.cells #[.int .i64 m.rail, .bool m.last] 27)).cell? ⟨w.heap.size, i, none⟩ = #[.slice A p.nodes.length c, .slice A2 p.rails.length c2][i]? := fun i =>
    cell_keep1 (cell_new1 w _ _ i) (by simp)
  have hy : ∀ i, ((w.alloc (.cells #[.slice A p.nodes.length c, .slice A2 p.rails.length c2] 25)).alloc (.cells #[.int .i64 m.rail, .bool m.last] 27)).cell? ⟨w.heap.size + 1, i, none⟩ = #[.int .i64 m.rail, .bool m.last][i]? := fun i => by
    have := cell_new1 (w.alloc (.cells #[.slice A p.nodes.length c, .slice A2 p.rails.length c2] 25)) #[.int .i64 m.rail, .bool m.last] 27 i
    rwa [show (w.alloc (.cells #[.slice A p.nodes.length c, .slice A2 p.rails.length c2] 25)).heap.size = w.heap.size + 1 by simp] at this
  exact ⟨hz 0, hz 1, hy 0, hy 1, (h.box _).box _, ((Below.refl _ w).alloc (Nat.le_refl _) _).alloc (by simp) _, by simp⟩
variable (A A2 c c2 p m w)
set_option maxRecDepth 100000 in
set_option maxHeartbeats 1000000 in
theorem Consistent_no (d : Value) (hP : PlAt w w.heap.size A c A2 c2 p) (hn : ¬ Vld p ∨ railIn p m.rail = false) :
    Calls Tryz.prog 23 #[.agg #[.slice A p.nodes.length c, .slice A2 p.rails.length c2], .agg #[.int .i64 m.rail, .bool m.last], d] w (PlainPost (.bool false) w) := by
  have H1 := Lib.hid (G2st.start m hP)
  have HN := Lib.hid hn
  clear hP hn
  go_enter Tryz.func23, Tryz.ntmps23
  go_wp2_with fail
  refine (survey_any A A2 c c2 p _ H1.out.pl).mono ?_
  rintro e w1 ⟨hb, ⟨hv, rfl⟩ | ⟨hv, g, rfl, hg, hN⟩⟩
  · have H2 := Lib.hid (H1.out.next hb)
    clear hv hb
    go_wp2
    go_ret
    exact ⟨rfl, H2.out.be⟩
  · have H2 := Lib.hid (H1.out.next hb)
    have HNw := Lib.hid hN
    have HR := Lib.hid (show railIn p m.rail = false from HN.out.resolve_left fun h => h hv)
    clear hv hb hN H1
    obtain ⟨_, _, m0, m1, _, _, _⟩ := H2.out
    go_wp2_with fail
    refine (hasRail_any _ g p m.rail _ HNw.out).mono ?_
    rintro e w2 ⟨rfl, rfl⟩
    rw [HR.out]
    go_wp2
    go_ret
    exact ⟨rfl, H2.out.be⟩
end

section
variable (A A2 : Option Addr) (c c2 : Nat) (p : Pl) (m : E) (w : World)
def RefC : Prop := Calls Tryz.prog 3 #[.agg #[.slice A p.nodes.length c, .slice A2 p.rails.length c2], .agg #[.int .i64 m.rail, .bool m.last]] w fun e w' => e = .returned (.bool true) ∧ Below w.heap.size w w'
def ValB (p : Pl) (v : Bool) : Prop := ∀ (A A2 : Option Addr) (c c2 : Nat) (w : World), PlAt w w.heap.size A c A2 c2 p → Calls Tryz.prog 9 #[.agg #[.slice A p.nodes.length c, .slice A2 p.rails.length c2]] w fun e w' => e = .returned (.bool v) ∧ Below w.heap.size w w'
theorem valB_is {p : Pl} (v : Bool) (h : v = true ↔ Vld p) : ValB p v := fun A A2 c c2 w hP => (Valid_any A A2 c c2 p w hP).mono fun e w' ⟨⟨b, h1, h2⟩, h3⟩ => by
  have : b = v := by rw [Bool.eq_iff_iff]; exact h2.trans h.symm
  exact ⟨by rw [h1, this], h3⟩

set_option maxRecDepth 100000 in
set_option maxHeartbeats 1000000 in
theorem Ref_big (hP : PlAt w w.heap.size A c A2 c2 p) (hs : smallB p = false) : RefC A A2 c c2 p m w := by
  have H1 := Lib.hid (G2st.start m hP)
  have HS := Lib.hid hs
  clear hP hs
  unfold RefC
  go_enter Tryz.func3, Tryz.ntmps3
  go_wp2_with fail
  refine (small_any A A2 c c2 p _ H1.out.pl).mono ?_
  rintro e w2 ⟨rfl, hb2⟩
  rw [HS.out]
  have H2 := Lib.hid (H1.out.next hb2)
  clear hb2 H1
  go_wp2_with fail
  refine (known_any _).mono ?_
  rintro e w3 ⟨rfl, hb3⟩
  have H3 := Lib.hid (H2.out.next hb3)
  clear hb3 H2
  go_wp2
  go_ret
  exact ⟨rfl, H3.out.be⟩

set_option maxRecDepth 100000 in
set_option maxHeartbeats 1000000 in
theorem Ref_ok (hP : PlAt w w.heap.size A c A2 c2 p) (hs : smallB p = true) (hv : Vld p) (hr : railIn p m.rail = true) : RefC A A2 c c2 p m w := by
  have H1 := Lib.hid (G2st.start m hP)
  have HS := Lib.hid hs; have HV := Lib.hid (valB_is true ⟨fun _ => hv, fun _ => rfl⟩); have HR := Lib.hid hr
  clear hP hs hv hr
  unfold RefC
  go_enter Tryz.func3, Tryz.ntmps3
  go_wp2_with fail
  refine (small_any A A2 c c2 p _ H1.out.pl).mono ?_
  rintro e w2 ⟨rfl, hb2⟩
  rw [HS.out]
  have H2 := Lib.hid (H1.out.next hb2)
  clear hb2 H1
  obtain ⟨k0, k1, m0, m1, _, _, _⟩ := H2.out
  go_wp2_with fail
  refine (HV.out A A2 c c2 _ H2.out.pl).mono ?_
  rintro e w3 ⟨rfl, hb3⟩
  have H3 := Lib.hid (H2.out.next hb3)
  clear hb3 H2 k0 k1 m0 m1
  obtain ⟨k0, k1, m0, m1, _, _, _⟩ := H3.out
  go_wp2_with fail
  refine (Move_any A A2 c c2 p m.rail m.last _ H3.out.pl).mono ?_
  rintro e w4 ⟨rfl, hb4⟩
  rw [HR.out]
  have H4 := Lib.hid (H3.out.next hb4)
  clear hb4 H3 k0 k1 m0 m1
  go_wp2_with fail
  refine (known_any _).mono ?_
  rintro e w5 ⟨rfl, hb5⟩
  have H5 := Lib.hid (H4.out.next hb5)
  clear hb5 H4
  go_wp2
  go_ret
  exact ⟨rfl, H5.out.be⟩

set_option maxRecDepth 100000 in
set_option maxHeartbeats 4000000 in
theorem Ref_in (hP : PlAt w w.heap.size A c A2 c2 p) (hs : smallB p = true) (v : Bool) (hv : v = true ↔ Vld p) (hn : ¬ Vld p ∨ railIn p m.rail = false) : RefC A A2 c c2 p m w := by
  have hn2 : Vld p → railIn p m.rail = true → False := fun h1 h2 => by
    rcases hn with h | h
    · exact h h1
    · rw [h] at h2; cases h2
  have hn3 : ¬ (Vld p ∧ wayOk p [m]) := fun h => hn2 h.1 (by have := (h.2.2.2 0 (by simp)).1; simpa [E1'] using this)
  obtain ⟨M, hM⟩ : ∃ M, 2 * p.rails.length = M := ⟨_, rfl⟩
  have C12 := Lib.hid (show ∀ (w : World), PlAt w w.heap.size A c A2 c2 p → Calls Tryz.prog 12 #[.agg #[.slice A p.nodes.length c, .slice A2 p.rails.length c2], .agg #[.int .i64 m.rail, .bool m.last]] w fun e w' => e = .returned (.tuple #[.slice none 0 0, .int .i64 2]) ∧ Below w.heap.size w w' from fun w hP =>
    (Next_any A A2 c c2 p m w hP).mono fun e w' h => by
      obtain ⟨⟨h1, h2, _⟩ | ⟨_, rfl⟩, hb⟩ := h
      · exact (hn2 h1 h2).elim
      · exact ⟨rfl, hb⟩)
  have C13 := Lib.hid (show ∀ (w : World), PlAt w w.heap.size A c A2 c2 p → Calls Tryz.prog 13 #[.agg #[.slice A p.nodes.length c, .slice A2 p.rails.length c2], .agg #[.int .i64 m.rail, .bool m.last], .agg #[.int .i64 m.rail, .bool m.last]] w fun e w' => e = .returned (.tuple #[.bool false, .int .i64 2]) ∧ Below w.heap.size w w' from fun w hP =>
    (Follows_any A A2 c c2 p m m w hP).mono fun e w' h => by
      obtain ⟨⟨h1, h2, _⟩ | ⟨_, rfl⟩, hb⟩ := h
      · exact (hn2 h1 h2).elim
      · exact ⟨rfl, hb⟩)
  have C14 := Lib.hid (show ∀ (w : World), PlAt w w.heap.size A c A2 c2 p → Calls Tryz.prog 14 #[.agg #[.slice A p.nodes.length c, .slice A2 p.rails.length c2], .agg #[.int .i64 m.rail, .bool m.last], .agg #[.int .i64 m.rail, .bool m.last]] w fun e w' => e = .returned (.tuple #[.agg #[.int .i64 0, .int .i64 0], .int .i64 2]) ∧ Below w.heap.size w w' from fun w hP =>
    (Between_any A A2 c c2 p m m w hP).mono fun e w' h => by
      obtain ⟨⟨_, rfl⟩ | ⟨h1, h2, _⟩, hb⟩ := h
      · exact ⟨rfl, hb⟩
      · exact (hn2 h1 h2).elim)
  have C15 := Lib.hid (show ∀ (Kw : Nat) (w : World), PlAt w w.heap.size A c A2 c2 p → Sl w w.heap.size 2 CE (some ⟨Kw, 0, none⟩) [m] → Calls Tryz.prog 15 #[.agg #[.slice A p.nodes.length c, .slice A2 p.rails.length c2], .slice (some ⟨Kw, 0, none⟩) 1 1] w fun e w' => e = .returned (.tuple #[.int .i64 0, .int .i64 2]) ∧ Below w.heap.size w w' from fun Kw w hP hA =>
    (WayLength_any A A2 (some ⟨Kw, 0, none⟩) c c2 1 p [m] w hP hA (by simp)).mono fun e w' h => by
      obtain ⟨⟨h1, h2, _⟩ | ⟨_, rfl⟩, hb⟩ := h
      · exact (hn3 ⟨h1, h2⟩).elim
      · exact ⟨rfl, hb⟩)
  have C16 := Lib.hid (show ∀ (Kw : Nat) (w : World), PlAt w w.heap.size A c A2 c2 p → Sl w w.heap.size 2 CE (some ⟨Kw, 0, none⟩) [m] → Calls Tryz.prog 16 #[.agg #[.slice A p.nodes.length c, .slice A2 p.rails.length c2], .slice (some ⟨Kw, 0, none⟩) 1 1] w fun e w' => e = .returned (.tuple #[.slice none 0 0, .int .i64 2]) ∧ Below w.heap.size w w' from fun Kw w hP hA =>
    Settings_no A A2 c c2 p w (some ⟨Kw, 0, none⟩) 1 [m] hP hA (by simp) hn3)
  have C17 := Lib.hid (show ∀ (Kw : Nat) (w : World), PlAt w w.heap.size A c A2 c2 p → Sl w w.heap.size 2 CE (some ⟨Kw, 0, none⟩) [m] → Calls Tryz.prog 17 #[.agg #[.slice A p.nodes.length c, .slice A2 p.rails.length c2], .slice (some ⟨Kw, 0, none⟩) 1 1, .int .i64 1, .int .i64 1] w fun e w' => e = .returned (.tuple #[.slice none 0 0, .int .i64 2]) ∧ Below w.heap.size w w' from fun Kw w hP hA =>
    (Covers_any A A2 (some ⟨Kw, 0, none⟩) c c2 1 p [m] 1 1 w hP hA (by simp)).mono fun e w' h => by
      obtain ⟨⟨h1, _⟩ | ⟨_, rfl⟩, hb⟩ := h
      · exact (hn3 ⟨h1.1, h1.2.1⟩).elim
      · exact ⟨rfl, hb⟩)
  have C18 := Lib.hid (show ∀ (w : World), PlAt w w.heap.size A c A2 c2 p → Calls Tryz.prog 18 #[.agg #[.slice A p.nodes.length c, .slice A2 p.rails.length c2], .agg #[.int .i64 m.rail, .bool m.last], .agg #[.int .i64 m.rail, .bool m.last]] w fun e w' => e = .returned (.tuple #[.slice none 0 0, .int .i64 2]) ∧ Below w.heap.size w w' from fun w hP =>
    Shortest_no A A2 c c2 p m m w hP hn)
  have C19 := Lib.hid (show ∀ (w : World), PlAt w w.heap.size A c A2 c2 p → Calls Tryz.prog 19 #[.agg #[.slice A p.nodes.length c, .slice A2 p.rails.length c2], .agg #[.int .i64 m.rail, .bool m.last]] w fun e w' => e = .returned (.tuple #[.slice none 0 0, .int .i64 2]) ∧ Below w.heap.size w w' from fun w hP =>
    (Distances_any A A2 c c2 0 [] p m w hP (fun h1 h2 => (hn2 h1 h2).elim)).mono fun e w' h => by
      obtain ⟨⟨h1, h2, _⟩ | ⟨_, rfl⟩, hb⟩ := h
      · exact (hn2 h1 h2).elim
      · exact ⟨rfl, hb⟩)
  have C20 := Lib.hid (show ∀ (w : World), PlAt w w.heap.size A c A2 c2 p → Calls Tryz.prog 20 #[.agg #[.slice A p.nodes.length c, .slice A2 p.rails.length c2], .agg #[.int .i64 m.rail, .bool m.last], .agg #[.int .i64 m.rail, .bool m.last], .int .i64 1] w fun e w' => e = .returned (.tuple #[.slice none 0 0, .int .i64 2]) ∧ Below w.heap.size w w' from fun w hP =>
    Ways_no A A2 c c2 p m m w 1 hP hn)
  have C21 := Lib.hid (show ∀ (w : World), PlAt w w.heap.size A c A2 c2 p → Calls Tryz.prog 21 #[.agg #[.slice A p.nodes.length c, .slice A2 p.rails.length c2], .int .i64 m.rail] w fun e w' => e = .returned (.tuple #[.bool false, .int .i64 2]) ∧ Below w.heap.size w w' from fun w hP =>
    Turns_no A A2 c c2 p w m.rail hP hn)
  have C23 := Lib.hid (show ∀ (w : World), PlAt w w.heap.size A c A2 c2 p → Calls Tryz.prog 23 #[.agg #[.slice A p.nodes.length c, .slice A2 p.rails.length c2], .agg #[.int .i64 m.rail, .bool m.last], .slice none 0 0] w fun e w' => e = .returned (.bool false) ∧ Below w.heap.size w w' from fun w hP =>
    Consistent_no A A2 c c2 p m w (.slice none 0 0) hP hn)
  have C22 := Lib.hid (show ∀ w : World, PlAt w w.heap.size A c A2 c2 p → Calls Tryz.prog 22 #[.agg #[.slice A p.nodes.length c, .slice A2 p.rails.length c2]] w fun e w' => (∃ z n er, e = .returned (.tuple #[.slice z n n, .int .i64 er]) ∧ ((v = true ∧ er = 0) ∨ (v = false ∧ er = 2 ∧ n = 0))) ∧ Below w.heap.size w w' from fun w hP => by
    by_cases h : Vld p
    · obtain ⟨n, res, hres, _⟩ := endless_some h
      refine (Endless_any A A2 c c2 n res p w hP (fun _ => hres)).mono fun e w' h' => ?_
      obtain ⟨⟨_, rb, rfl, _⟩ | ⟨h1, _⟩, hb⟩ := h'
      · exact ⟨⟨_, _, 0, rfl, .inl ⟨hv.2 h, rfl⟩⟩, hb⟩
      · exact absurd h h1
    · refine (Endless_any A A2 c c2 0 [] p w hP (fun h' => absurd h' h)).mono fun e w' h' => ?_
      obtain ⟨⟨h1, _⟩ | ⟨_, rfl⟩, hb⟩ := h'
      · exact absurd h1 h
      · exact ⟨⟨none, 0, 2, rfl, .inr ⟨by cases v; rfl; exact absurd (hv.1 rfl) h, rfl, rfl⟩⟩, hb⟩)
  have C10 := Lib.hid (show v = true → ∀ w : World, PlAt w w.heap.size A c A2 c2 p → Calls Tryz.prog 10 #[.agg #[.slice A p.nodes.length c, .slice A2 p.rails.length c2], .agg #[.int .i64 m.rail, .bool m.last]] w fun e w' => e = .returned (.bool false) ∧ Below w.heap.size w w' from fun h w hP => by
    have := Move_any A A2 c c2 p m.rail m.last w hP
    rwa [show railIn p m.rail = false by cases hr : railIn p m.rail; rfl; exact (hn2 (hv.1 h) hr).elim] at this)
  have HS := Lib.hid hs; have HV := Lib.hid (valB_is v hv)
  have H1 := Lib.hid (G2st.start m hP)
  clear hP hs hv hn hn2 hn3 hM
  unfold RefC
  go_enter Tryz.func3, Tryz.ntmps3
  go_upto_region 1 with (fail)
  generalize (w.alloc (.cells #[.slice A p.nodes.length c, .slice A2 p.rails.length c2] 25)).alloc (.cells #[.int .i64 m.rail, .bool m.last] 27) = W1 at *
  go_cut [39] from 28 to 39 (fun s39 wx => s39 = .bool false ∧ Below W1.heap.size W1 wx)
  case first =>
    obtain ⟨k0, k1, m0, m1, _, _, _⟩ := H1.out
    go_wp2_with fail
    refine (small_any A A2 c c2 p _ H1.out.pl).mono ?_
    rintro e w2 ⟨rfl, hb2⟩
    rw [HS.out]
    have H2 := Lib.hid (H1.out.next hb2)
    have HB2 := Lib.hid hb2
    clear hb2 k0 k1 m0 m1
    obtain ⟨k0, k1, m0, m1, _, _, _⟩ := H2.out
    go_wp2_with fail
    refine (HV.out A A2 c c2 _ H2.out.pl).mono ?_
    rintro e w3 ⟨rfl, hb3⟩
    have H3 := Lib.hid (H2.out.next hb3)
    have HB3 := Lib.hid (HB2.out.trans (hb3.mono HB2.out.size))
    clear hb3 H2 k0 k1 m0 m1
    obtain ⟨k0, k1, m0, m1, _, _, _⟩ := H3.out
    cases v
    · go_wp2_with fail
      go_meet
      exact ⟨rfl, HB3.out⟩
    · have CM := Lib.hid (C10.out rfl)
      go_wp2_with fail
      refine (CM.out _ H3.out.pl).mono ?_
      rintro e w4 ⟨rfl, hb4⟩
      have HB4 := Lib.hid (HB3.out.trans (hb4.mono HB3.out.size))
      clear hb4
      go_wp2_with fail
      go_meet
      exact ⟨rfl, HB4.out⟩
  case rest =>
  obtain ⟨rfl, hb⟩ := hcut
  have HA0 := Lib.hid (H1.out.next hb)
  clear hb H1
  obtain ⟨k0, k1, m0, m1, _, _, _⟩ := HA0.out
  go_upto_region 4 with (fail)
  have hbx := (Below.refl wc.heap.size wc).alloc (Nat.le_refl _) (.cells #[.int .i64 m.rail, .bool m.last] 27)
  have HA1 := Lib.hid (HA0.out.next hbx)
  have HSL1 := Lib.hid (show Sl (wc.alloc (.cells #[.int .i64 m.rail, .bool m.last] 27)) (wc.alloc (.cells #[.int .i64 m.rail, .bool m.last] 27)).heap.size 2 CE (some ⟨wc.heap.size, 0, none⟩) [m] from
    ((Sl.new (f := fE) (size := 2) wc 27 m #[.int .i64 m.rail, .bool m.last] rfl).more (fun _ _ h => h) (by simp)))
  clear hbx HA0 k0 k1 m0 m1
  generalize wc.alloc (.cells #[.int .i64 m.rail, .bool m.last] 27) = wd at *
  generalize wc.heap.size = Kw at *
  obtain ⟨k0, k1, m0, m1, _, _, _⟩ := HA1.out
  go_wp2_with fail
  refine (C12.out _ HA1.out.pl).mono ?_
  rintro e w2 ⟨rfl, hb2⟩
  have HN2 := Lib.hid (HA1.out.next hb2)
  have HL2 := Lib.hid ((HSL1.out.below hb2).more (fun _ _ h => h) hb2.size)
  clear hb2 HA1 HSL1 k0 k1 m0 m1
  obtain ⟨k0, k1, m0, m1, _, _, _⟩ := HN2.out
  go_wp2_with fail
  refine (C13.out _ HN2.out.pl).mono ?_
  rintro e w3 ⟨rfl, hb3⟩
  have HN3 := Lib.hid (HN2.out.next hb3)
  have HL3 := Lib.hid ((HL2.out.below hb3).more (fun _ _ h => h) hb3.size)
  clear hb3 HN2 HL2 k0 k1 m0 m1
  obtain ⟨k0, k1, m0, m1, _, _, _⟩ := HN3.out
  go_wp2_with fail
  refine (C14.out _ HN3.out.pl).mono ?_
  rintro e w4 ⟨rfl, hb4⟩
  have HN4 := Lib.hid (HN3.out.next hb4)
  have HL4 := Lib.hid ((HL3.out.below hb4).more (fun _ _ h => h) hb4.size)
  clear hb4 HN3 HL3 k0 k1 m0 m1
  have hbA := (Below.refl _ w4).alloc (Nat.le_refl _) (.cells #[.int .i64 0, .int .i64 0] 38)
  have HNx := Lib.hid (HN4.out.next hbA)
  have HLx := Lib.hid ((HL4.out.below hbA).more (fun _ _ h => h) hbA.size)
  obtain ⟨x0, x1, _, _⟩ := row2 (heap_alloc_new w4 (.cells #[.int .i64 0, .int .i64 0] 38))
  have hx : w4.heap.size < (w4.alloc (.cells #[.int .i64 0, .int .i64 0] 38)).heap.size := by simp
  clear hbA HN4 HL4
  go_upto_region 7 with (fail)
  generalize w4.alloc (.cells #[.int .i64 0, .int .i64 0] 38) = wx at *
  generalize w4.heap.size = Kx at *
  obtain ⟨k0, k1, m0, m1, _, _, _⟩ := HNx.out
  go_wp2_with fail
  refine (C15.out _ _ HNx.out.pl HLx.out).mono ?_
  rintro e w5 ⟨rfl, hb5⟩
  have HN5 := Lib.hid (HNx.out.next hb5)
  have HL5 := Lib.hid ((HLx.out.below hb5).more (fun _ _ h => h) hb5.size)
  replace x0 := (hb5.cell (p := ⟨Kx, 0, none⟩) hx).trans x0
  replace x1 := (hb5.cell (p := ⟨Kx, 1, none⟩) hx).trans x1
  replace hx := Nat.lt_of_lt_of_le hx hb5.size
  clear hb5 HNx HLx k0 k1 m0 m1
  obtain ⟨k0, k1, m0, m1, _, _, _⟩ := HN5.out
  go_wp2_with fail
  refine (C16.out _ _ HN5.out.pl HL5.out).mono ?_
  rintro e w6 ⟨rfl, hb6⟩
  have HN6 := Lib.hid (HN5.out.next hb6)
  have HL6 := Lib.hid ((HL5.out.below hb6).more (fun _ _ h => h) hb6.size)
  replace x0 := (hb6.cell (p := ⟨Kx, 0, none⟩) hx).trans x0
  replace x1 := (hb6.cell (p := ⟨Kx, 1, none⟩) hx).trans x1
  replace hx := Nat.lt_of_lt_of_le hx hb6.size
  clear hb6 HN5 HL5 k0 k1 m0 m1
  obtain ⟨k0, k1, m0, m1, _, _, _⟩ := HN6.out
  go_wp2_with fail
  refine (C17.out _ _ HN6.out.pl HL6.out).mono ?_
  rintro e w7 ⟨rfl, hb7⟩
  have HN7 := Lib.hid (HN6.out.next hb7)
  have HL7 := Lib.hid ((HL6.out.below hb7).more (fun _ _ h => h) hb7.size)
  replace x0 := (hb7.cell (p := ⟨Kx, 0, none⟩) hx).trans x0
  replace x1 := (hb7.cell (p := ⟨Kx, 1, none⟩) hx).trans x1
  replace hx := Nat.lt_of_lt_of_le hx hb7.size
  clear hb7 HN6 HL6 k0 k1 m0 m1
  obtain ⟨k0, k1, m0, m1, _, _, _⟩ := HN7.out
  go_wp2_with fail
  refine (C18.out _ HN7.out.pl).mono ?_
  rintro e w8 ⟨rfl, hb8⟩
  have HN8 := Lib.hid (HN7.out.next hb8)
  have HL8 := Lib.hid ((HL7.out.below hb8).more (fun _ _ h => h) hb8.size)
  replace x0 := (hb8.cell (p := ⟨Kx, 0, none⟩) hx).trans x0
  replace x1 := (hb8.cell (p := ⟨Kx, 1, none⟩) hx).trans x1
  replace hx := Nat.lt_of_lt_of_le hx hb8.size
  clear hb8 HN7 HL7 k0 k1 m0 m1
  obtain ⟨k0, k1, m0, m1, _, _, _⟩ := HN8.out
  go_wp2_with fail
  refine (C19.out _ HN8.out.pl).mono ?_
  rintro e w9 ⟨rfl, hb9⟩
  have HN9 := Lib.hid (HN8.out.next hb9)
  have HL9 := Lib.hid ((HL8.out.below hb9).more (fun _ _ h => h) hb9.size)
  replace x0 := (hb9.cell (p := ⟨Kx, 0, none⟩) hx).trans x0
  replace x1 := (hb9.cell (p := ⟨Kx, 1, none⟩) hx).trans x1
  replace hx := Nat.lt_of_lt_of_le hx hb9.size
  clear hb9 HN8 HL8 k0 k1 m0 m1
  obtain ⟨k0, k1, m0, m1, _, _, _⟩ := HN9.out
  go_wp2_with fail
  refine (C20.out _ HN9.out.pl).mono ?_
  rintro e w10 ⟨rfl, hb10⟩
  have HN10 := Lib.hid (HN9.out.next hb10)
  have HL10 := Lib.hid ((HL9.out.below hb10).more (fun _ _ h => h) hb10.size)
  replace x0 := (hb10.cell (p := ⟨Kx, 0, none⟩) hx).trans x0
  replace x1 := (hb10.cell (p := ⟨Kx, 1, none⟩) hx).trans x1
  replace hx := Nat.lt_of_lt_of_le hx hb10.size
  clear hb10 HN9 HL9 k0 k1 m0 m1
  obtain ⟨k0, k1, m0, m1, _, _, _⟩ := HN10.out
  go_wp2_with fail
  refine (C21.out _ HN10.out.pl).mono ?_
  rintro e w11 ⟨rfl, hb11⟩
  have HN11 := Lib.hid (HN10.out.next hb11)
  have HL11 := Lib.hid ((HL10.out.below hb11).more (fun _ _ h => h) hb11.size)
  replace x0 := (hb11.cell (p := ⟨Kx, 0, none⟩) hx).trans x0
  replace x1 := (hb11.cell (p := ⟨Kx, 1, none⟩) hx).trans x1
  replace hx := Nat.lt_of_lt_of_le hx hb11.size
  clear hb11 HN10 HL10 k0 k1 m0 m1
  obtain ⟨k0, k1, m0, m1, _, _, _⟩ := HN11.out
  go_wp2_with fail
  refine (C22.out _ HN11.out.pl).mono ?_
  rintro e w12 ⟨⟨zz, nn, er, rfl, her⟩, hb12⟩
  have HN12 := Lib.hid (HN11.out.next hb12)
  have HL12 := Lib.hid ((HL11.out.below hb12).more (fun _ _ h => h) hb12.size)
  replace x0 := (hb12.cell (p := ⟨Kx, 0, none⟩) hx).trans x0
  replace x1 := (hb12.cell (p := ⟨Kx, 1, none⟩) hx).trans x1
  replace hx := Nat.lt_of_lt_of_le hx hb12.size
  clear hb12 HN11 HL11 k0 k1 m0 m1
  have HER := Lib.hid her
  clear her
  obtain ⟨k0, k1, m0, m1, _, _, _⟩ := HN12.out
  go_wp2_with fail
  refine (HV.out A A2 c c2 _ HN12.out.pl).mono ?_
  rintro e wv ⟨rfl, hbv⟩
  have HNv := Lib.hid (HN12.out.next hbv)
  replace x0 := (hbv.cell (p := ⟨Kx, 0, none⟩) hx).trans x0
  replace x1 := (hbv.cell (p := ⟨Kx, 1, none⟩) hx).trans x1
  clear hbv k0 k1 m0 m1 HN12 HL12 hx
  obtain ⟨k0, k1, m0, m1, _, _, _⟩ := HNv.out
  rcases HER.out with ⟨rfl, rfl⟩ | ⟨rfl, rfl, rfl⟩
  · go_wp2_with fail
    refine (C23.out _ HNv.out.pl).mono ?_
    rintro e wy ⟨rfl, hby⟩
    have HNy := Lib.hid (HNv.out.next hby)
    clear hby HNv k0 k1 m0 m1
    go_wp2_with fail
    refine (known_any _).mono ?_
    rintro e wz ⟨rfl, hbz⟩
    have HNz := Lib.hid (HNy.out.next hbz)
    clear hbz HNy
    go_wp2
    go_ret
    exact ⟨rfl, HNz.out.be⟩
  · go_wp2_with fail
    refine (C23.out _ HNv.out.pl).mono ?_
    rintro e wy ⟨rfl, hby⟩
    have HNy := Lib.hid (HNv.out.next hby)
    clear hby HNv k0 k1 m0 m1
    go_wp2_with fail
    refine (known_any _).mono ?_
    rintro e wz ⟨rfl, hbz⟩
    have HNz := Lib.hid (HNy.out.next hbz)
    clear hbz HNy
    go_wp2
    go_ret
    exact ⟨rfl, HNz.out.be⟩

theorem Ref_any (hP : PlAt w w.heap.size A c A2 c2 p) : RefC A A2 c c2 p m w := by
  cases hs : smallB p
  · exact Ref_big A A2 c c2 p m w hP hs
  · by_cases hv : Vld p
    · cases hr : railIn p m.rail
      · exact Ref_in A A2 c c2 p m w hP hs true ⟨fun _ => hv, fun _ => rfl⟩ (.inr hr)
      · exact Ref_ok A A2 c c2 p m w hP hs hv hr
    · exact Ref_in A A2 c c2 p m w hP hs false ⟨fun h => (by cases h), fun h => absurd h hv⟩ (.inl hv)
end
section row
open Go.ChangeShapes Go.WideShapes Go.ChangeAt Go.Deep
theorem Tryz.c27q : Tryz.prog.cellsOf 27 = 2 := by kernel_rfl
theorem Tryz.b27q : 1 ≤ Tryz.prog.bytesOf 27 := by rw [show Tryz.prog.bytesOf 27 = 16 by kernel_rfl]; omega
section
variable {H : Type} {enc : TypeId × Value → H} {w : World} {fuel : Nat} {cs : List Value} {x : DataW H × List MemPlace}
set_option maxRecDepth 100000 in
theorem read_Mq (h : DataW.trod enc Tryz.prog w 0 (fun _ => true) true fuel 27 cs = some x) (hl : InReach Tryz.prog 27 x.1) : ∃ z : E, CE z cs := by
  have hn := read_len Tryz.underlying27 h
  rw [Tryz.c27q] at hn
  obtain ⟨n1, y1, h1, _⟩ := read_at Tryz.underlying27 h hl 0 rfl Tryz.c3
  obtain ⟨n2, y2, h2, _⟩ := read_at Tryz.underlying27 h hl 1 rfl Tryz.c4
  obtain ⟨a, ha, _, _⟩ := DataW.trod_int Tryz.underlying3 h1
  obtain ⟨b, hb, _⟩ := DataW.trod_bool Tryz.underlying4 h2
  match cs, hn with
  | [u, v], _ =>
    simp at ha hb
    subst ha; subst hb
    exact ⟨⟨a, b⟩, rfl⟩
theorem read_Msq (h : DataW.trod enc Tryz.prog w 0 (fun _ => true) true fuel 31 cs = some x) (hl : InReach Tryz.prog 31 x.1) :
    ∃ (A : Option Addr) (l : List E) (c : Nat), cs = [.slice A l.length c] ∧ Sl w w.heap.size 2 CE A l ∧ l.length ≤ c ∧ c ≤ 140737488351232 :=
  read_slice (C := CE) Tryz.underlying31 Tryz.c27q (by omega) Tryz.b27q h hl fun n cs' y h hl => read_Mq h hl
end

set_option maxRecDepth 100000 in
set_option maxHeartbeats 1600000 in
theorem trackRefuses_lifted (os : Os) (started : os.Started) (H : Type) (enc : TypeId × Value → H) :
    ReturnsInHanded {} Tryz.checked os 3 .any (Rows.trackRefusesSpec.pre6 enc Tryz.prog Tryz.f3 Rows.trackRefusesRow.domain false) (Rows.trackRefusesSpec.post enc Tryz.prog Tryz.f3 false true false false) := by
  refine returnsInHanded_of_change_sized (C := Tryz.checked) (by kernel_rfl : ownKnob Tryz.prog.godebug = none) started (by kernel_rfl) Tryz.func3
    (ChangeSpec.witness6 (enc := enc) (C := Tryz.checked) false ⟨#[], #[.agg #[.slice none 0 0, .slice none 0 0], .agg #[.int .i64 0, .bool false]], []⟩ 8 (by kernel_rfl) (by kernel_rfl) (by kernel_rfl) (by kernel_rfl)) ?_
  intro W base args ds gs before hval0 hW _ hsz0 _
  have hsz : (DataW.weightsEach Tryz.prog (Tryz.f3.params.toList ++ Rows.trackRefusesSpec.plain.varTypes Tryz.prog) (ds ++ gs)).all (· ≤ reachBytes) = true := hsz0
  clear hsz0
  have hval : ∀ (j : Nat) t v, Tryz.f3.params[j]? = some t → args[j]? = some v → Value.okWide Tryz.prog W .any base t v := hval0
  have hW' := hW
  obtain ⟨p, q, hA0, hV, rfl, hfz, _⟩ := hW
  have hA : DataW.TrodAll enc Tryz.prog W 0 (fun _ => true) true Tryz.f3.params.toList args.toList ds p := hA0
  rw [Tryz.params3] at hA hval hsz
  obtain ⟨v0, v1, d0, d1, p0, p1, rfl, rfl, rfl, h0, h1⟩ := trodAll_two hA
  obtain ⟨rfl, rfl⟩ := trodVars_none hV
  obtain ⟨cs0, rfl, hcs0⟩ := okWide_struct Tryz.underlying25 (hval 0 25 v0 rfl rfl)
  obtain ⟨cs1, rfl, hcs1⟩ := okWide_struct Tryz.underlying27 (hval 1 27 v1 rfl rfl)
  have h0k := h0
  have h1k := h1
  obtain ⟨fuel0, hf0⟩ := h0
  obtain ⟨fuel1, hf1⟩ := h1
  clear hA0 hval0 hA
  simp only [List.append_nil] at hW' hsz
  have hlt : ∀ x ∈ p0 ++ p1, x.block < W.heap.size := fun x hx => hW'.lt x (by simpa using hx)
  obtain ⟨pl, A, c, A2, c2, hq0, hP⟩ := read_Pl (enc := enc) (w := W) (x := (d0, p0)) hf0 (fun n hn => by
    have := List.all_eq_true.1 hsz n (DataW.weights_mem_each (j := 0) (t := 25) (d := d0) rfl rfl n hn)
    simpa using this)
  obtain ⟨m1, hq1⟩ := read_Mq (enc := enc) (w := W) (x := (d1, p1)) hf1 (fun n hn => by
    have := List.all_eq_true.1 hsz n (DataW.weights_mem_each (j := 1) (t := 27) (d := d1) rfl rfl n hn)
    simpa using this)
  obtain rfl : cs0 = #[.slice A pl.nodes.length c, .slice A2 pl.rails.length c2] := by
    apply Array.toList_inj.1
    simpa [Value.cells] using hq0
  obtain rfl : cs1 = #[.int .i64 m1.rail, .bool m1.last] := by
    apply Array.toList_inj.1
    unfold CE at hq1
    simpa [Value.cells] using hq1
  refine (Ref_any A A2 c c2 pl m1 W hP).mono fun e W' ⟨he, hb⟩ => ?_
  subst he
  have hs : W.Since W.heap.size W' := ⟨hb.os, hb.tape, hb.output, hb.size, hb.block⟩
  have laid : laidOutB Tryz.prog = true := by kernel_rfl
  have ha0 : DataW.Trod enc Tryz.prog W' 0 (fun b => decide (b < W.heap.size)) true 25 (.agg #[.slice A pl.nodes.length c, .slice A2 pl.rails.length c2]) d0 p0 :=
    WideElems.Trod_stays laid (by kernel_rfl) (of_decide_eq_true (by kernel_rfl)) h0k (fun x hx => hs.sameAt (hlt x (by simp [hx]))) (fun x hx => by simpa using hlt x (by simp [hx]))
  have ha1 : DataW.Trod enc Tryz.prog W' 0 (fun b => decide (b < W.heap.size)) true 27 (.agg #[.int .i64 m1.rail, .bool m1.last]) d1 p1 :=
    WideElems.Trod_stays laid (by kernel_rfl) (of_decide_eq_true (by kernel_rfl)) h1k (fun x hx => hs.sameAt (hlt x (by simp [hx]))) (fun x hx => by simpa using hlt x (by simp [hx]))
  exact ⟨_, rfl, _, _, _, [], p0 ++ p1, [], hW', trodAll_mk1 (shut_bool Tryz.underlying4 true), by have := trodAll_mk2 ha0 ha1; (try simp only [List.append_nil, List.nil_append, ← List.append_assoc] at this); exact this, rfl, hs.frame _, fun h => by cases h⟩

theorem trackRefuses_holds : Rows.TrackRefusesSaid :=
  OpenClaim.holds_of_wide 3 Tryz.f3 rfl rfl rfl rfl rfl rfl rfl ⟨rfl, rfl, rfl, rfl, rfl⟩ rfl rfl rfl rfl rfl (by kernel_rfl) Tryz.func3 (by kernel_rfl)
    (of_decide_eq_true (by kernel_rfl)) (by unfold Func.isWrapper; rw [if_neg (of_decide_eq_false (by kernel_rfl))]; exact ⟨rfl, rfl⟩)
    (fun os started H enc _ => trackRefuses_lifted os started H enc)
end row
end Go.Proofs.YtcpanfpijljeaaaGreat
